/-
  The small machine's operations on slices and strings: parts of them; elements of the call's own rows; what is made; bytes and strings.
-/
import Derived.Test.YtjdemohgegldaaaAm10
import Derived.Laws.Slices
import Derived.Laws.BytesString
import Derived.Laws.MakeOwn
import Derived.ChangeKeysEq
namespace Go.Proofs.Ytjdemohgegldaaa
set_option linter.unusedSimpArgs false
set_option linter.unusedVariables false
open Go.RowKit

def optI (dflt : Int) : Option D → Option Int
  | none => some dflt
  | some (.v (.int _ i)) => some i
  | _ => none
def D.cutS : D → Option D → Option D → Option D
  | .v (.string s), lo, hi => match optI 0 lo, optI (s.size : Nat) hi with
    | some l, some h => if 0 ≤ l ∧ l ≤ h ∧ h ≤ (s.size : Nat) then some (.v (.string (s.extract l.toNat h.toNat))) else none
    | _, _ => none
  | _, _, _ => none
def D.cutL (sz : Nat) : D → Option D → Option D → Option D → Option D
  | .sl sz' es, lo, hi, mx => match optI 0 lo, optI (es.length : Nat) hi, optI (es.length : Nat) mx with
    | some l, some h, some m => if sz' = sz ∧ 0 ≤ l ∧ l ≤ h ∧ h ≤ m ∧ m ≤ (es.length : Nat) then some (.sl sz ((es.drop l.toNat).take (h - l).toNat)) else none
    | _, _, _ => none
  | .v (.slice none 0 0), lo, hi, mx => match optI 0 lo, optI 0 hi, optI 0 mx with
    | some l, some h, some m => if l = 0 ∧ h = 0 ∧ m = 0 then some (.v nilS) else none
    | _, _, _ => none
  | _, _, _, _ => none
/-- The data of an operand that may be left out. -/
def optD (ρ : Operand → AV) : Option Operand → Option (Option D)
  | none => some none
  | some y => (ρ y).dat.map some

theorem flat_drop {sz : Nat} : ∀ {es : List D} (l : Nat), (∀ e ∈ es, e.cells.length = sz) → flat (es.drop l) = (flat es).drop (l * sz)
  | [], l, _ => by simp [flat]
  | e :: es, 0, _ => by simp
  | e :: es, l + 1, hw => by
    have ih := flat_drop (es := es) l (fun x hx => hw x (by simp [hx]))
    have h0 := hw e (by simp)
    have e1 : flat (e :: es) = e.cells ++ flat es := by simp [flat]
    rw [List.drop_succ_cons, ih, e1, show (l + 1) * sz = e.cells.length + l * sz by rw [h0, Nat.succ_mul]; omega, ← List.drop_drop, List.drop_left]
theorem flat_take {sz : Nat} : ∀ {es : List D} (l : Nat), (∀ e ∈ es, e.cells.length = sz) → flat (es.take l) = (flat es).take (l * sz)
  | [], l, _ => by simp [flat]
  | e :: es, 0, _ => by simp [flat]
  | e :: es, l + 1, hw => by
    have ih := flat_take (es := es) l (fun x hx => hw x (by simp [hx]))
    have h0 := hw e (by simp)
    have e1 : flat (e :: es) = e.cells ++ flat es := by simp [flat]
    have e2 : flat (e :: es.take l) = e.cells ++ flat (es.take l) := by simp [flat]
    rw [List.take_succ_cons, e2, ih, e1, show (l + 1) * sz = e.cells.length + l * sz by rw [h0, Nat.succ_mul]; omega, List.take_length_add_append]
theorem reads_cut {ok : Nat → Prop} {w : World} {a : Option Addr} {n c sz : Nat} {es : List D} (h : Reads ok w (.slice a n c) (.sl sz es)) {l h' m : Nat} (h1 : l ≤ h') (h2 : h' ≤ es.length) (h3 : h' ≤ m) (h4 : m ≤ c) :
    Reads ok w (sliced a l h' m sz) (.sl sz ((es.drop l).take (h' - l))) := by
  cases h with
  | @sl b o _ _ _ q _ us hs hb hn hc hm hw hl hr =>
    have hw' : ∀ e ∈ (es.drop l).take (h' - l), e.cells.length = sz := fun e he => hw e (List.mem_of_mem_drop (List.mem_of_mem_take he))
    have hlen : ((es.drop l).take (h' - l)).length = h' - l := by simp; omega
    have hf : ∀ k d, (flat ((es.drop l).take (h' - l)))[k]? = some d → (flat es)[l * sz + k]? = some d := by
      intro k d hk
      rw [flat_take _ (fun e he => hw e (List.mem_of_mem_drop he)), flat_drop _ hw, List.getElem?_take] at hk
      split at hk
      · simpa using hk
      · cases hk
    by_cases hml : m = l
    · have : (es.drop l).take (h' - l) = [] := List.eq_nil_of_length_eq_zero (by omega)
      rw [this] at hf ⊢
      simp only [sliced, hml, if_true]
      rw [← hml, show h' - m = 0 by omega, show m - m = 0 by omega]
      exact .sl (fun _ => undef) (fun h => absurd rfl h) (fun h => absurd rfl h) rfl (Nat.le_refl _) (Nat.zero_le _) (by simp) (by simp [flat]) (by simp [flat])
    · simp only [sliced, hml, if_false, Option.map_some]
      have hne : (es.drop l).take (h' - l) ≠ [] → es ≠ [] := by rintro h rfl; simp at h
      obtain ⟨o', q', ha, hq'⟩ : ∃ o' q', (⟨b, o, q⟩ : Addr).add (l * sz) = ⟨b, o', q'⟩ ∧ (q = none → q' = none ∧ o' = o + l * sz) := by
        unfold Addr.add
        split
        · rename_i h0; exact ⟨o, q, rfl, fun h => ⟨h, by omega⟩⟩
        · exact ⟨o + l * sz, none, rfl, fun _ => ⟨rfl, rfl⟩⟩
      rw [ha]
      refine .sl (fun k => us (l * sz + k)) (fun h => (hq' (hs (hne h))).1) (fun h => hb (fun e => by cases hfe : flat ((es.drop l).take (h' - l)) with | nil => exact h hfe | cons d l' => have := hf 0 d (by simp [hfe]); rw [e] at this; simp at this)) hlen (by omega) (by omega) hw' (fun k d hk => ?_) (fun k d hk => ?_)
      · have hne' : es ≠ [] := by rintro rfl; simp [flat] at hk
        obtain ⟨_, e⟩ := hq' (hs hne')
        rw [e, Nat.add_assoc]; exact hl _ d (hf k d hk)
      · exact hr _ d (hf k d hk)

section
variable {P : Program} {o : Oper} {ρ : Operand → AV} {mem : Nat → Option Ob} {t : TypeId} {x y : Operand} {lo hi mx : Option Operand} {i : TypeInfo} {d : TypeDesc}
theorem bound_of {E : Env} {w : World} {a : Act} (hops : ∀ z, z ∈ lo.toList → AVRep E w (ρ z) (a.eval z)) {dl : Option D} (h : optD ρ lo = some dl) {dflt l : Int} (hl : optI dflt dl = some l) (y : Nat) (code : BoundsCode) (h0 : 0 ≤ l) (h1 : l ≤ y) (w' : World) :
    (match lo.map a.eval with | some v => Instr.sliceBound v y code | none => pure dflt.toNat).run P w' = .ok l.toNat w' := by
  cases lo with
  | none =>
    simp only [optD, Option.some.injEq] at h; subst h
    simp only [optI, Option.some.injEq] at hl; subst hl
    rfl
  | some z =>
    simp only [optD] at h
    obtain ⟨dz, hz, rfl⟩ := Option.map_eq_some_iff.1 h
    unfold optI at hl
    split at hl
    · rename_i e; cases e
    · rename_i k i e
      injection e with e; subst e
      injection hl with hl; subst hl
      obtain ⟨e1, _⟩ := AV.dat_v hz (hops z (by simp))
      simp only [Option.map_some, e1]
      exact run_sliceBound w' k i y code h0 h1
    · cases hl
theorem bounds_of {E : Env} {w : World} {a : Act} (hops : ∀ z, z ∈ lo.toList ++ hi.toList ++ mx.toList → AVRep E w (ρ z) (a.eval z)) {dl dh dm : Option D} (h1 : optD ρ lo = some dl) (h2 : optD ρ hi = some dh) (h3 : optD ρ mx = some dm)
    (len cap : Nat) (hlc : len ≤ cap) {l h m : Int} (e1 : optI 0 dl = some l) (e2 : optI (len : Nat) dh = some h) (e3 : optI (len : Nat) dm = some m) (b0 : 0 ≤ l) (b1 : l ≤ h) (b2 : h ≤ m) (b3 : m ≤ (len : Nat)) (b4 : mx.isSome = true → hi.isSome = true) (isS : Bool) (w' : World) :
    (Instr.sliceBounds isS len cap (lo.map a.eval) (hi.map a.eval) (mx.map a.eval)).run P w' = .ok (l.toNat, h.toNat, (if mx.isSome then m.toNat else cap)) w' := by
  have r1 := fun y code h1' w' => bound_of (P := P) (lo := lo) (dl := dl) (fun z hz => hops z (by simp [hz])) h1 e1 y code b0 h1' w'
  have r2 := fun y code h1' w' => bound_of (P := P) (lo := hi) (dl := dh) (fun z hz => hops z (by simp [hz])) h2 e2 y code (by omega) h1' w'
  have r3 := fun y code h1' w' => bound_of (P := P) (lo := mx) (dl := dm) (fun z hz => hops z (by simp [hz])) h3 e3 y code (by omega) h1' w'
  have eh : (h.toNat : Int) = h := Int.toNat_of_nonneg (by omega)
  have em : (m.toNat : Int) = m := Int.toNat_of_nonneg (by omega)
  unfold Instr.sliceBounds
  cases mx with
  | none =>
    simp only [Option.map_none, Option.isSome_none, Bool.false_eq_true, if_false, Sem.run_bind, Sem.run_pure, Result.andThen_ok]
    cases hi with
    | none =>
      have q1 := r1 h.toNat .sliceB (by omega) w'
      have : h = (len : Nat) := by simp only [optD, Option.some.injEq] at h2; subst h2; simpa [optI] using e2.symm
      subst this
      simp only [Int.toNat_natCast] at q1
      cases lo with
      | none => simp only [Option.map_none, Sem.run_pure, Result.andThen_ok] at q1 ⊢; simp at q1; simp [← q1]
      | some z => simp only [Option.map_some] at q1 ⊢; simp [q1]
    | some z2 =>
      have q2 := r2 cap (if isS then .sliceAcap else .sliceAlen) (by omega) w'
      have q1 := r1 h.toNat .sliceB (by omega) w'
      simp only [Option.map_some, Sem.run_bind] at q2 ⊢
      rw [q2]
      simp only [Result.andThen_ok]
      cases lo with
      | none => simp only [Option.map_none, Sem.run_pure, Result.andThen_ok] at q1 ⊢; simp at q1; simp [← q1]
      | some z => simp only [Option.map_some] at q1 ⊢; simp [q1]
  | some z3 =>
    have q3 := r3 cap (if isS then .slice3Acap else .slice3Alen) (by omega) w'
    cases hi with
    | none => simp at b4
    | some z2 =>
      have q2 := r2 m.toNat .slice3B (by omega) w'
      have q1 := r1 h.toNat .slice3C (by omega) w'
      simp only [Option.map_some, Option.isSome_some, if_true, Sem.run_bind] at q2 q3 ⊢
      rw [q3]
      simp only [Result.andThen_ok]
      rw [q2]
      simp only [Result.andThen_ok]
      cases lo with
      | none => simp only [Option.map_none, Sem.run_pure, Result.andThen_ok] at q1 ⊢; simp at q1; simp [← q1]
      | some z => simp only [Option.map_some] at q1 ⊢; simp [q1]

theorem slice_ops (ho : o.op = .slice t x lo hi mx) {z : Operand} (hz : z ∈ lo.toList ++ hi.toList ++ mx.toList) : z ∈ o.op.operands := by
  rw [ho]
  cases lo <;> cases hi <;> cases mx <;> simp [Op.operands] at hz ⊢ <;> simp [hz]
theorem sliceStr_ok (ho : o.op = .slice t x lo hi none) (hd : P.underlying t = some .string) {s r : D} {dl dh : Option D} (hx : (ρ x).dat = some s) (h1 : optD ρ lo = some dl) (h2 : optD ρ hi = some dh) (hr : D.cutS s dl dh = some r) :
    OpOk P o ρ mem (.t (.one (.d r))) [] [] [] := by
  refine OpOk.pure [] fun w0 E mem' w a hS _ hops => ?_
  have hb := fun z hz => hops z (slice_ops ho hz)
  unfold D.cutS at hr
  split at hr
  · rename_i s
    obtain ⟨e1, _⟩ := AV.dat_v hx (hops x (by simp [ho, Op.operands]))
    split at hr
    · rename_i l h hl hh
      split at hr
      · rename_i hc
        injection hr with hr; subst hr
        have hm : optI (s.size : Nat) (none : Option D) = some ((s.size : Nat) : Int) := rfl
        have := bounds_of (P := P) (ρ := ρ) hb h1 h2 (rfl : optD ρ none = some none) s.size s.size (Nat.le_refl _) hl hh hm hc.1 hc.2.1 hc.2.2 (Int.le_refl _) (by simp) false w
        refine ⟨.string (s.extract l.toNat h.toNat), ?_, .v rfl⟩
        simp only [Option.map_none] at this
        simp [execOp, ho, e1, run_sliceAt_string w t _ _ _ _ hd, Instr.slice, run_underlying hd, this]
      · cases hr
    · cases hr
  · cases hr
theorem run_cut {E : Env} {w : World} {a : Act} {e : TypeId} (hd : P.underlying t = some (.slice e)) (hi' : P.info? e = some i) {v : Value} {s r : D} (hr1 : Reads E.im w v s) {dl dh dm : Option D} (h1 : optD ρ lo = some dl) (h2 : optD ρ hi = some dh) (h3 : optD ρ mx = some dm)
    (hm : mx.isSome = true → hi.isSome = true) (hops : ∀ z, z ∈ lo.toList ++ hi.toList ++ mx.toList → AVRep E w (ρ z) (a.eval z)) (hr : D.cutL i.size s dl dh dm = some r) :
    ∃ u, (Instr.sliceAt t v (lo.map a.eval) (hi.map a.eval) (mx.map a.eval)).run P w = .ok u w ∧ Reads E.im w u r := by
  have hel : P.elem t = e := by simp [Program.elem, hd]
  have hd' : P.underlying t = some (.slice (P.elem t)) := by rw [hel]; exact hd
  have hsz : ∀ w, (sizeOf (P.elem t)).run P w = .ok i.size w := fun w => by rw [hel]; simp [sizeOf, typeInfo, hi']
  unfold D.cutL at hr
  split at hr
  · rename_i sz' es
    split at hr
    · rename_i l h m hl hh hmm
      split at hr
      · rename_i hc
        obtain ⟨rfl, c0, c1, c2, c3⟩ := hc
        injection hr with hr; subst hr
        obtain ⟨A, n, c, rfl, hn, hcc⟩ : ∃ A n c, v = .slice A n c ∧ es.length = n ∧ n ≤ c := by
          cases hr1 with
          | sl us hs hb hn hc hm hw hl hr => exact ⟨_, _, _, rfl, hn, hc⟩
        subst hn
        have := bounds_of (P := P) (ρ := ρ) hops h1 h2 h3 es.length c hcc hl hh hmm c0 c1 c2 c3 hm true w
        refine ⟨sliced A l.toNat h.toNat (if mx.isSome then m.toNat else c) i.size, ?_, ?_⟩
        · rw [run_sliceAt_slice w t _ _ _ _ hd', run_slice_any w t A _ c hd', this]
          simp only [Result.andThen_ok, hsz]
        · have e : (h - l).toNat = h.toNat - l.toNat := by omega
          rw [e]
          refine reads_cut hr1 (by omega) (by omega) ?_ ?_
          · split <;> omega
          · split <;> omega
      · cases hr
    · cases hr
  · split at hr
    · rename_i l h m hl hh hmm
      split at hr
      · rename_i hc
        obtain ⟨rfl, rfl, rfl⟩ := hc
        injection hr with hr; subst hr
        have hv : v = .slice none 0 0 := by cases hr1; rfl
        subst hv
        have := bounds_of (P := P) (ρ := ρ) hops h1 h2 h3 0 0 (Nat.le_refl _) hl hh hmm (Int.le_refl _) (Int.le_refl _) (Int.le_refl _) (Int.le_refl _) hm true w
        refine ⟨nilS, ?_, .v rfl⟩
        rw [run_sliceAt_slice w t _ _ _ _ hd', run_slice_any w t none _ 0 hd', this]
        simp only [Result.andThen_ok, hsz]
        cases mx <;> simp [sliced, nilS]
      · cases hr
    · cases hr
  · cases hr
theorem sliceImm_ok (ho : o.op = .slice t x lo hi mx) {e : TypeId} (hd : P.underlying t = some (.slice e)) (hi' : P.info? e = some i) {s r : D} {dl dh dm : Option D} (hx : (ρ x).dat = some s) (h1 : optD ρ lo = some dl) (h2 : optD ρ hi = some dh) (h3 : optD ρ mx = some dm)
    (hm : mx.isSome = true → hi.isSome = true) (hr : D.cutL i.size s dl dh dm = some r) : OpOk P o ρ mem (.t (.one (.d r))) [] [] [] := by
  refine OpOk.pure [] fun w0 E mem' w a hS _ hops => ?_
  obtain ⟨u, hu, hru⟩ := run_cut (P := P) hd hi' (AV.dat_reads hx (hops x (by simp [ho, Op.operands]))) h1 h2 h3 hm (fun z hz => hops z (slice_ops ho hz)) hr
  exact ⟨u, by simp [execOp, ho, hu], hru⟩
theorem sliceImmRow_ok (ho : o.op = .slice t x lo hi mx) {e : TypeId} (hd : P.underlying t = some (.slice e)) (hi' : P.info? e = some i) {q : Nat} {s r : D} {dl dh dm : Option D} (hx : ρ x = .t (.one (.row q))) (hq : mem q = some (.imm s)) (h1 : optD ρ lo = some dl) (h2 : optD ρ hi = some dh) (h3 : optD ρ mx = some dm)
    (hm : mx.isSome = true → hi.isSome = true) (hr : D.cutL i.size s dl dh dm = some r) : OpOk P o ρ mem (.t (.one (.d r))) [q] [] [] := by
  refine OpOk.pure [q] fun w0 E mem' w a hS hacc hops => ?_
  have h0 := hops x (by simp [ho, Op.operands])
  rw [hx] at h0
  obtain ⟨hbn, hv, _⟩ := h0
  obtain ⟨_, hrd⟩ := hS.ob q _ ((hacc q (by simp)).trans hq)
  have hrd : Reads E.im w (E.ι q) s := hrd
  rw [← hv] at hrd
  obtain ⟨u, hu, hru⟩ := run_cut (P := P) hd hi' hrd h1 h2 h3 hm (fun z hz => hops z (slice_ops ho hz)) hr
  exact ⟨u, by simp [execOp, ho, hu], hru⟩
/-- A part of a row of the call's own: the row stays as it is from now on. -/
theorem sliceRow_ok (ho : o.op = .slice t x lo hi mx) {e : TypeId} (hd : P.underlying t = some (.slice e)) (hi' : P.info? e = some i) {q sz : Nat} {s r : D} {dl dh dm : Option D} (hx : ρ x = .t (.one (.row q))) (hq : mem q = some (.row sz s)) (h1 : optD ρ lo = some dl) (h2 : optD ρ hi = some dh) (h3 : optD ρ mx = some dm)
    (hm : mx.isSome = true → hi.isSome = true) (hr : D.cutL i.size s dl dh dm = some r) : OpOk P o ρ mem (.t (.one (.d r))) [q] [] [(q, some (.imm s))] := by
  intro w0 E mem' w a K Q hS hacc _ hops hK
  have h0 := hops x (by simp [ho, Op.operands])
  rw [hx] at h0
  obtain ⟨hbn, hv, _⟩ := h0
  obtain ⟨hS', hle⟩ := hS.freeze ((hacc q (by simp)).trans hq)
  have hrd : Reads (E.frz q).im w (E.ι q) s := (hS'.ob q _ (upd_same _ _ _)).2
  rw [← hv] at hrd
  obtain ⟨u, hu, hru⟩ := run_cut (P := P) (ρ := ρ) (E := E.frz q) (a := a) hd hi' hrd h1 h2 h3 hm (fun z hz => (hops z (slice_ops ho hz)).mono hle (Stable.refl _ _)) hr
  refine wp_of_run (v := u) (w' := w) (by simp [execOp, ho, hu]) ?_
  exact hK (E.frz q) w u hle (fun r hr => .inl hr) (Stable.refl _ _) hru hS'

/-- An element of an array. -/
theorem indexArrD_ok (ho : o.op = .index t x y) {len : Nat} {e : TypeId} (hd : P.underlying t = some (.array len e)) {de : TypeDesc} (hde : P.underlying e = some de) (hi' : P.info? e = some i) {cs : List C} (hx : ρ x = .t (.agg cs)) {k : IntKind} {m : Nat} (hy : (ρ y).dat = some (.v (.int k m))) (hm : m < len) (hz : 0 < i.size) (hl : (m + 1) * i.size ≤ cs.length) :
    OpOk P o ρ mem (bif aggD de then .t (.agg ((cs.drop (m * i.size)).take i.size)) else .t (.one (cs.getD (m * i.size) .bot))) [] [] [] := by
  refine OpOk.pure [] fun w0 E mem' w a hS _ hops => ?_
  have h0 := hops x (by simp [ho, Op.operands])
  rw [hx] at h0
  obtain ⟨vs, hv, hall, hone⟩ := h0
  obtain ⟨e2, _⟩ := AV.dat_v hy (hops y (by simp [ho, Op.operands]))
  have hlen := hall.length
  have hl' : m * i.size + i.size ≤ vs.length := by rw [← hlen, ← Nat.succ_mul]; exact hl
  have hsub : All2 (CRep E w) ((cs.drop (m * i.size)).take i.size) ((vs.drop (m * i.size)).take i.size) := (hall.drop _).take _
  have h1 : (m : Int) < (len : Nat) := by omega
  cases hag : aggD de
  · have hv0 : vs[m * i.size]? = some (vs[m * i.size]'(by omega)) := List.getElem?_eq_getElem (by omega)
    refine ⟨vs[m * i.size]'(by omega), ?_, ?_⟩
    · simp [execOp, ho, hv, e2, Instr.index, asIntOf, run_underlying hd, hm, sizeOf, typeInfo, hi', part, run_isAgg' hde, hag, hv0]
    · simp only [cond_false]
      obtain ⟨u, hu, hr⟩ := hall.get (i := m * i.size) (a := cs[m * i.size]'(by omega)) (by simp)
      have : vs[m * i.size] = u := by simpa using (List.getElem?_eq_getElem (show m * i.size < vs.length by omega)).symm.trans hu
      rw [this]
      show CRep E w (cs.getD (m * i.size) .bot) u
      simpa [List.getD, show m * i.size < cs.length by omega] using hr
  · refine ⟨.agg ((vs.drop (m * i.size)).take i.size).toArray, ?_, _, rfl, hsub, fun u hu => hone u (List.mem_of_mem_drop (List.mem_of_mem_take hu))⟩
    simp [execOp, ho, hv, e2, Instr.index, asIntOf, run_underlying hd, hm, sizeOf, typeInfo, hi', part, run_isAgg' hde, hag, show ¬ len ≤ m by omega]
theorem indexAddrArr_ok (ho : o.op = .indexAddr t x y) {len : Nat} {e : TypeId} (hd : P.underlying t = some (.array len e)) (hi' : P.info? e = some i) {r off : Nat} (hx : ρ x = .t (.one (.ptr r off))) {k : IntKind} {m : Nat} (hy : (ρ y).dat = some (.v (.int k m))) (hm : m < len) :
    OpOk P o ρ mem (.t (.one (.ptr r (off + m * i.size)))) [] [] [] := by
  refine OpOk.pure [] fun w0 E mem' w a hS _ hops => ?_
  have h0 := hops x (by simp [ho, Op.operands])
  rw [hx] at h0
  obtain ⟨hbn, b, hb, hv⟩ := h0
  obtain ⟨e2, _⟩ := AV.dat_v hy (hops y (by simp [ho, Op.operands]))
  have h1 : (m : Int) < (len : Nat) := by omega
  refine ⟨.pointer (some ⟨b, off + m * i.size, none⟩), ?_, hbn, b, hb, rfl⟩
  simp [execOp, ho, hv, e2, Instr.indexAt, Instr.sureAddr, asIntOf, run_underlying hd, h1, sizeOf, typeInfo, hi', addr_add, show ¬ len ≤ m by omega]

/-- An element with some of its cells written. -/
def D.splice (e : D) (j : Nat) (ds : List D) : D := match e with
  | .agg cs => .agg (cs.take j ++ ds ++ cs.drop (j + ds.length))
  | x => match ds with
    | [d] => d
    | _ => x
def D.setAt (l ix : D) (j : Nat) (ds : List D) : D := match l, ix with
  | .sl sz es, .v (.int _ m) => .sl sz (es.set m.toNat ((es.getD m.toNat default).splice j ds))
  | x, _ => x
theorem Reads.plainD {ok : Nat → Prop} {w : World} {v : Value} {d : D} (h : Reads ok w v d) : d.cells = [d] := by cases h <;> rfl
theorem flat_set {sz : Nat} : ∀ {es : List D}, (∀ e ∈ es, e.cells.length = sz) → ∀ {m : Nat} {e e' : D} {j : Nat} {ds : List D}, es[m]? = some e → j + ds.length ≤ sz → e'.cells = e.cells.take j ++ ds ++ e.cells.drop (j + ds.length) →
    flat (es.set m e') = (flat es).take (m * sz + j) ++ ds ++ (flat es).drop (m * sz + j + ds.length)
  | [], _, m, _, _, _, _, h, _, _ => by simp at h
  | e0 :: es, hw, 0, e, e', j, ds, h, hj, he => by
    simp at h; subst h
    have h0 := hw e0 (by simp)
    have e1 : flat (e0 :: es) = e0.cells ++ flat es := by simp [flat]
    have e2 : flat (e' :: es) = e'.cells ++ flat es := by simp [flat]
    rw [List.set_cons_zero, e2, e1, he]
    simp only [Nat.zero_mul, Nat.zero_add]
    rw [List.take_append_of_le_length (by omega), List.drop_append_of_le_length (by omega)]
    simp
  | e0 :: es, hw, m + 1, e, e', j, ds, h, hj, he => by
    have h0 := hw e0 (by simp)
    have ih := flat_set (es := es) (fun x hx => hw x (by simp [hx])) (m := m) (by simpa using h) hj he
    have e1 : flat (e0 :: es) = e0.cells ++ flat es := by simp [flat]
    have e2 : flat (e0 :: es.set m e') = e0.cells ++ flat (es.set m e') := by simp [flat]
    rw [List.set_cons_succ, e2, e1, ih]
    have e3 : (m + 1) * sz + j = e0.cells.length + (m * sz + j) := by rw [h0, Nat.succ_mul]; omega
    rw [e3, List.take_length_add_append, show e0.cells.length + (m * sz + j) + ds.length = e0.cells.length + (m * sz + j + ds.length) by omega, List.drop_length_add_append]
    simp
theorem take_splice {α : Type} {L vs : List α} {N off : Nat} (h : off + vs.length ≤ N) (hN : N ≤ L.length) : (L.take off ++ vs ++ L.drop (off + vs.length)).take N = (L.take N).take off ++ vs ++ (L.take N).drop (off + vs.length) := by
  obtain ⟨A, B, rfl, hA⟩ : ∃ A B, L = A ++ B ∧ A.length = N := ⟨L.take N, L.drop N, (List.take_append_drop _ _).symm, by rw [List.length_take]; omega⟩
  rw [List.take_left' hA, List.take_append_of_le_length (l₁ := A) (by omega), List.drop_append_of_le_length (l₁ := A) (by omega), ← List.append_assoc]
  exact List.take_left' (by simp; omega)
theorem ep_open {E : Env} {w : World} {mem : Nat → Option Ob} {w0 : World} (hS : Sim w0 E mem w) {r : Nat} {ix : D} {sz j : Nat} {v : Value} (h : CRep E w (.ep r ix sz j) v) {l : D} (hm : mem r = some (.row sz l)) :
    ∃ es b c T k m, ∃ cur : Array Value, l = .sl sz es ∧ ix = .v (.int k m) ∧ 0 ≤ m ∧ m < es.length ∧ v = .pointer (some ⟨b, m.toNat * sz + j, none⟩) ∧ E.ι r = .slice (some ⟨b, 0, none⟩) es.length c ∧ w.heap[b]? = some (.cells cur T (0, 0)) ∧ (∀ e ∈ es, e.cells.length = sz) ∧
      es.length ≤ c ∧ 0 < c ∧ c ≤ maxLen ∧ cur.size = c * sz ∧ All2 (Reads E.im w) (cur.toList.take (es.length * sz)) (flat es) := by
  obtain ⟨hbn, b, n, c, m, k, hι, rfl, h0, h1, rfl⟩ := h
  obtain ⟨_, hrow⟩ := hS.ob r _ hm
  have hrow : RowRep E w sz (E.ι r) l := hrow
  rw [hι] at hrow
  rcases hrow with ⟨_, hx⟩ | ⟨es, rfl, hw, ⟨rfl, b', o, hx, _⟩ | ⟨b', c', T, cur, hx, k2, k3, k4, k5, k6, k7⟩⟩
  · simp [nilS] at hx
  · simp at hx; omega
  · simp only [Value.slice.injEq, Option.some.injEq, Addr.mk.injEq, and_true] at hx
    obtain ⟨rfl, rfl, rfl⟩ := hx
    exact ⟨es, b, c, T, k, m, cur, rfl, rfl, h0, h1, rfl, hι, k2, hw, k3, k4, k5, k6, k7⟩
theorem load_ep_ok {p : Operand} (ho : o.op = .load t p) (hi : P.info? t = some i) (hd : P.underlying t = some d) {r sz j : Nat} {ix l : D} (hp : ρ p = .t (.one (.ep r ix sz j))) (hm : mem r = some (.row sz l))
    (hl : j + i.size ≤ (l.at_ ix).cells.length) (hz : 0 < i.size) : OpOk P o ρ mem (bif aggD d then .t (.agg ((List.range i.size).map fun k => C.d ((l.at_ ix).cell (j + k)))) else .t (.one (.d ((l.at_ ix).cell j)))) [r] [] [] := by
  refine OpOk.pure [r] fun w0 E mem' w a hS hacc hx => ?_
  have h1 := hx p (by simp [ho, Op.operands])
  rw [hp] at h1
  obtain ⟨es, b, c, T, k, m, cur, rfl, rfl, h0, hlt, hv, hι, hheap, hw, _, _, _, hsz, hall⟩ := ep_open hS h1 ((hacc r (by simp)).trans hm)
  have hme : es[m.toNat]? = some (D.at_ (.sl sz es) (.v (.int k m))) := by simp [D.at_, show m.toNat < es.length by omega]
  generalize D.at_ (.sl sz es) (.v (.int k m)) = e at hme hl ⊢
  have hel := hw _ (List.mem_of_getElem? hme)
  have hcell : ∀ q, j + q < sz → ∃ u, w.cell? ⟨b, m.toNat * sz + j + q, none⟩ = some u ∧ Reads E.im w u (e.cell (j + q)) := by
    intro q hq
    have hf := flat_at hw hme hq
    rw [D.cell_get (by omega)] at hf
    obtain ⟨u, hu, hr⟩ := hall.getR hf
    rw [List.getElem?_take] at hu
    split at hu
    · refine ⟨u, ?_, hr⟩
      rw [cell_row hheap, Nat.add_assoc]
      simpa using hu
    · cases hu
  have hin : ∀ q, q < i.size → j + q < sz := fun q hq => by omega
  have hcell' : ∀ q, q < i.size → ∃ u, w.cell? ⟨b, m.toNat * sz + j + q, none⟩ = some u ∧ Reads E.im w u (e.cell (j + q)) := fun q hq => hcell q (hin q hq)
  let us := fun q => (w.cell? ⟨b, m.toNat * sz + j + q, none⟩).getD undef
  have hus : ∀ q, q < i.size → w.cell? ⟨b, m.toNat * sz + j + q, none⟩ = some (us q) ∧ Reads E.im w (us q) (e.cell (j + q)) := by
    intro q hq
    obtain ⟨u, hu, hr⟩ := hcell' q hq
    have : us q = u := by simp [us, hu]
    rw [this]; exact ⟨hu, hr⟩
  let vs := (List.range i.size).map us
  have hvl : vs.length = i.size := by simp [vs]
  have hrun := run_loadVar' hi hd w b (m.toNat * sz + j) vs hvl (fun k u hk => by
    have hlt : k < i.size := by have := (List.getElem?_eq_some_iff.1 hk).1; omega
    have : us k = u := by simpa [vs, hlt] using hk
    rw [← this]; exact (hus k hlt).1) (fun _ => by omega)
  refine ⟨_, by simp [execOp, ho, hv, Instr.loadAt, Instr.sureAddr]; rw [hrun]; rfl, ?_⟩
  have hsub : All2 (CRep E w) ((List.range i.size).map fun k => C.d (e.cell (j + k))) vs := by
    have : ∀ l : List Nat, (∀ k ∈ l, k < i.size) → All2 (CRep E w) (l.map fun k => C.d (e.cell (j + k))) (l.map us) := by
      intro l
      induction l with
      | nil => intro _; trivial
      | cons k l ih => intro hk; exact ⟨(hus k (hk k (by simp))).2, ih fun q hq => hk q (by simp [hq])⟩
    exact this _ (by simp)
  cases aggD d
  · have e1 : vs.getD 0 undef = us 0 := by simp [vs, hz, List.getD]
    simp only [cond_false]
    rw [e1]
    exact (hus 0 hz).2
  · refine ⟨vs, rfl, hsub, fun u hu => ?_⟩
    obtain ⟨k, hk, rfl⟩ := List.mem_map.1 hu
    exact (hus k (by have := List.mem_range.1 hk; omega)).2.one
def D.isAgg' : D → Bool
  | .agg _ => true
  | _ => false
theorem store_ep_ok {p v : Operand} (ho : o.op = .store t p v) (hi : P.info? t = some i) {r sz j : Nat} {ix l : D} (hp : ρ p = .t (.one (.ep r ix sz j))) (hm : mem r = some (.row sz l)) {y : T} (hv : ρ v = .t y)
    (hc : y.cells.all C.ok = true) {ds : List D} (hds : datsC y.cells = some ds) (hs : y.cells.length = i.size) (hl : j + ds.length ≤ (l.at_ ix).cells.length) (hag : (l.at_ ix).isAgg' = true ∨ ds.length = 1) :
    OpOk P o ρ mem (.tup []) [r] [] [(r, some (.row sz (l.setAt ix j ds)))] := by
  intro w0 E mem' w a K Q hS hacc _ hops hK
  have h1 := hops p (by simp [ho, Op.operands])
  rw [hp] at h1
  have h2 := hops v (by simp [ho, Op.operands])
  rw [hv] at h2
  obtain ⟨h3, h4⟩ := TRep.cells h2 hc
  have hmr := (hacc r (by simp)).trans hm
  obtain ⟨es, b, c, T, k, m, cur, rfl, rfl, h0, hlt, hpv, hι, hheap, hw, hlc, hc0, hcm, hsz, hall⟩ := ep_open hS h1 hmr
  have hrd := datsC_reads hds h3
  have hlen2 := h3.length
  have hlen3 := hrd.length
  simp only [Array.length_toList] at hlen2 hlen3
  have hme : es[m.toNat]? = some (D.at_ (.sl sz es) (.v (.int k m))) := by simp [D.at_, show m.toNat < es.length by omega]
  have hgd : es.getD m.toNat default = D.at_ (.sl sz es) (.v (.int k m)) := rfl
  generalize D.at_ (.sl sz es) (.v (.int k m)) = e at hme hl hag hgd
  have hel := hw _ (List.mem_of_getElem? hme)
  have hsp : (e.splice j ds).cells = e.cells.take j ++ ds ++ e.cells.drop (j + ds.length) := by
    cases e with
    | agg cs => rfl
    | v x =>
      rcases hag with h | h
      · cases h
      · match ds, h with
        | [d0], _ =>
          have hj : j = 0 := by simp [D.cells] at hl; omega
          subst hj
          obtain ⟨u, _, hr⟩ := hrd.getR (i := 0) (b := d0) rfl
          show d0.cells = _
          rw [hr.plainD]; simp [D.cells]
    | sl sz' es' =>
      rcases hag with h | h
      · cases h
      · match ds, h with
        | [d0], _ =>
          have hj : j = 0 := by simp [D.cells] at hl; omega
          subst hj
          obtain ⟨u, _, hr⟩ := hrd.getR (i := 0) (b := d0) rfl
          show d0.cells = _
          rw [hr.plainD]; simp [D.cells]
    | fn f0 c0 =>
      rcases hag with h | h
      · cases h
      · match ds, h with
        | [d0], _ =>
          have hj : j = 0 := by simp [D.cells] at hl; omega
          subst hj
          obtain ⟨u, _, hr⟩ := hrd.getR (i := 0) (b := d0) rfl
          show d0.cells = _
          rw [hr.plainD]; simp [D.cells]
    | pt x0 =>
      rcases hag with h | h
      · cases h
      · match ds, h with
        | [d0], _ =>
          have hj : j = 0 := by simp [D.cells] at hl; omega
          subst hj
          obtain ⟨u, _, hr⟩ := hrd.getR (i := 0) (b := d0) rfl
          show d0.cells = _
          rw [hr.plainD]; simp [D.cells]
  have hspl : (e.splice j ds).cells.length = sz := by rw [hsp]; simp; omega
  have hp0 : m.toNat * sz + j + ds.length ≤ es.length * sz := by
    have : (m.toNat + 1) * sz ≤ es.length * sz := Nat.mul_le_mul_right _ (by omega)
    rw [Nat.succ_mul] at this; omega
  have hp1 : es.length * sz ≤ c * sz := Nat.mul_le_mul_right _ hlc
  generalize hoff : m.toNat * sz + j = off at hpv hp0
  have hst := run_storeCells_at P b off T (a.eval v).cells.toList 0 cur w hheap (by simp only [Array.length_toList]; omega) h4
  simp only [Nat.add_zero, Array.length_toList] at hst
  let cur' := (cur.toList.take off ++ (a.eval v).cells.toList ++ cur.toList.drop (off + (a.eval v).cells.size)).toArray
  have hcs : cur'.size = cur.size := by simp [cur']; omega
  have hmem : obk (.row sz (.sl sz es)) (E.ι r) = some b := by rw [hι]; simp [obk, blk]; omega
  refine wp_of_skip (w' := w.setRow b cur') ?_ ?_
  · have hsz' : (a.eval v).cells.size = i.size := by omega
    simp [execOp, ho, hpv, Instr.storeAt, Instr.sureAddr, storeVar, sizeOf, typeInfo, hi, hsz']
    rw [hst]; simp [cur', hsz']
  · have hstab : Stable E.im w (w.setRow b cur') := fun k hk => setRow_other w b k _ (fun e => (hS.live r _ b hmr hmem).2.2 (e ▸ hk))
    obtain ⟨hS', hst'⟩ := hS.write (w' := w.setRow b cur') hmr (b := b) hmem (grown_setRow w b _) (.row sz (.sl sz (es.set m.toNat (e.splice j ds)))) (fun k hk => by rw [hι] at hk; simp [obk, blk] at hk; exact hk.2.symm)
      (by
        refine .inr ⟨_, rfl, fun x hx => ?_, .inr ⟨b, c, T, cur', ?_, setRow_heap w b cur _ T _ hheap, by simpa using hlc, hc0, hcm, by rw [hcs]; exact hsz, ?_⟩⟩
        · rcases List.mem_or_eq_of_mem_set hx with hx | rfl
          · exact hw x hx
          · exact hspl
        · simpa using hι
        · have e0 : (es.set m.toNat (e.splice j ds)).length = es.length := by simp
          rw [e0, flat_set hw hme (by omega) hsp, hoff]
          have := (hall.splice (R := Reads E.im w) hrd off)
          have e1 : cur'.toList.take (es.length * sz) = (cur.toList.take (es.length * sz)).take off ++ (a.eval v).cells.toList ++ (cur.toList.take (es.length * sz)).drop (off + (a.eval v).cells.toList.length) := by
            have := take_splice (L := cur.toList) (vs := (a.eval v).cells.toList) (N := es.length * sz) (off := off) (by simp only [Array.length_toList]; omega) (by simp only [Array.length_toList]; omega)
            simpa [cur'] using this
          rw [e1]
          exact this.imp fun _ _ q => q.mono hstab (fun _ h => h))
    refine hK _ _ _ (Env.le.refl E) (fun _ h => .inl h) hst' ⟨[], rfl, trivial⟩ ?_
    have hset : D.setAt (.sl sz es) (.v (.int k m)) j ds = .sl sz (es.set m.toNat (e.splice j ds)) := by simp only [D.setAt]; rw [hgd]
    show Sim w0 E (upd mem' r (some (.row sz (D.setAt (.sl sz es) (.v (.int k m)) j ds)))) _
    rw [hset]; exact hS'

def bytesD : List D → Option (List Int)
  | [] => some []
  | .v (.int .u8 n) :: l => (bytesD l).map (n :: ·)
  | _ => none
def mkStr (ns : List Int) : ByteArray := ns.foldl (fun r n => r.push (UInt8.ofNat n.toNat)) ByteArray.empty
def D.toStr : D → Option D
  | .sl sz es => if sz = 1 then (bytesD es).map fun ns => .v (.string (mkStr ns)) else none
  | .v (.slice none 0 0) => some (.v (.string ByteArray.empty))
  | _ => none
theorem bytesD_at : ∀ {es : List D} {ns : List Int}, bytesD es = some ns → es = ns.map fun n => D.v (.int .u8 n)
  | [], ns, h => by simp [bytesD] at h; subst h; rfl
  | e :: es, ns, h => by
    unfold bytesD at h
    split at h
    · rename_i e1; cases e1
    · rename_i n l e1
      injection e1 with e1 e2
      subst e1; subst e2
      obtain ⟨ns', h1, rfl⟩ := Option.map_eq_some_iff.1 h
      simp [bytesD_at h1]
    · cases h
theorem bytesStr_ok {s t : TypeId} (ho : o.op = .convert s t x) {e : TypeId} (hs : P.underlying s = some (.slice e)) (he : P.underlying e = some (.int .u8)) (ht : P.underlying t = some .string) {c : C} (hx : ρ x = .t (.one c)) {dx r : D} (hc : c.toD mem = some dx) (hr : dx.toStr = some r) :
    OpOk P o ρ mem (.t (.one (.d r))) c.acc [] [] := by
  refine OpOk.pure c.acc fun w0 E mem' w a hS hacc hops => ?_
  have h0 := hops x (by simp [ho, Op.operands])
  rw [hx] at h0
  have hrd := toD_reads hS hacc h0 hc
  unfold D.toStr at hr
  split at hr
  · rename_i sz es
    split at hr
    · rename_i hsz
      subst hsz
      obtain ⟨ns, hns, rfl⟩ := Option.map_eq_some_iff.1 hr
      have hes := bytesD_at hns
      refine ⟨.string (mkStr ns), ?_, .v rfl⟩
      generalize hv : a.eval x = v at hrd
      cases hrd with
      | @sl b o' n cc _ q _ us hsp hb hn hcc hm hw hl hr' =>
        have hflat : flat es = es := by
          rw [hes]
          clear hes hns hr
          induction ns with
          | nil => rfl
          | cons a l ih => simp only [flat, List.map_cons, List.flatMap_cons] at ih ⊢; rw [ih]; rfl
        have hload : (loadCells ⟨b, o', q⟩ n).run P w = .ok (ns.map (Value.int .u8)).toArray w := by
          have hlen : (ns.map (Value.int .u8)).length = n := by rw [← hn, hes]; simp
          have := run_loadCells_list (P := P) w ⟨b, o', q⟩ (ns.map (Value.int .u8)) (fun j u hj => by
            have hjl := (List.getElem?_eq_some_iff.1 hj).1
            obtain rfl := hsp (by rintro h; rw [h] at hes; have : ns = [] := by simpa using hes.symm
                                  subst this; simp at hjl)
            simp only [List.getElem?_map, Option.map_eq_some_iff] at hj
            obtain ⟨z, hz, rfl⟩ := hj
            have hf : (flat es)[j]? = some (.v (.int .u8 z)) := by rw [hflat, hes]; simp [hz]
            rw [addr_add, hl j _ hf]
            have := hr' j _ hf
            generalize us j = u at this
            cases this; rfl)
          rwa [hlen] at this
        simp only [execOp, ho, hv]
        rw [Sem.run_bind, run_convert_bytes_string w s t e _ n cc hs he ht, run_bytesToString w ⟨b, o', q⟩ n cc ns hload]; rfl
    · cases hr
  · injection hr with hr; subst hr
    generalize hv : a.eval x = v at hrd
    cases hrd
    refine ⟨.string ByteArray.empty, ?_, .v rfl⟩
    simp only [execOp, ho, hv]
    rw [Sem.run_bind, run_convert_bytes_string w s t e none 0 0 hs he ht]; rfl
  · cases hr

/-- A new row of zeroes. -/
def D.made (ag : Bool) (sz bytes : Nat) (z : List Value) : D → D → Option D
  | .v (.int k l), .v (.int k' c) => if 0 ≤ l ∧ l ≤ c ∧ c * bytes ≤ 1099511627776 then some (.sl sz (List.replicate l.toNat (bif ag then .agg (z.map .v) else (z.map D.v).headD default))) else none
  | _, _ => none
theorem wrap64 {n : Int} (h0 : 0 ≤ n) (h1 : n ≤ 1099511627776) : IntKind.i64.wrap n = n := by
  rw [IntKind.wrap_i64]; omega
theorem makeSlice_ok (ho : o.op = .makeSlice t x y) {e : TypeId} (hd : P.underlying t = some (.slice e)) (hi : P.info? e = some i) {de : TypeDesc} (hde : P.underlying e = some de) {z : Value} (hz : i.zero = some z) (hzs : z.cells.toList.all scalar = true) (hzl : z.cells.size = i.size)
    (hag : aggD de = false → i.size = 1) (hpos : 0 < i.size) (hby : 1 ≤ i.bytes) {dl dc r : D} (hx : (ρ x).dat = some dl) (hy : (ρ y).dat = some dc) (hr : D.made (aggD de) i.size i.bytes z.cells.toList dl dc = some r) (n : Nat) :
    OpOk P o ρ mem (.t (.one (.row n))) [] [n] [(n, some (.row i.size r))] := by
  intro w0 E mem' w a K Q hS hacc hn hops hK
  unfold D.made at hr
  split at hr
  · rename_i k l k' c
    split at hr
    · rename_i hc
      obtain ⟨hl0, hlc, hb⟩ := hc
      injection hr with hr
      obtain ⟨e1, _⟩ := AV.dat_v hx (hops x (by simp [ho, Op.operands]))
      obtain ⟨e2, _⟩ := AV.dat_v hy (hops y (by simp [ho, Op.operands]))
      have hc0 : 0 ≤ c := Int.le_trans hl0 hlc
      have hcb : c ≤ 1099511627776 := by
        have h1 : (1 : Int) ≤ (i.bytes : Nat) := by omega
        have := Int.mul_le_mul_of_nonneg_left h1 hc0
        omega
      have hcn : (c.toNat : Int) = c := Int.toNat_of_nonneg hc0
      have wl : IntKind.i64.wrap l = l := wrap64 hl0 (by omega)
      have wc : IntKind.i64.wrap c = c := wrap64 hc0 hcb
      have hbig : ¬ (281474976710656 < (i.bytes : Int) * c) := by rw [Int.mul_comm]; omega
      let el : D := bif aggD de then .agg (z.cells.toList.map .v) else (z.cells.toList.map D.v).headD default
      have helc : el.cells = z.cells.toList.map .v := by
        cases hg : aggD de
        · have h1 := hag hg
          have : z.cells.toList.length = 1 := by simpa [hzl] using h1
          match hzl' : z.cells.toList, this with
          | [q], _ => simp [el, hg, hzl', D.cells]
        · simp [el, hg, D.cells]
      have hellen : el.cells.length = i.size := by rw [helc]; simpa using hzl
      let cur : Array Value := (Array.range (c.toNat * i.size)).map (z.cells[· % z.cells.size]!)
      have hrun : (execOp a.eval o).run P w = .ok (.value (.slice (some ⟨w.heap.size, 0, none⟩) l.toNat c.toNat)) (w.alloc (.cells cur e)) := by
        simp only [execOp, ho, e1, e2]
        rw [Sem.run_bind, run_make w t e i z hd hi hz k k' l c hl0 hlc (by rw [Int.mul_comm]; omega) (by omega)]
        rfl
      have hS' := hS.newRow n (hn n (by simp)) i.size (List.replicate l.toNat el) c.toNat cur e (fun x hx => by rw [List.eq_of_mem_replicate hx]; exact hellen) (by simp; omega) (by simp only [maxLen]; omega) (by simp [cur]) (by
        have hwid : ∀ x ∈ List.replicate l.toNat el, x.cells.length = i.size := fun x hx => by rw [List.eq_of_mem_replicate hx]; exact hellen
        have hcells : All2 (Reads E.im w) ((List.range (l.toNat * i.size)).map fun k => z.cells[k % z.cells.size]!) (flat (List.replicate l.toNat el)) := by
          refine All2.mk (by rw [flat_get hwid]; simp) fun q u d hu hd => ?_
          have hq : q < l.toNat * i.size := by have := (List.getElem?_eq_some_iff.1 hu).1; simpa using this
          have hu' : u = z.cells[q % z.cells.size]! := by simpa [hq] using hu.symm
          have hm : q % i.size < i.size := Nat.mod_lt _ hpos
          have hm' : q % i.size < z.cells.size := by omega
          have hdiv : q / i.size < l.toNat := Nat.div_lt_of_lt_mul (by rw [Nat.mul_comm]; exact hq)
          have hf := flat_at hwid (m := q / i.size) (k := q % i.size) (e := el) (by simp [hdiv]) hm
          rw [show q / i.size * i.size + q % i.size = q by rw [Nat.mul_comm]; exact Nat.div_add_mod q _, hd, helc] at hf
          have hd' : d = .v z.cells[q % i.size] := by simpa [hm'] using hf
          rw [hu', hd', hzl, getElem!_pos z.cells _ hm']
          exact .v ((List.all_eq_true.1 hzs) _ (by simp))
        have := hcells
        simp only [List.length_replicate]
        have e3 : cur.toList.take (l.toNat * i.size) = (List.range (l.toNat * i.size)).map fun k => z.cells[k % z.cells.size]! := by
          have : l.toNat * i.size ≤ c.toNat * i.size := Nat.mul_le_mul_right _ (by omega)
          simp [cur, ← List.map_take, List.take_range, Nat.min_eq_left this]
        rw [e3]; exact this)
      simp only [List.length_replicate] at hS'
      refine wp_of_run hrun ?_
      subst hr
      exact hK _ _ _ (E.le_add n _ (hn n (by simp))) (fun r hr => hr.imp_right fun e => by simp [e]) (hS.stable ((Below.refl _ _).alloc (Nat.le_refl _) _)) ⟨.inr rfl, (upd_same _ _ _).symm, _, _, _, upd_same _ _ _⟩ hS'
    · cases hr
  · cases hr

/-- An array, built. -/
theorem buildArr_ok {parts : Array (Nat × Operand)} (ho : o.op = .build t parts) (hi : P.info? t = some i) {z : Value} (hz : i.zero = some z) (hzs : z.cells.toList.all scalar = true) {len : Nat} {e : TypeId} (hd : P.underlying t = some (.array len e)) {ie : TypeInfo} (hie : P.info? e = some ie)
    {ps : List (Nat × List C)} (hps : partsC ρ parts.toList = some ps) {r : List C} (hr : fillL (fun k => some (k * ie.size, ie.size)) (z.cells.toList.map C.k) ps = some r) : OpOk P o ρ mem (.t (.agg r)) [] [] [] := by
  refine OpOk.pure [] fun w0 E mem' w a hS hacc hops => ?_
  have hx : ∀ p ∈ parts.toList, AVRep E w (ρ p.2) (a.eval p.2) := fun p hp => hops p.2 (by simp only [ho, Op.operands, List.mem_toArray, List.mem_map]; exact ⟨p, hp, rfl⟩)
  obtain ⟨r', h1, h2⟩ := All2.fillL (fun k => some (k * ie.size, ie.size)) (zeros_rep (E := E) (w := w) hzs) (partsC_rep (a := a) hps hx) hr
  have h3 := fill_fillL (fun k => some (k * ie.size, ie.size)) ((parts.toList.map fun p => (p.1, a.eval p.2))) z.cells r' h1
  refine ⟨.agg r'.toArray, ?_, r', rfl, h2, fillL_one _ _ _ _ h1 (fun u hu => scalar_one ((List.all_eq_true.1 hzs) u hu)) (parts_one hps hx)⟩
  have hb : P.built t (parts.map fun p => (p.1, a.eval p.2)).toList = some r'.toArray := by
    simp only [Program.built, hi, hd, hz, hie, Array.toList_map]
    exact h3
  have hrun := run_build (P := P) w t (parts.map fun p => (p.1, a.eval p.2)) r'.toArray hb
  simp only [execOp, ho]
  rw [Sem.run_bind, show (parts.map fun (i, x) => (i, a.eval x)) = parts.map fun p => (p.1, a.eval p.2) from rfl, hrun]
  rfl
theorem run_eqItems {n : Nat} {ok : Nat → Prop} {w : World} {us vs : Array Value} {e : TypeId} {de : TypeDesc} (hde : P.underlying e = some de) {k : EqK} (hk : kindOf de = some k) : ∀ (m j : Nat) (xs ys : List D) (r : Bool), eqs (List.replicate m k) xs ys = some r →
    All2 (Reads ok w) (us.toList.drop j) xs → All2 (Reads ok w) (vs.toList.drop j) ys → (Op.eqItems (n + 1) e 1 us vs (List.range' j m)).run P w = .ok r w
  | 0, j, xs, ys, r, h2, _, _ => by
    cases xs <;> cases ys <;> simp [eqs] at h2
    subst h2; simp [Op.eqItems]
  | m + 1, j, xs, ys, r, h2, hx, hy => by
    rw [List.replicate_succ] at h2
    cases xs with
    | nil => cases ys <;> simp [eqs] at h2
    | cons x xs =>
      cases ys with
      | nil => simp [eqs] at h2
      | cons y ys =>
        simp only [eqs] at h2
        split at h2
        · rename_i p q hp hq
          injection h2 with h2; subst h2
          obtain ⟨u, hu⟩ : ∃ u, us.toList[j]? = some u := by
            cases hd2 : us.toList.drop j with
            | nil => rw [hd2] at hx; exact hx.elim
            | cons u r => exact ⟨u, by rw [← List.head?_drop, hd2]; rfl⟩
          obtain ⟨v, hv⟩ : ∃ v, vs.toList[j]? = some v := by
            cases hd2 : vs.toList.drop j with
            | nil => rw [hd2] at hy; exact hy.elim
            | cons u r => exact ⟨u, by rw [← List.head?_drop, hd2]; rfl⟩
          have eu : us.toList.drop j = u :: us.toList.drop (j + 1) := by rw [List.drop_eq_getElem_cons (List.getElem?_eq_some_iff.1 hu).1, (List.getElem?_eq_some_iff.1 hu).2]
          have ev : vs.toList.drop j = v :: vs.toList.drop (j + 1) := by rw [List.drop_eq_getElem_cons (List.getElem?_eq_some_iff.1 hv).1, (List.getElem?_eq_some_iff.1 hv).2]
          rw [eu] at hx; rw [ev] at hy
          have ih := run_eqItems (n := n) hde hk m (j + 1) xs ys q hq hx.2 hy.2
          have h3 := run_eqK hde hk hp hx.1 hy.1 n
          have hag : aggD de = false := by cases de <;> first | rfl | simp [kindOf] at hk
          have pu : (part e us (j * 1)).run P w = .ok u w := by
            have : us[j]? = some u := by simpa using hu
            simp [part, run_isAgg' hde, hag, this]
          have pv : (part e vs (j * 1)).run P w = .ok v w := by
            have : vs[j]? = some v := by simpa using hv
            simp [part, run_isAgg' hde, hag, this]
          rw [List.range'_succ]
          simp only [Op.eqItems, Sem.run_bind, pu, pv, Result.andThen_ok, h3, Sem.run_ite, ih]
          cases p <;> simp
        · cases h2
theorem eqArr_ok {yt : TypeId} {ng : Bool} (ho : o.op = .binOp (bif ng then .neq else .eql) t x y yt) {len : Nat} {e : TypeId} (hd : P.underlying t = some (.array len e)) {ie : TypeInfo} (hie : P.info? e = some ie) (h1s : ie.size = 1) {de : TypeDesc} (hde : P.underlying e = some de) {k : EqK} (hk : kindOf de = some k) (hm : P.eqGuardType P.depth t = false)
    {cs ds : List C} (hx : ρ x = .t (.agg cs)) (hy : ρ y = .t (.agg ds)) {xs ys : List D} (hxs : datsC cs = some xs) (hys : datsC ds = some ys) {r : Bool} (hr : eqs (List.replicate len k) xs ys = some r) : OpOk P o ρ mem (.t (.one (.d (.v (.bool (bif ng then !r else r)))))) [] [] [] := by
  refine OpOk.pure [] fun w0 E mem' w a hS _ hops => ?_
  have h1 := hops x (by simp [ho, Op.operands])
  have h2 := hops y (by simp [ho, Op.operands])
  rw [hx] at h1; rw [hy] at h2
  obtain ⟨us, hu, hu2, _⟩ := h1
  obtain ⟨vs, hv, hv2, _⟩ := h2
  have hcs : P.cellsOf e = 1 := by simp [Program.cellsOf, hie, h1s]
  have heq : (Op.equalIn 10000 t (.agg us.toArray) (.agg vs.toArray)).run P w = .ok r w := by
    rw [run_equalIn_array w 9999 _ _ hd hie, hcs, List.range_eq_range']
    exact run_eqItems (n := 9998) hde hk len 0 xs ys r hr (by simpa using datsC_reads hxs hu2) (by simpa using datsC_reads hys hv2)
  have hg : (eqGuard (bif ng then .neq else .eql) t x y (.agg us.toArray) (.agg vs.toArray)).run P w = .ok () w := run_eqGuard_agg w _ t x y _ _ hm
  refine ⟨.bool (bif ng then !r else r), ?_, .v rfl⟩
  simp only [execOp, ho, hu, hv]
  rw [Sem.run_bind, Sem.run_bind, hg, Result.andThen_ok]
  cases ng
  · simp only [cond_false]
    rw [run_eql_struct, heq]; rfl
  · simp only [cond_true]
    rw [run_neq_struct, heq]; rfl
end
end Go.Proofs.Ytjdemohgegldaaa
