/-
  Function values that capture: what is captured stays as it is from then on.
-/
import Derived.Test.YtjdemohgegldaaaAmF
namespace Go.Proofs.Ytjdemohgegldaaa
set_option linter.unusedSimpArgs false
set_option linter.unusedVariables false
open Go.RowKit

def C.toI (mem : Nat → Option Ob) : C → Option D
  | .d x => some x
  | .k v => some (.v v)
  | .row q => match mem q with | some (.imm x) => some x | _ => none
  | _ => none
def cellsI (mem : Nat → Option Ob) : List C → Option (List D)
  | [] => some []
  | c :: cs => match c.toI mem, cellsI mem cs with
    | some x, some l => some (x :: l)
    | _, _ => none
theorem toI_reads {w0 : World} {E : Env} {mem mem0 : Nat → Option Ob} {w : World} (hS : Sim w0 E mem w) {c : C} {v : Value} {x : D} (hm : ∀ q ∈ c.rowN, mem q = mem0 q) (h : CRep E w c v) (hd : c.toI mem0 = some x) : Reads E.im w v x := by
  cases c with
  | d y => simp only [C.toI, Option.some.injEq] at hd; subst hd; exact h
  | k u => simp only [C.toI, Option.some.injEq] at hd; subst hd; obtain ⟨rfl, hs⟩ := h; exact .v hs
  | row q =>
    simp only [C.toI] at hd
    split at hd
    · rename_i y hy
      injection hd with hd; subst hd
      obtain ⟨_, hr⟩ := hS.ob q _ ((hm q (by simp [C.rowN])).trans hy)
      obtain ⟨_, rfl, _⟩ := h
      exact hr
    · cases hd
  | _ => simp [C.toI] at hd
theorem cellsI_reads {w0 : World} {E : Env} {mem mem0 : Nat → Option Ob} {w : World} (hS : Sim w0 E mem w) : ∀ {cs : List C} {vs : List Value} {l : List D}, (∀ q ∈ cs.flatMap C.rowN, mem q = mem0 q) → All2 (CRep E w) cs vs → cellsI mem0 cs = some l → All2 (Reads E.im w) vs l
  | [], vs, l, _, h, hd => by
    simp [cellsI] at hd; subst hd
    cases vs with
    | nil => trivial
    | cons v vs => exact h.elim
  | c :: cs, vs, l, hm, h, hd => by
    simp only [cellsI] at hd
    split at hd
    · rename_i x l' h1 h2
      injection hd with hd; subst hd
      cases vs with
      | nil => exact h.elim
      | cons v vs => exact ⟨toI_reads hS (fun q hq => hm q (by simp [hq])) h.1 h1, cellsI_reads hS (fun q hq => hm q (by rw [List.flatMap_cons]; exact List.mem_append_right _ hq)) h.2 h2⟩
    · cases hd
/-- A box that stays as it is from now on. -/
def Env.frzB (E : Env) (r : Nat) : Env := ⟨E.ι, E.bn, fun b => E.im b ∨ ∃ o, E.ι r = .pointer (some ⟨b, o, none⟩), E.od⟩
theorem Sim.freezeB {w0 : World} {E : Env} {mem mem0 : Nat → Option Ob} {w : World} (h : Sim w0 E mem w) {r : Nat} {cs : List C} (hr : mem r = some (.box cs)) (hm : ∀ q ∈ cs.flatMap C.rowN, mem q = mem0 q) {ds : List D} (hd : cellsI mem0 cs = some ds) :
    Sim w0 (E.frzB r) (upd mem r (some (.imm (.pt (.agg ds))))) w ∧ E.le (E.frzB r) := by
  have hle : E.le (E.frzB r) := ⟨fun _ h => h, fun _ _ => rfl, fun _ h => .inl h, fun _ h => h⟩
  obtain ⟨hbn, b0, T, cur, hι, hheap, hall, hone⟩ := h.ob r _ hr
  have hrd := cellsI_reads h hm hall hd
  have cases_ : ∀ q y, upd mem r (some (.imm (.pt (.agg ds)))) q = some y → (q = r ∧ y = .imm (.pt (.agg ds))) ∨ (q ≠ r ∧ mem q = some y) := fun q y hq => by
    by_cases e : q = r
    · subst e; rw [upd_same] at hq; injection hq with hq; exact .inl ⟨rfl, hq.symm⟩
    · rw [upd_ne _ _ e] at hq; exact .inr ⟨e, hq⟩
  have hk0 : obk (.box cs) (E.ι r) = some b0 := by rw [hι]; rfl
  have hb : ∀ b o, E.ι r = .pointer (some ⟨b, o, none⟩) → b = b0 := fun b o e => by rw [hι] at e; simp only [Value.pointer.injEq, Option.some.injEq, Addr.mk.injEq] at e; exact e.1.symm
  have hb0 := h.live r _ b0 hr hk0
  refine ⟨⟨h.below, fun b hi => ?_, fun q y hq => ?_, fun q y b hq hk => ?_, fun q q' y y' b hq hq' hk hk' => ?_⟩, hle⟩
  · rcases hi with hi | ⟨o, hv⟩
    · exact h.im b hi
    · rw [hb b o hv]; exact ⟨hb0.2.1, .inr hb0.1⟩
  · rcases cases_ q y hq with ⟨e1, e2⟩ | ⟨_, hq⟩
    · subst e1; subst e2
      refine ⟨hbn, ?_⟩
      show Reads (E.frzB q).im w (E.ι q) (.pt (.agg ds))
      have hgo : ∀ (k : Nat) (d : D), (D.agg ds).cells[k]? = some d → ∃ u, cur[k]? = some u ∧ Reads (E.frzB q).im w u d := fun k d hk => by
        have hk : ds[k]? = some d := hk
        obtain ⟨u, hu, hur⟩ := hrd.getR hk
        exact ⟨u, by simpa using hu, hur.mono (Stable.refl _ _) (fun _ h => .inl h)⟩
      have e : E.ι q = .pointer (some ⟨b0, 0, none⟩) := hι
      rw [e]
      refine .pt (fun k => (cur[k]?).getD undef) (fun _ => .inr ⟨0, hι⟩) (fun k d hk => ?_) (fun k d hk => ?_)
      · obtain ⟨u, hu, _⟩ := hgo k d hk
        rw [Nat.zero_add, cell_row hheap, hu]; rfl
      · obtain ⟨u, hu, hur⟩ := hgo k d hk
        rw [hu]; exact hur
    · obtain ⟨h1, h2⟩ := h.ob q y hq
      exact ⟨h1, h2.mono h1 hle (Stable.refl _ _) (Nat.le_refl _) (fun _ _ => rfl)⟩
  · rcases cases_ q y hq with ⟨e1, e2⟩ | ⟨hne, hq⟩
    · subst e2; cases hk
    · obtain ⟨h1, h2, h3⟩ := h.live q y b hq hk
      exact ⟨h1, h2, fun hi => by
        rcases hi with hi | ⟨o, hv⟩
        · exact h3 hi
        · have e := hb b o hv; subst e; exact hne (h.dist q r y _ b hq hr hk hk0)⟩
  · rcases cases_ q y hq with ⟨e1, e2⟩ | ⟨_, p⟩ <;> rcases cases_ q' y' hq' with ⟨e3, e4⟩ | ⟨_, p'⟩
    · rw [e1, e3]
    · subst e2; cases hk
    · subst e4; cases hk'
    · exact h.dist _ _ y y' b p p' hk hk'
/-- What is captured, as data; which objects are looked at; what becomes of them. -/
def capsX : (Nat → Option Ob) → List AV → Option (List D × List Nat × List (Nat × Option Ob))
  | _, [] => some ([], [], [])
  | mem, .t (.one (.ptr r 0)) :: l => match mem r with
    | some (.box cs) => match cellsI (updL mem (frzW mem (cs.flatMap C.rowN))) cs with
      | some ds => match capsX (upd (updL mem (frzW mem (cs.flatMap C.rowN))) r (some (.imm (.pt (.agg ds))))) l with
        | some (xs, acc, wr) => some (.pt (.agg ds) :: xs, cs.flatMap C.rowN ++ r :: acc, frzW mem (cs.flatMap C.rowN) ++ (r, some (.imm (.pt (.agg ds)))) :: wr)
        | none => none
      | none => none
    | some (.imm (.pt x)) => match capsX mem l with
      | some (xs, acc, wr) => some (.pt x :: xs, r :: acc, wr)
      | none => none
    | _ => none
  | mem, .t (.one (.d x)) :: l => match capsX mem l with
    | some (xs, acc, wr) => some (x :: xs, acc, wr)
    | none => none
  | _, _ => none
theorem frzW_keep : ∀ (qs : List Nat) (mem : Nat → Option Ob) (r : Nat), (∀ sz x, mem r ≠ some (.row sz x)) → updL mem (frzW mem qs) r = mem r
  | [], mem, r, _ => rfl
  | q :: qs, mem, r, h => by
    simp only [frzW]
    split
    · rename_i sz x hq
      have hne : r ≠ q := fun e => by subst e; exact h _ _ hq
      show updL (upd mem q (some (.imm x))) (frzW (upd mem q (some (.imm x))) qs) r = mem r
      rw [frzW_keep qs _ r (fun sz x => by rw [upd_ne _ _ hne]; exact h sz x), upd_ne _ _ hne]
    · exact frzW_keep qs mem r h
theorem capsX_ok {w0 w : World} : ∀ {l : List AV} {mem mem' : Nat → Option Ob} {E : Env} {vs : List Value} {xs : List D} {acc : List Nat} {wr : List (Nat × Option Ob)}, capsX mem l = some (xs, acc, wr) → Sim w0 E mem' w → (∀ q ∈ acc, mem' q = mem q) → All2 (AVRep E w) l vs →
    ∃ E', E.le E' ∧ (∀ r, E'.bn r → E.bn r) ∧ Sim w0 E' (updL mem' wr) w ∧ All2 (Reads E'.im w) vs xs
  | [], mem, mem', E, vs, xs, acc, wr, h, hS, _, hr => by
    simp only [capsX, Option.some.injEq, Prod.mk.injEq] at h
    obtain ⟨rfl, rfl, rfl⟩ := h
    cases vs with
    | nil => exact ⟨E, Env.le.refl E, fun _ h => h, hS, trivial⟩
    | cons _ _ => exact hr.elim
  | c :: l, mem, mem', E, vs, xs, acc, wr, h, hS, ha, hr => by
    cases vs with
    | nil => exact hr.elim
    | cons v vs =>
      unfold capsX at h
      split at h
      · rename_i heq; cases heq
      · rename_i mem _ _ r l' heq
        injection heq with h1 h2
        subst h1; subst h2
        obtain ⟨hr1, hr2⟩ := hr
        split at h
        · rename_i cs hm
          split at h
          · rename_i ds hds
            split at h
            · rename_i xs' acc' wr' hrec
              simp only [Option.some.injEq, Prod.mk.injEq] at h
              obtain ⟨rfl, rfl, rfl⟩ := h
              have har : mem' r = mem r := ha r (by simp)
              have haq : ∀ q ∈ cs.flatMap C.rowN, mem' q = mem q := fun q hq => ha q (List.mem_append_left _ hq)
              obtain ⟨E1, g1, g2, g3⟩ := frzW_ok (cs.flatMap C.rowN) mem mem' E hS haq
              have hm1 : updL mem' (frzW mem (cs.flatMap C.rowN)) r = some (.box cs) := by
                rw [updL_congr' har, frzW_keep _ mem r (by rw [hm]; intro sz x e; cases e), hm]
              obtain ⟨hS2, hle2⟩ := g3.freezeB hm1 (mem0 := updL mem (frzW mem (cs.flatMap C.rowN))) (fun q hq => updL_congr' (haq q hq)) hds
              obtain ⟨E3, k1, k2, k3, k4⟩ := capsX_ok hrec hS2 (fun q hq => upd_congr (updL_congr' (ha q (by simp [hq])))) (hr2.imp fun _ _ q => q.mono (g1.trans hle2) (Stable.refl _ _))
              refine ⟨E3, (g1.trans hle2).trans k1, fun q hq => g2 q (k2 q hq), ?_, ?_, k4⟩
              · rw [updL_append]; exact k3
              · obtain ⟨_, hob⟩ := hS2.ob r _ (upd_same _ _ _)
                have hob : Reads (E1.frzB r).im w ((E1.frzB r).ι r) (.pt (.agg ds)) := hob
                obtain ⟨hbn, b, hb, hv⟩ := hr1
                have e1 : (E1.frzB r).ι r = E.ι r := g1.ι r hbn
                rw [e1, hb] at hob
                rw [hv]
                exact hob.mono (Stable.refl _ _) k1.im
            · cases h
          · cases h
        · rename_i x hm
          split at h
          · rename_i xs' acc' wr' hrec
            simp only [Option.some.injEq, Prod.mk.injEq] at h
            obtain ⟨rfl, rfl, rfl⟩ := h
            obtain ⟨E3, k1, k2, k3, k4⟩ := capsX_ok hrec hS (fun q hq => ha q (by simp [hq])) hr2
            obtain ⟨_, hob⟩ := hS.ob r _ ((ha r (by simp)).trans hm)
            have hob : Reads E.im w (E.ι r) (.pt x) := hob
            obtain ⟨hbn, b, hb, hv⟩ := hr1
            rw [hb] at hob
            refine ⟨E3, k1, k2, k3, ?_, k4⟩
            rw [hv]
            exact hob.mono (Stable.refl _ _) k1.im
          · cases h
        · cases h
      · rename_i mem _ _ x l' heq
        injection heq with h1 h2
        subst h1; subst h2
        obtain ⟨hr1, hr2⟩ := hr
        split at h
        · rename_i xs' acc' wr' hrec
          simp only [Option.some.injEq, Prod.mk.injEq] at h
          obtain ⟨rfl, rfl, rfl⟩ := h
          obtain ⟨E3, k1, k2, k3, k4⟩ := capsX_ok hrec hS ha hr2
          exact ⟨E3, k1, k2, k3, Reads.mono hr1 (Stable.refl _ _) k1.im, k4⟩
        · cases h
      · cases h
section
variable {P : Program} {o : Oper} {ρ : Operand → AV} {mem : Nat → Option Ob}
theorem makeFunc_ok {f : FuncId} {caps : Array Operand} (ho : o.op = .makeFunc (.func f) #[] caps) {xs : List D} {acc : List Nat} {wr : List (Nat × Option Ob)} (hc : capsX mem (caps.toList.map ρ) = some (xs, acc, wr)) :
    OpOk P o ρ mem (.t (.one (.d (.fn f xs)))) acc [] wr := by
  intro w0 E mem' w a K Q hS hacc _ hops hK
  have hall : All2 (AVRep E w) (caps.toList.map ρ) (caps.toList.map a.eval) := by
    have : ∀ l : List Operand, (∀ x ∈ l, x ∈ caps.toList) → All2 (AVRep E w) (l.map ρ) (l.map a.eval) := by
      intro l
      induction l with
      | nil => intro _; trivial
      | cons x l ih => intro hx; exact ⟨hops x (by simpa [ho, Op.operands] using hx x (by simp)), ih fun y hy => hx y (by simp [hy])⟩
    exact this _ (fun _ h => h)
  obtain ⟨E', h1, h2, h3, h4⟩ := capsX_ok hc hS hacc hall
  refine wp_of_run (v := .func (.func f) ⟨[]⟩ ⟨caps.toList.map a.eval⟩) (w' := w) ?_ (hK E' w _ h1 (fun r hr => .inl (h2 r hr)) (Stable.refl _ _) ?_ h3)
  · have e : caps.map a.eval = ⟨caps.toList.map a.eval⟩ := by apply Array.ext'; simp
    simp [execOp, ho, Instr.makeFunc, e]
  · refine Reads.fn _ h4.length fun k d v hd hv => ?_
    obtain ⟨d', hd', hr⟩ := h4.get hv
    rw [hd] at hd'; injection hd' with hd'; subst hd'; exact hr
variable {t : TypeId} {p x : Operand} {i : TypeInfo} {d : TypeDesc}
/-- An operand may be taken for another one that stands for the same. -/
theorem OpOk.see {ρ' : Operand → AV} {av : AV} {acc nw : List Nat} {wr : List (Nat × Option Ob)} (ns : List Nat) (hr : ∀ (w0 : World) (E : Env) (mem' : Nat → Option Ob) (w : World), Sim w0 E mem' w → (∀ r ∈ ns, mem' r = mem r) → ∀ y ∈ o.op.operands, ∀ v, AVRep E w (ρ y) v → AVRep E w (ρ' y) v)
    (h : OpOk P o ρ' mem av acc nw wr) : OpOk P o ρ mem av (ns ++ acc) nw wr := by
  intro w0 E mem' w a K Q hS hacc hn hops hK
  exact h w0 E mem' w a K Q hS (fun r hr => hacc r (List.mem_append_right _ hr)) hn (fun y hy => hr w0 E mem' w hS (fun r hr => hacc r (List.mem_append_left _ hr)) y hy _ (hops y hy)) hK
theorem pt_pd {E : Env} {w : World} {v : Value} {x : D} (h : Reads E.im w v (.pt x)) : CRep E w (.pd x 0) v := by
  cases h with
  | @pt b o x us hb hl hr => exact ⟨b, o, us, rfl, hb, fun k d hk => ⟨hl k d hk, hr k d hk⟩⟩
theorem ptr_pd {w0 : World} {E : Env} {mem' : Nat → Option Ob} {w : World} (hS : Sim w0 E mem' w) {r off : Nat} {x : D} (hm : mem' r = some (.imm (.pt x))) {v : Value} (h : CRep E w (.ptr r off) v) : CRep E w (.pd x off) v := by
  obtain ⟨_, hob⟩ := hS.ob r _ hm
  have hob : Reads E.im w (E.ι r) (.pt x) := hob
  obtain ⟨hbn, b, hb, rfl⟩ := h
  rw [hb] at hob
  obtain ⟨b', o', us, h1, h2, h3⟩ := pt_pd hob
  simp only [Value.pointer.injEq, Option.some.injEq, Addr.mk.injEq] at h1
  obtain ⟨rfl, h1, _⟩ := h1
  have : o' = 0 := by omega
  subst this
  exact ⟨b, 0, us, by simp, h2, h3⟩
theorem load_imm_ok (ho : o.op = .load t p) (hi : P.info? t = some i) (hd : P.underlying t = some d) {r off : Nat} {x : D} (hp : ρ p = .t (.one (.ptr r off))) (hm : mem r = some (.imm (.pt x)))
    (hl : off + i.size ≤ x.cells.length) (hz : 0 < i.size) : OpOk P o ρ mem (bif aggD d then .t (.agg ((List.range i.size).map fun k => C.d (x.cell (off + k)))) else .t (.one (.d (x.cell off)))) [r] [] [] :=
  OpOk.see (ρ' := fun _ => .t (.one (.pd x off))) [r] (fun w0 E mem' w hS hm' y hy v hv => by
    have : y = p := by simpa [ho, Op.operands] using hy
    subst this
    rw [hp] at hv
    exact ptr_pd hS ((hm' r (by simp)).trans hm) hv) (load_pd_ok ho hi hd (j := off) rfl hl hz)
theorem load_pt_ok (ho : o.op = .load t p) (hi : P.info? t = some i) (hd : P.underlying t = some d) {x : D} (hp : ρ p = .t (.one (.d (.pt x))))
    (hl : 0 + i.size ≤ x.cells.length) (hz : 0 < i.size) : OpOk P o ρ mem (bif aggD d then .t (.agg ((List.range i.size).map fun k => C.d (x.cell (0 + k)))) else .t (.one (.d (x.cell 0)))) [] [] [] :=
  OpOk.see (ρ' := fun _ => .t (.one (.pd x 0))) [] (fun w0 E mem' w hS hm' y hy v hv => by
    have : y = p := by simpa [ho, Op.operands] using hy
    subst this
    rw [hp] at hv
    exact pt_pd hv) (load_pd_ok ho hi hd (j := 0) rfl hl hz)
theorem fieldPt_ok {f : Nat} (ho : o.op = .fieldAddr t p f) {fs : Array Field} (hd : P.underlying t = some (.struct fs)) {fd : Field} (hf : fs[f]? = some fd) {i : TypeInfo} (hi : P.info? fd.type = some i) (hz : 0 < i.size) {y : D} (hp : ρ p = .t (.one (.d (.pt y)))) :
    OpOk P o ρ mem (.t (.one (.pd y (0 + fd.offset)))) [] [] [] :=
  OpOk.see (ρ' := fun _ => .t (.one (.pd y 0))) [] (fun w0 E mem' w hS hm' z hz v hv => by
    have : z = p := by simpa [ho, Op.operands] using hz
    subst this
    rw [hp] at hv
    exact pt_pd hv) (fieldPd_ok ho hd hf hi hz rfl)
theorem nilPt_ok (ho : o.op = .nilCheck p) {y : D} (hp : ρ p = .t (.one (.d (.pt y)))) : OpOk P o ρ mem (.t (.one (.pd y 0))) [] [] [] :=
  OpOk.see (ρ' := fun _ => .t (.one (.pd y 0))) [] (fun w0 E mem' w hS hm' z hz v hv => by
    have : z = p := by simpa [ho, Op.operands] using hz
    subst this
    rw [hp] at hv
    exact pt_pd hv) (nilCheck_ok ho (c := .pd y 0) rfl trivial)
end
end Go.Proofs.Ytjdemohgegldaaa
