/-
  What comes in: a value of a type, read whole, reads as data of that type. From a contract over data to the given statement.
-/
import Derived.Test.YtjdemohgegldaaaAmS
import Derived.OpenShut
import Derived.ShutString
import Derived.ChangeOld
import Derived.Deep.Slices
import Derived.Carry
namespace Go.Proofs.Ytjdemohgegldaaa
set_option linter.unusedSimpArgs false
set_option linter.unusedVariables false
open Go.RowKit Go.ChangeShapes Go.WideShapes

/-- What a cell is of. -/
inductive Ty where
  | int (k : IntKind)
  | bool
  | str
  | sl (ag : Bool) (l : List Ty)
def D.isAgg : D → Bool
  | .agg _ => true
  | _ => false
inductive Typed : Ty → D → Prop
  | int {k : IntKind} {z : Int} (h : (Lit.int k z).wf = true) : Typed (.int k) (.v (.int k z))
  | bool (b : Bool) : Typed .bool (.v (.bool b))
  | str {s : ByteArray} (h : s.size ≤ maxLen) : Typed .str (.v (.string s))
  | nil {ag : Bool} {l : List Ty} : Typed (.sl ag l) (.v nilS)
  | sl {ag : Bool} {l : List Ty} {es : List D} (hm : es.length ≤ maxLen) (hg : ∀ e ∈ es, e.isAgg = ag) (hl : ∀ e ∈ es, e.cells.length = l.length)
      (ht : ∀ e ∈ es, ∀ (i : Nat) (t : Ty) (d : D), l[i]? = some t → e.cells[i]? = some d → Typed t d) : Typed (.sl ag l) (.sl l.length es)
theorem Typed.plain {t : Ty} {d : D} (h : Typed t d) : d.isAgg = false := by cases h <;> rfl

def fieldTys (g : TypeId → Option (Bool × List Ty)) (c : TypeId → Nat) : Nat → List Field → Option (List Ty)
  | _, [] => some []
  | n, f :: fs => match g f.type, fieldTys g c (n + c f.type) fs with
    | some (_, l), some r => bif Nat.beq f.offset n && Nat.beq (c f.type) l.length then some (l ++ r) else none
    | _, _ => none
def times (n : Nat) (l : List Ty) : List Ty := match n with
  | 0 => []
  | n + 1 => l ++ times n l
def tysOf (P : Program) : Nat → TypeId → Option (Bool × List Ty)
  | 0, _ => none
  | n + 1, t => match P.underlying t with
    | some .bool => some (false, [.bool])
    | some (.int k) => some (false, [.int k])
    | some .string => some (false, [.str])
    | some (.slice e) => match tysOf P n e with
      | some (ag, l) => bif Nat.beq (P.cellsOf e) l.length && Nat.ble 1 l.length then some (false, [.sl ag l]) else none
      | none => none
    | some (.struct fs) => match fieldTys (tysOf P n) P.cellsOf 0 fs.toList with
      | some l => bif Nat.beq (P.cellsOf t) l.length then some (true, l) else none
      | none => none
    | some (.array m e) => match tysOf P n e with
      | some (_, l) => bif Nat.beq (P.cellsOf e) l.length && Nat.beq (P.cellsOf t) (times m l).length then some (true, times m l) else none
      | none => none
    | _ => none
theorem tysOf_one {P : Program} : ∀ {n : Nat} {t : TypeId} {l : List Ty}, tysOf P n t = some (false, l) → ∃ y, l = [y]
  | 0, t, l, h => by simp [tysOf] at h
  | n + 1, t, l, h => by
    unfold tysOf at h
    split at h
    · simp at h; exact ⟨_, h.symm⟩
    · simp at h; exact ⟨_, h.symm⟩
    · simp at h; exact ⟨_, h.symm⟩
    · rename_i e _
      split at h
      · rename_i ag l' _
        cases hb : Nat.beq (P.cellsOf e) l'.length <;> cases hb1 : Nat.ble 1 l'.length <;> simp [hb, hb1] at h
        exact ⟨_, h.symm⟩
      · cases h
    · split at h
      · rename_i l' _
        cases hb : Nat.beq (P.cellsOf t) l'.length <;> simp [hb] at h
      · cases h
    · rename_i m e _
      split at h
      · rename_i ag l' _
        cases hb : Nat.beq (P.cellsOf e) l'.length <;> cases hc : Nat.beq (P.cellsOf t) (times m l').length <;> simp [hb, hc] at h
      · cases h
    · cases h

theorem All2.imp2 {α β : Type} {R : α → β → Prop} : ∀ {xs : List α} {ys : List β}, All2 R xs ys → xs.length = ys.length ∧ ∀ (i : Nat) (a : α) (b : β), xs[i]? = some a → ys[i]? = some b → R a b
  | [], [], _ => ⟨rfl, by simp⟩
  | a :: xs, b :: ys, h => ⟨by simp [(All2.imp2 h.2).1], fun i x y hx hy => by
      cases i with
      | zero => simp at hx hy; subst hx; subst hy; exact h.1
      | succ i => exact (All2.imp2 h.2).2 i x y (by simpa using hx) (by simpa using hy)⟩
  | [], b :: ys, h => h.elim
  | a :: xs, [], h => h.elim

section
variable {H : Type} {enc : TypeId × Value → H} {P : Program} {w : World} {base : Nat} {spare : Nat → Bool} {held : Bool}
def Rd (w : World) (v : Value) (d : D) : Prop := Reads (fun b => b < w.heap.size) w v d
theorem trod_fields {g : TypeId → Option (Bool × List Ty)} {fuel : Nat} {cs : List Value}
    (hg : ∀ t ag l cs' x, g t = some (ag, l) → DataW.trod enc P w base spare held fuel t cs' = some x → ∃ ds, All2 (Rd w) cs' ds ∧ All2 Typed l ds) :
    ∀ (fs : List Field) (n : Nat) (l : List Ty) (xs : List (DataW H × List MemPlace)), fieldTys g P.cellsOf n fs = some l → n + l.length = cs.length →
      (∀ (i : Nat) (f : Field), fs[i]? = some f → ∃ x, DataW.trod enc P w base spare held fuel f.type ((cs.drop f.offset).take (P.cellsOf f.type)) = some x) →
      ∃ ds, All2 (Rd w) (cs.drop n) ds ∧ All2 Typed l ds
  | [], n, l, xs, hl, hn, _ => by
    simp [fieldTys] at hl
    subst hl
    simp at hn
    exact ⟨[], by rw [hn, List.drop_length]; trivial, trivial⟩
  | f :: fs, n, l, xs, hl, hn, hx => by
    unfold fieldTys at hl
    split at hl
    · rename_i ag l1 r hg1 hr
      cases hb : Nat.beq f.offset n <;> cases hc : Nat.beq (P.cellsOf f.type) l1.length <;> simp [hb, hc] at hl
      subst hl
      have e1 : f.offset = n := Nat.eq_of_beq_eq_true hb
      have e2 : P.cellsOf f.type = l1.length := Nat.eq_of_beq_eq_true hc
      obtain ⟨x, hx0⟩ := hx 0 f rfl
      obtain ⟨ds1, h1, h2⟩ := hg _ _ _ _ _ hg1 hx0
      have hrest := trod_fields hg fs (n + P.cellsOf f.type) r xs hr (by simp at hn; omega) (fun i f' hi => hx (i + 1) f' (by simpa using hi))
      obtain ⟨ds2, h3, h4⟩ := hrest
      refine ⟨ds1 ++ ds2, ?_, All2.append h2 h4⟩
      have := All2.append h1 h3
      rw [e1] at this
      rwa [show cs.drop n = List.take (P.cellsOf f.type) (List.drop n cs) ++ List.drop (n + P.cellsOf f.type) cs by rw [← List.drop_drop, List.take_append_drop]]
    · cases hl
theorem trod_times {e : TypeId} {l : List Ty} {fuel : Nat} {cs : List Value} {c : Nat} (hc : c = l.length)
    (hg : ∀ cs' x, DataW.trod enc P w base spare held fuel e cs' = some x → ∃ ds, All2 (Rd w) cs' ds ∧ All2 Typed l ds) :
    ∀ (m n : Nat), n * c + m * c = cs.length → (∀ i, i < n + m → ∃ x, DataW.trod enc P w base spare held fuel e ((cs.drop (i * c)).take c) = some x) →
      ∃ ds, All2 (Rd w) (cs.drop (n * c)) ds ∧ All2 Typed (times m l) ds
  | 0, n, hn, _ => by
    simp at hn
    exact ⟨[], by rw [hn, List.drop_length]; trivial, trivial⟩
  | m + 1, n, hn, hx => by
    obtain ⟨x, h0⟩ := hx n (by omega)
    obtain ⟨ds1, h1, h2⟩ := hg _ _ h0
    obtain ⟨ds2, h3, h4⟩ := trod_times hc hg m (n + 1) (by rw [← hn]; simp [Nat.add_mul]; omega) (fun i hi => hx i (by omega))
    refine ⟨ds1 ++ ds2, ?_, All2.append h2 h4⟩
    have := All2.append h1 h3
    rwa [show cs.drop (n * c) = List.take c (List.drop (n * c) cs) ++ List.drop ((n + 1) * c) cs by rw [show (n + 1) * c = n * c + c by rw [Nat.add_mul, Nat.one_mul], ← List.drop_drop, List.take_append_drop]]
def mkEl (ag : Bool) (ds : List D) : D := match ag, ds with
  | true, ds => .agg ds
  | false, d :: _ => d
  | false, [] => .agg []
theorem times_length (m : Nat) (l : List Ty) : (times m l).length = m * l.length := by
  induction m with
  | zero => simp [times]
  | succ m ih => simp [times, ih, Nat.add_mul]; omega
theorem mkEl_cells {ag : Bool} {ds : List D} (h : ag = false → ∃ d, ds = [d] ∧ d.isAgg = false) : (mkEl ag ds).cells = ds ∧ (mkEl ag ds).isAgg = ag := by
  cases ag with
  | true => exact ⟨rfl, rfl⟩
  | false =>
    obtain ⟨d, rfl, hd⟩ := h rfl
    cases d with
    | agg cs => cases hd
    | v x => exact ⟨rfl, rfl⟩
    | sl sz es => exact ⟨rfl, rfl⟩
    | fn f caps => exact ⟨rfl, rfl⟩
    | pt x => exact ⟨rfl, rfl⟩

/-- What is read by its type reads as data of the type. -/
theorem trod_typed : ∀ {n : Nat} {t : TypeId} {ag : Bool} {l : List Ty} {fuel : Nat} {cs : List Value} {x : DataW H × List MemPlace}, tysOf P n t = some (ag, l) → DataW.trod enc P w 0 (fun _ => true) true fuel t cs = some x → ∃ ds, All2 (Rd w) cs ds ∧ All2 Typed l ds
  | 0, t, ag, l, fuel, cs, x, h, _ => by simp [tysOf] at h
  | n + 1, t, ag, l, fuel, cs, x, h, hx => by
    unfold tysOf at h
    split at h
    · rename_i hu
      simp at h; obtain ⟨rfl, rfl⟩ := h
      obtain ⟨b, rfl, _⟩ := DataW.trod_bool hu hx
      exact ⟨[_], ⟨.v rfl, trivial⟩, .bool b, trivial⟩
    · rename_i k hu
      simp at h; obtain ⟨rfl, rfl⟩ := h
      obtain ⟨z, rfl, _, hw⟩ := DataW.trod_int hu hx
      exact ⟨[_], ⟨.v rfl, trivial⟩, .int hw, trivial⟩
    · rename_i hu
      simp at h; obtain ⟨rfl, rfl⟩ := h
      obtain ⟨s, rfl, _, hs⟩ := DataW.trod_string hu hx
      exact ⟨[_], ⟨.v rfl, trivial⟩, .str hs, trivial⟩
    · rename_i e hu
      split at h
      · rename_i ag' l' hg
        cases hb : Nat.beq (P.cellsOf e) l'.length <;> cases hb1 : Nat.ble 1 l'.length <;> simp [hb, hb1] at h
        have hp : 0 < l'.length := Nat.le_of_ble_eq_true hb1
        obtain ⟨rfl, rfl⟩ := h
        have hc : P.cellsOf e = l'.length := Nat.eq_of_beq_eq_true hb
        rcases Go.Deep.open_slice hu hx with ⟨rfl, _⟩ | ⟨a, len, cap, m, n', Dd, Pl, rfl, _, hl, hm, hmm, _, hel⟩
        · exact ⟨[.v nilS], ⟨.v rfl, trivial⟩, .nil, trivial⟩
        · simp only [if_true] at hmm
          subst hmm
          have hd : ∀ i, i < m → ∃ ds : List D, (∃ cs', w.cells? 0 (a.add (i * P.cellsOf e)) (P.cellsOf e) = some cs' ∧ All2 (Rd w) cs' ds) ∧ All2 Typed l' ds := by
            intro i hi
            obtain ⟨cs', h1, h2⟩ := hel i hi
            obtain ⟨ds, h3, h4⟩ := trod_typed hg h2
            exact ⟨ds, ⟨cs', h1, h3⟩, h4⟩
          obtain ⟨ds, hds⟩ := Go.Deep.choose_lt hd
          have hmk : ∀ i, i < m → (mkEl ag' (ds i)).cells = ds i ∧ (mkEl ag' (ds i)).isAgg = ag' := by
            intro i hi
            refine mkEl_cells fun hf => ?_
            subst hf
            obtain ⟨y, rfl⟩ := tysOf_one hg
            have h5 := (hds i hi).2
            cases hds' : ds i with
            | nil => rw [hds'] at h5; exact h5.elim
            | cons d r =>
              rw [hds'] at h5
              cases r with
              | nil => exact ⟨d, rfl, h5.1.plain⟩
              | cons _ _ => exact h5.2.elim
          have hlen : ∀ i, i < m → (ds i).length = l'.length := fun i hi => (All2.length (hds i hi).2).symm
          have hcell : ∀ i q d, i < m → (ds i)[q]? = some d → ∃ u, w.cell? (a.add (i * l'.length + q)) = some u ∧ Rd w u d := by
            intro i q d hi hq
            obtain ⟨⟨cs', h1, h3⟩, _⟩ := hds i hi
            obtain ⟨_, hl', hce⟩ := World.cells?_some h1
            obtain ⟨u, hu', hr⟩ := h3.getR hq
            have hqc : q < P.cellsOf e := by have := (List.getElem?_eq_some_iff.1 hq).1; rw [hlen i hi, ← hc] at this; exact this
            have := hce q hqc
            rw [Go.Deep.add_add, hc] at this
            exact ⟨u, this.trans hu', hr⟩
          have hel' : ∀ e ∈ (List.range len).map (fun i => mkEl ag' (ds i)), ∃ i, i < len ∧ e = mkEl ag' (ds i) := by
            intro e he
            obtain ⟨i, hi, rfl⟩ := List.mem_map.1 he
            exact ⟨i, List.mem_range.1 hi, rfl⟩
          have hw' : ∀ e ∈ (List.range len).map (fun i => mkEl ag' (ds i)), e.cells.length = l'.length := by
            intro e he
            obtain ⟨i, hi, rfl⟩ := hel' e he
            rw [(hmk i (by omega)).1, hlen i (by omega)]
          have hty : ∀ e ∈ (List.range len).map (fun i => mkEl ag' (ds i)), ∀ (i : Nat) (t : Ty) (d : D), l'[i]? = some t → e.cells[i]? = some d → Typed t d := by
            intro e he i t d h1 h2
            obtain ⟨j, hj, rfl⟩ := hel' e he
            rw [(hmk j (by omega)).1] at h2
            exact (All2.imp2 (hds j (by omega)).2).2 i t d h1 h2
          have key : ∀ k d, (flat ((List.range len).map (fun i => mkEl ag' (ds i))))[k]? = some d → ∃ u, w.cell? (a.add k) = some u ∧ Rd w u d := by
            intro k d hk
            have hkl := (List.getElem?_eq_some_iff.1 hk).1
            rw [flat_get hw'] at hkl
            simp at hkl
            have hi : k / l'.length < len := Nat.div_lt_of_lt_mul (by rw [Nat.mul_comm]; exact hkl)
            have hq : k % l'.length < l'.length := Nat.mod_lt _ hp
            have hk' : k / l'.length * l'.length + k % l'.length = k := by rw [Nat.mul_comm]; exact Nat.div_add_mod k _
            have hf := flat_at hw' (m := k / l'.length) (k := k % l'.length) (e := mkEl ag' (ds (k / l'.length))) (by simp [hi]) hq
            rw [hk', hk, (hmk _ (by omega)).1] at hf
            have := hcell _ _ _ (by omega) hf.symm
            rwa [hk'] at this
          obtain ⟨b, o, q⟩ := a
          have hq : (List.range len).map (fun i => mkEl ag' (ds i)) ≠ [] → q = none ∧ b < w.heap.size := by
            intro hne
            have h0 : 0 < len := by
              rcases Nat.eq_zero_or_pos len with h0 | h0
              · subst h0; simp at hne
              · exact h0
            have hd0 : 0 < (ds 0).length := by rw [hlen 0 (by omega)]; exact hp
            obtain ⟨u, hu', _⟩ := hcell 0 0 (ds 0)[0] (by omega) (by simp [hd0])
            have hu'' : w.cell? ⟨b, o, q⟩ = some u := by simpa [Addr.add] using hu'
            refine ⟨by simpa using World.cell?_spot hu'', ?_⟩
            rcases Nat.lt_or_ge b w.heap.size with hlt | hge
            · exact hlt
            · simp [World.cell?, Array.getElem?_eq_none hge] at hu''
          have key2 : ∀ k d, (flat ((List.range len).map (fun i => mkEl ag' (ds i))))[k]? = some d → ∃ u, w.cell? ⟨b, o + k, none⟩ = some u ∧ Rd w u d := by
            intro k d hk
            obtain rfl := (hq (by rintro e; rw [e] at hk; simp [flat] at hk)).1
            have := key k d hk
            rwa [addr_add] at this
          refine ⟨[.sl l'.length ((List.range len).map (fun i => mkEl ag' (ds i)))], ⟨?_, trivial⟩, .sl (by simp; omega) (fun e he => ?_) hw' hty, trivial⟩
          · refine .sl (fun k => (w.cell? ⟨b, o + k, none⟩).getD undef) (fun h => (hq h).1) (fun h => (hq (fun e => h (by rw [e]; rfl))).2) (by simp) hl hm hw' (fun k d hk => ?_) (fun k d hk => ?_)
            · obtain ⟨u, hu', _⟩ := key2 k d hk
              simp [hu']
            · obtain ⟨u, hu', hr⟩ := key2 k d hk
              simp only [hu', Option.getD_some]; exact hr
          · obtain ⟨i, hi, rfl⟩ := hel' e he
            exact (hmk i (by omega)).2
      · cases h
    · rename_i fs hu
      split at h
      · rename_i l' hg
        cases hb : Nat.beq (P.cellsOf t) l'.length <;> simp [hb] at h
        obtain ⟨rfl, rfl⟩ := h
        obtain ⟨xs, n', _, _, hlen, hxl, hf⟩ := DataW.trod_struct hu hx
        have := trod_fields (enc := enc) (base := 0) (spare := fun _ => true) (held := true) (w := w) (fuel := n') (cs := cs) (g := tysOf P n) (fun t ag l cs' x h1 h2 => trod_typed h1 h2) fs.toList 0 l' xs hg (by rw [hlen, Nat.eq_of_beq_eq_true hb]; simp) (fun i f hi => by
          have hi' : fs[i]? = some f := by simpa using hi
          have h1 := hf i f hi'
          have : i < xs.length := by rw [hxl]; exact (Array.getElem?_eq_some_iff.1 hi').1
          exact ⟨xs[i], by rw [h1]; simp [this]⟩)
        simpa using this
      · cases h
    · rename_i m e hu
      split at h
      · rename_i ag' l' hg
        cases hb : Nat.beq (P.cellsOf e) l'.length <;> cases hc : Nat.beq (P.cellsOf t) (times m l').length <;> simp [hb, hc] at h
        obtain ⟨rfl, rfl⟩ := h
        obtain ⟨xs, n', _, _, hlen, hxl, hf⟩ := DataW.trod_array hu hx
        have e1 : P.cellsOf e = l'.length := Nat.eq_of_beq_eq_true hb
        have := trod_times (enc := enc) (base := 0) (spare := fun _ => true) (held := true) (w := w) (fuel := n') (cs := cs) (e := e) e1 (fun cs' x h2 => trod_typed hg h2) m 0 (by rw [hlen, Nat.eq_of_beq_eq_true hc, times_length, e1]; simp) (fun i hi => by
          have h1 := hf i (by omega)
          have : i < xs.length := by omega
          exact ⟨xs[i], by rw [h1]; simp [this]⟩)
        simpa using this
      · cases h
    · cases h

/-- An argument's data. -/
def TypedA : Bool × List Ty → D → Prop
  | (true, l), d => ∃ ds, d = .agg ds ∧ All2 Typed l ds
  | (false, l), d => ∃ y, l = [y] ∧ Typed y d
theorem arg_in {n : Nat} {t : TypeId} {y : Bool × List Ty} {v : Value} {d : DataW H} {ps : List MemPlace} (hy : tysOf P n t = some y) (hv : Value.okWide P w .any base t v)
    (hx : DataW.Trod enc P w 0 (fun _ => true) true t v d ps) : ∃ a, ArgV (fun b => b < w.heap.size) w a v ∧ TypedA y a := by
  obtain ⟨ag, l⟩ := y
  obtain ⟨fuel, hf⟩ := hx
  obtain ⟨ds, h1, h2⟩ := trod_typed hy hf
  have one : ∀ {x : Value}, v = x → x.cells.toList = [x] → ag = false → ∃ a, ArgV (fun b => b < w.heap.size) w a v ∧ TypedA (ag, l) a := by
    intro x hx hc hag
    subst hag; subst hx
    rw [hc] at h1
    obtain ⟨y, rfl⟩ := tysOf_one hy
    cases ds with
    | nil => exact h1.elim
    | cons d r => exact ⟨d, Reads.argV h1.1, y, rfl, h2.1⟩
  have agg : ∀ {cs : Array Value}, v = .agg cs → ag = true → ∃ a, ArgV (fun b => b < w.heap.size) w a v ∧ TypedA (ag, l) a := by
    intro cs hx hag
    subst hag; subst hx
    exact ⟨.agg ds, ⟨cs.toList, by simp, h1⟩, ds, rfl, h2⟩
  cases n with
  | zero => simp [tysOf] at hy
  | succ n =>
    unfold tysOf at hy
    split at hy
    · rename_i hu
      simp at hy
      obtain ⟨b, rfl⟩ := okWide_bool hu hv
      exact one rfl rfl (by first | exact hy.1 | exact hy.1.symm)
    · rename_i k hu
      simp at hy
      obtain ⟨b, rfl⟩ := okWide_int hu hv
      exact one rfl rfl (by first | exact hy.1 | exact hy.1.symm)
    · rename_i hu
      simp at hy
      obtain ⟨b, rfl⟩ := okWide_string hu hv
      exact one rfl rfl (by first | exact hy.1 | exact hy.1.symm)
    · rename_i e hu
      obtain ⟨a, len, cap, rfl⟩ := okWide_slice hu hv
      refine one rfl rfl ?_
      split at hy
      · rename_i ag' l' _
        cases hb : Nat.beq (P.cellsOf e) l'.length <;> cases hb1 : Nat.ble 1 l'.length <;> simp [hb, hb1] at hy
        first | exact hy.1 | exact hy.1.symm
      · cases hy
    · rename_i fs hu
      have hv' : ∃ cs, v = .agg cs ∧ cs.size = P.cellsOf t ∧ Row.okWide P w .any base t cs := by simpa [Value.okWide, hu] using hv
      obtain ⟨cs, rfl, _⟩ := hv'
      refine agg rfl ?_
      split at hy
      · rename_i l' _
        cases hb : Nat.beq (P.cellsOf t) l'.length <;> simp [hb] at hy
        first | exact hy.1 | exact hy.1.symm
      · cases hy
    · rename_i m e hu
      have hv' : ∃ cs, v = .agg cs ∧ cs.size = P.cellsOf t ∧ Row.okWide P w .any base t cs := by simpa [Value.okWide, hu] using hv
      obtain ⟨cs, rfl, _⟩ := hv'
      refine agg rfl ?_
      split at hy
      · rename_i ag' l' _
        cases hb : Nat.beq (P.cellsOf e) l'.length <;> cases hc : Nat.beq (P.cellsOf t) (times m l').length <;> simp [hb, hc] at hy
        first | exact hy.1 | exact hy.1.symm
      · cases hy
    · cases hy
def tysAll (P : Program) (n : Nat) : List TypeId → Option (List (Bool × List Ty))
  | [] => some []
  | t :: ts => match tysOf P n t, tysAll P n ts with
    | some y, some r => some (y :: r)
    | _, _ => none
theorem args_in {n : Nat} : ∀ {ts : List TypeId} {vs : List Value} {ds : List (DataW H)} {ps : List MemPlace} {ys : List (Bool × List Ty)}, DataW.TrodAll enc P w 0 (fun _ => true) true ts vs ds ps →
    (∀ (j : Nat) t v, ts[j]? = some t → vs[j]? = some v → Value.okWide P w .any base t v) → tysAll P n ts = some ys → ∃ xs', All2 (ArgV (fun b => b < w.heap.size) w) xs' vs ∧ All2 TypedA ys xs'
  | [], vs, ds, ps, ys, h, _, hy => by
    obtain ⟨rfl, rfl, rfl⟩ := trodAll_nil h
    simp [tysAll] at hy; subst hy
    exact ⟨[], trivial, trivial⟩
  | t :: ts, vs, ds, ps, ys, h, hv, hy => by
    obtain ⟨v, vs', d, ds', p, q, rfl, rfl, rfl, h0, r⟩ := trodAll_cons h
    unfold tysAll at hy
    split at hy
    · rename_i y r' h1 h2
      injection hy with hy; subst hy
      obtain ⟨a, ha, hta⟩ := arg_in h1 (hv 0 t v rfl rfl) h0
      obtain ⟨xs', hxs', htas⟩ := args_in r (fun j t v h1 h2 => hv (j + 1) t v (by simpa using h1) (by simpa using h2)) h2
      exact ⟨a :: xs', ⟨ha, hxs'⟩, hta, htas⟩
    · cases hy
theorem args_keep (hl : laidOutB P = true) {w' : World} (hb : Below w.heap.size w w') : ∀ {ts : List TypeId} {vs : List Value} {ds : List (DataW H)} {ps : List MemPlace}, (ts.all fun t => P.readableRec t && decide (t < P.types.size)) = true →
    DataW.TrodAll enc P w 0 (fun _ => true) true ts vs ds ps → DataW.TrodAll enc P w' 0 (fun b => decide (b < w.heap.size)) true ts vs ds ps
  | [], vs, ds, ps, _, h => by
    obtain ⟨rfl, rfl, rfl⟩ := trodAll_nil h
    exact trodAll_mk0
  | t :: ts, vs, ds, ps, hr, h => by
    obtain ⟨v, vs', d, ds', p, q, rfl, rfl, rfl, h0, r⟩ := trodAll_cons h
    simp only [List.all_cons, Bool.and_eq_true, decide_eq_true_eq] at hr
    have lt : ∀ x ∈ p, x.block < w.heap.size := by obtain ⟨m, hm⟩ := h0; exact DataW.trod_lt m _ _ _ hm
    exact trodAll_cons_mk (Below.trod hl hr.1.1 hr.1.2 h0 hb lt) (args_keep hl hb (by simpa using hr.2) r)
/-- A contract that tells 'true', whatever comes in. -/
theorem true_calls {f : FuncId} {args : Array Value} {n : Nat} {ts : List TypeId} {ds : List (DataW H)} {ps : List MemPlace} {ys : List (Bool × List Ty)} (hA : DataW.TrodAll enc P w 0 (fun _ => true) true ts args.toList ds ps)
    (hv : ∀ (j : Nat) t v, ts[j]? = some t → args.toList[j]? = some v → Value.okWide P w .any base t v) (hy : tysAll P n ts = some ys) (hp : ∀ xs', All2 TypedA ys xs' → PureD P f xs' [.v (.bool true)]) :
    Calls P f args w fun e w' => e = .returned (.bool true) ∧ Below w.heap.size w w' := by
  obtain ⟨xs', h1, h2⟩ := args_in hA hv hy
  have := hp xs' h2 (fun b => b < w.heap.size) w args.toList (fun b h => h) h1
  simp only [Array.toArray_toList] at this
  refine this.mono fun e w' ⟨us, he, hb, hr, _⟩ => ⟨?_, hb⟩
  cases us with
  | nil => exact hr.elim
  | cons u r =>
    cases r with
    | nil =>
      obtain ⟨h, _⟩ := hr
      have : u = .bool true := h.1
      subst this
      exact he
    | cons _ _ => exact hr.2.elim
end

/-- Rows of what came in. -/
theorem map_of {α : Type} {f : α → D} {p : α → Prop} : ∀ {es : List D}, (∀ e ∈ es, ∃ a, e = f a ∧ p a) → ∃ zs : List α, es = zs.map f ∧ ∀ a ∈ zs, p a
  | [], _ => ⟨[], rfl, by simp⟩
  | e :: es, h => by
    obtain ⟨a, rfl, ha⟩ := h e (by simp)
    obtain ⟨zs, rfl, hz⟩ := map_of (f := f) (p := p) (es := es) (fun e he => h e (List.mem_cons_of_mem _ he))
    exact ⟨a :: zs, rfl, by intro x hx; rcases List.mem_cons.1 hx with rfl | hx; exact ha; exact hz x hx⟩
theorem Typed.row {ag : Bool} {l : List Ty} {d : D} (h : Typed (.sl ag l) d) : ∃ es, IsL l.length es d ∧ es.length ≤ maxLen ∧ ∀ e ∈ es, e.isAgg = ag ∧ All2 Typed l e.cells := by
  cases h with
  | nil => exact ⟨[], .inr ⟨rfl, rfl⟩, Nat.zero_le _, by simp⟩
  | sl hm hg hl ht => exact ⟨_, .inl rfl, hm, fun e he => ⟨hg e he, All2.mk (hl e he).symm fun k a b h1 h2 => ht e he k a b h1 h2⟩⟩
theorem Typed.int_ {k : IntKind} {d : D} (h : Typed (.int k) d) : ∃ z, d = .v (.int k z) ∧ (Lit.int k z).wf = true := by cases h with | int h => exact ⟨_, rfl, h⟩
theorem Typed.bool_ {d : D} (h : Typed .bool d) : ∃ b, d = .v (.bool b) := by cases h with | bool b => exact ⟨b, rfl⟩
theorem Typed.str_ {d : D} (h : Typed .str d) : ∃ s, d = .v (.string s) ∧ s.size ≤ maxLen := by cases h with | str h => exact ⟨_, rfl, h⟩
theorem Typed.ints {k : IntKind} {d : D} (h : Typed (.sl false [.int k]) d) : ∃ zs : List Int, IsL 1 (ints k zs) d ∧ zs.length ≤ maxLen ∧ ∀ z ∈ zs, (Lit.int k z).wf = true := by
  obtain ⟨es, h1, hm, h2⟩ := h.row
  obtain ⟨zs, rfl, hz⟩ := map_of (f := fun z => .v (.int k z)) (p := fun z => (Lit.int k z).wf = true) (es := es) (fun e he => by
    obtain ⟨h3, h4⟩ := h2 e he
    cases e with
    | agg cs => cases h3
    | v x => exact h4.1.int_
    | sl sz es => obtain ⟨z, e, _⟩ := h4.1.int_; cases e
    | fn f caps => obtain ⟨z, e, _⟩ := h4.1.int_; cases e
    | pt x => obtain ⟨z, e, _⟩ := h4.1.int_; cases e)
  exact ⟨zs, h1, by simpa using hm, hz⟩
theorem Typed.recs2 {k0 k1 : IntKind} {d : D} (h : Typed (.sl true [.int k0, .int k1]) d) : ∃ zs : List (Int × Int), IsL 2 (zs.map fun z => .agg [.v (.int k0 z.1), .v (.int k1 z.2)]) d ∧ zs.length ≤ maxLen ∧ ∀ z ∈ zs, (Lit.int k0 z.1).wf = true ∧ (Lit.int k1 z.2).wf = true := by
  obtain ⟨es, h1, hm, h2⟩ := h.row
  obtain ⟨zs, rfl, hz⟩ := map_of (f := fun (z : Int × Int) => .agg [.v (.int k0 z.1), .v (.int k1 z.2)]) (p := fun z => (Lit.int k0 z.1).wf = true ∧ (Lit.int k1 z.2).wf = true) (es := es) (fun e he => by
    obtain ⟨h3, h4⟩ := h2 e he
    cases e with
    | agg cs =>
      match cs, h4 with
      | [a, b], ⟨h5, h6, _⟩ =>
        obtain ⟨z, rfl, hz⟩ := h5.int_
        obtain ⟨y, rfl, hy⟩ := h6.int_
        exact ⟨(z, y), rfl, hz, hy⟩
    | v x => cases h3
    | sl sz es => cases h3
    | fn f caps => cases h3
    | pt x => cases h3)
  exact ⟨zs, h1, by simpa using hm, hz⟩
theorem wf_bd {k : IntKind} {n : Int} (h : (Lit.int k n).wf = true) : k.min ≤ n ∧ n ≤ k.max := by
  simpa [Lit.wf, Bool.and_eq_true, decide_eq_true_eq] using h
theorem wf_u8 {n : Int} (h : (Lit.int .u8 n).wf = true) : 0 ≤ n ∧ n < 256 := by
  have := wf_bd h
  have e1 : IntKind.u8.min = 0 := rfl
  have e2 : IntKind.u8.max = 255 := rfl
  omega
theorem wf_u16 {n : Int} (h : (Lit.int .u16 n).wf = true) : 0 ≤ n ∧ n < 65536 := by
  have := wf_bd h
  have e1 : IntKind.u16.min = 0 := rfl
  have e2 : IntKind.u16.max = 65535 := rfl
  omega
theorem wf_u32 {n : Int} (h : (Lit.int .u32 n).wf = true) : 0 ≤ n ∧ n < 4294967296 := by
  have := wf_bd h
  have e1 : IntKind.u32.min = 0 := rfl
  have e2 : IntKind.u32.max = 4294967295 := rfl
  omega
theorem wf_u64 {n : Int} (h : (Lit.int .u64 n).wf = true) : 0 ≤ n ∧ n < 18446744073709551616 := by
  have := wf_bd h
  have e1 : IntKind.u64.min = 0 := rfl
  have e2 : IntKind.u64.max = 18446744073709551615 := rfl
  omega
theorem wf_i16 {n : Int} (h : (Lit.int .i16 n).wf = true) : -32768 ≤ n ∧ n < 32768 := by
  have := wf_bd h
  have e1 : IntKind.i16.min = -32768 := rfl
  have e2 : IntKind.i16.max = 32767 := rfl
  omega
theorem wf_i32 {n : Int} (h : (Lit.int .i32 n).wf = true) : -2147483648 ≤ n ∧ n < 2147483648 := by
  have := wf_bd h
  have e1 : IntKind.i32.min = -2147483648 := rfl
  have e2 : IntKind.i32.max = 2147483647 := rfl
  omega
theorem wf_i64 {n : Int} (h : (Lit.int .i64 n).wf = true) : -9223372036854775808 ≤ n ∧ n ≤ 9223372036854775807 := by
  have := wf_bd h
  have e1 : IntKind.i64.min = -9223372036854775808 := rfl
  have e2 : IntKind.i64.max = 9223372036854775807 := rfl
  omega

theorem TypedA.one {t : Ty} {d : D} (h : TypedA (false, [t]) d) : Typed t d := by
  obtain ⟨y, e, h⟩ : ∃ y, [t] = [y] ∧ Typed y d := h
  injection e with e _
  subst e; exact h
theorem TypedA.agg {l : List Ty} {d : D} (h : TypedA (true, l) d) : ∃ ds, d = .agg ds ∧ All2 Typed l ds := h
theorem All2.cons_ {α β : Type} {R : α → β → Prop} {a : α} {xs : List α} {ys : List β} (h : All2 R (a :: xs) ys) : ∃ b zs, ys = b :: zs ∧ R a b ∧ All2 R xs zs := by
  cases ys with
  | nil => exact h.elim
  | cons b zs => exact ⟨b, zs, rfl, h.1, h.2⟩
theorem All2.nil_ {α β : Type} {R : α → β → Prop} {ys : List β} (h : All2 R [] ys) : ys = [] := by
  cases ys with
  | nil => rfl
  | cons b zs => exact h.elim
end Go.Proofs.Ytjdemohgegldaaa
