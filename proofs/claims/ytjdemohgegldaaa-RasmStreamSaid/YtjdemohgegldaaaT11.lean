/-
  Layer 12: a part put among others.
-/
import Derived.Test.YtjdemohgegldaaaT1
import Derived.Test.YtjdemohgegldaaaT2
import Derived.Test.YtjdemohgegldaaaT3
import Derived.Test.YtjdemohgegldaaaT4
import Derived.Test.YtjdemohgegldaaaT6
import Derived.Test.YtjdemohgegldaaaT7
import Derived.Test.YtjdemohgegldaaaT8
import Derived.Test.YtjdemohgegldaaaT10
namespace Go.Proofs.Ytjdemohgegldaaa
open Go.RowKit
set_option linter.unusedSimpArgs false
set_option linter.unusedVariables false


def posP (ps : List Pt) (v : Int) (k : Nat) : Nat := if h : k < ps.length then (if (ps.getD k (0, [])).1 < v then posP ps v (k + 1) else k) else k
termination_by ps.length - k
theorem pos_go {ps : List Pt} {v : Int} {k : Nat} (h : k < ps.length) (h2 : (ps.getD k (0, [])).1 < v) : posP ps v (k + 1) = posP ps v k := by
  conv => rhs; rw [posP]
  rw [dif_pos h, if_pos h2]
theorem pos_no {ps : List Pt} {v : Int} {k : Nat} (h2 : v ≤ (ps.getD k (0, [])).1) : posP ps v k = k := by
  rw [posP]
  by_cases h : k < ps.length
  · rw [dif_pos h, if_neg (by omega)]
  · rw [dif_neg h]
theorem pos_end {ps : List Pt} {v : Int} {k : Nat} (h : ¬ k < ps.length) : posP ps v k = k := by rw [posP, dif_neg h]
def allI (ps : List Pt) (v : Int) (c : List Int) : List Pt := ps.take (posP ps v 0) ++ (v, c) :: ps.drop (posP ps v 0)
def addP (out : List Pt) (p : Pt) : List Pt := if 0 < out.length ∧ endP (out.getD (out.length - 1) (0, [])) = p.1 then out.set (out.length - 1) ((out.getD (out.length - 1) (0, [])).1, (out.getD (out.length - 1) (0, [])).2 ++ p.2) else out ++ [p]
def insF (ps : List Pt) (v : Int) (c : List Int) : List Pt := (allI ps v c).foldl addP []
theorem set_str {l : List Pt} {k : Nat} (h : k < l.length) (s : List Int) : (ofL 2 (l.map ptD)).setAt (.v (.int .i64 (k : Nat))) 1 [str s] = ofL 2 ((l.set k ((l.getD k (0, [])).1, s)).map ptD) := by
  cases hl : l with
  | nil => rw [hl] at h; simp at h
  | cons a t =>
    rw [← hl]
    have e1 : ofL 2 (l.map ptD) = .sl 2 (l.map ptD) := by rw [hl]; rfl
    have e2 : ofL 2 ((l.set k ((l.getD k (0, [])).1, s)).map ptD) = .sl 2 ((l.set k ((l.getD k (0, [])).1, s)).map ptD) := by rw [hl]; cases k <;> rfl
    rw [e1, e2]
    simp only [D.setAt, Int.toNat_natCast]
    have h2 : (l.map ptD).getD k default = ptD (l.getD k (0, [])) := by simp [List.getD, h]
    rw [h2]
    simp [D.splice, ptD, List.map_set]
def Fit (l : List Pt) : Prop := ∀ k, k < l.length → 0 ≤ (l.getD k (0, [])).1 ∧ (l.getD k (0, [])).1 + ((l.getD k (0, [])).2.length : Nat) ≤ 1099511627776
theorem fit_mem {l : List Pt} : Fit l ↔ ∀ p ∈ l, 0 ≤ p.1 ∧ p.1 + (p.2.length : Nat) ≤ 1099511627776 := by
  constructor
  · intro h p hp
    obtain ⟨i, hi, rfl⟩ := List.mem_iff_getElem.1 hp
    simpa [List.getD, hi] using h i hi
  · intro h k hk
    exact h _ (by simp [List.getD, hk])
theorem fit_add {out : List Pt} {p : Pt} (h : Fit out) (hp : 0 ≤ p.1 ∧ p.1 + (p.2.length : Nat) ≤ 1099511627776) : Fit (addP out p) := by
  unfold addP
  split
  · rename_i hc
    rw [fit_mem] at h ⊢
    intro q hq
    rcases List.mem_or_eq_of_mem_set hq with hq | rfl
    · exact h q hq
    · have hl := h (out.getD (out.length - 1) (0, [])) (by simp [List.getD, show out.length - 1 < out.length by omega])
      have he := hc.2
      simp only [endP] at he
      simp only [List.length_append]
      omega
  · rw [fit_mem] at h ⊢
    intro q hq
    rcases List.mem_append.1 hq with hq | hq
    · exact h q hq
    · simp at hq; subst hq; exact hp
theorem fit_all {ps : List Pt} {v : Int} {c : List Int} (h : Fit ps) (hp : 0 ≤ v ∧ v + (c.length : Nat) ≤ 1099511627776) : Fit (allI ps v c) := by
  unfold allI
  rw [fit_mem] at h ⊢
  intro q hq
  rcases List.mem_append.1 hq with hq | hq
  · exact h q (List.mem_of_mem_take hq)
  · rcases List.mem_cons.1 hq with rfl | hq
    · exact hp
    · exact h q (List.mem_of_mem_drop hq)
theorem add_len (out : List Pt) (p : Pt) : (addP out p).length ≤ out.length + 1 := by unfold addP; split <;> simp
theorem foldA_len : ∀ (l out : List Pt), (l.foldl addP out).length ≤ out.length + l.length
  | [], out => by simp
  | p :: l, out => by
    have h1 := foldA_len l (addP out p)
    have h2 := add_len out p
    simp only [List.foldl_cons, List.length_cons]; omega
theorem fold_fit : ∀ {l out : List Pt}, Fit out → Fit l → Fit (l.foldl addP out)
  | [], _, h, _ => h
  | p :: l, out, h, hl => by
    rw [fit_mem] at hl
    show Fit (l.foldl addP (addP out p))
    exact fold_fit (l := l) (out := addP out p) (fit_add h (hl p (by simp))) (fit_mem.2 fun q hq => hl q (by simp [hq]))

theorem cutLoP {ps : List Pt} {x : D} (h : IsL 2 (ps.map ptD) x) {k : Nat} (hk : k ≤ ps.length) : ∃ c, D.cutL 2 x none (some (.v (.int .i64 (k : Nat)))) none = some c ∧ c.lstSz 2 = some ((ps.take k).map ptD) := by
  obtain ⟨c, eC, hC⟩ := h.cut (dl := none) (dh := some (.v (.int .i64 (k : Nat)))) (dm := none) (l := 0) (hh := (k : Nat)) (m := (ps.length : Nat)) rfl rfl (by rw [List.length_map]; rfl) (by omega) (by omega) (by omega) (by rw [List.length_map]; omega)
  refine ⟨c, eC, ?_⟩
  rw [hC.lstSz]; simp [List.map_take]
theorem cutHiP {ps : List Pt} {x : D} (h : IsL 2 (ps.map ptD) x) {k : Nat} (hk : k ≤ ps.length) : ∃ c, D.cutL 2 x (some (.v (.int .i64 (k : Nat)))) none none = some c ∧ c.lstSz 2 = some ((ps.drop k).map ptD) := by
  obtain ⟨c, eC, hC⟩ := h.cut (dl := some (.v (.int .i64 (k : Nat)))) (dh := none) (dm := none) (l := (k : Nat)) (hh := (ps.length : Nat)) (m := (ps.length : Nat)) rfl (by rw [List.length_map]; rfl) (by rw [List.length_map]; rfl) (by omega) (by omega) (by omega) (by rw [List.length_map]; omega)
  refine ⟨c, eC, ?_⟩
  rw [hC.lstSz, Int.toNat_natCast, List.take_of_length_le (by rw [List.length_drop, List.length_map]; omega), List.map_drop]
theorem all_app (ps : List Pt) (v : Int) (c : List Int) (k : Nat) (hk : k = posP ps v 0) : D.app 2 (D.app 2 (D.app 2 (.v nilS) ((ps.take k).map ptD)) [.agg [.v (.int .i64 v), str c]]) ((ps.drop k).map ptD) = ofL 2 ((allI ps v c).map ptD) := by
  unfold allI
  rw [app_nil, app_ofL, app_ofL, ← hk, List.map_append, List.map_cons, List.append_assoc]; rfl

theorem add_join {O : List Pt} {p : Pt} {j : Nat} (hj : O.length = j + 1) (h : endP (O.getD j (0, [])) = p.1) : addP O p = O.set j ((O.getD j (0, [])).1, (O.getD j (0, [])).2 ++ p.2) := by
  unfold addP
  have e : O.length - 1 = j := by omega
  rw [e, if_pos ⟨by omega, h⟩]
theorem add_apart {O : List Pt} {p : Pt} (h : ∀ j, O.length = j + 1 → endP (O.getD j (0, [])) ≠ p.1) : addP O p = O ++ [p] := by
  unfold addP
  rw [if_neg]
  rintro ⟨h1, h2⟩
  exact h (O.length - 1) (by omega) h2

theorem vc_insert (x : D) (ps : List Pt) (v : Int) (c : List Int) : Cond Try.prog (fun k => if k = 2 then some ⟨[7], [], [0, 1, 2], []⟩ else if k = 8 then some ⟨[10], [9], [8], []⟩ else none) Try.f50 [x, .v (.int .i64 v), str c] [ofL 2 ((insF ps v c).map ptD)] = ((NotAgg x ∧ NotAgg (D.v (Value.int IntKind.i64 v)) ∧ NotAgg (str c) ∧ True) ∧ ∃ (I : List D → Prop), ∃ (μ : List D → Nat), ((D.v (Value.int IntKind.i64 0) = D.v (Value.int IntKind.i64 0) ∧ x = x ∧ D.v (Value.int IntKind.i64 v) = D.v (Value.int IntKind.i64 v) ∧ str c = str c ∧ True) ∧ True ∧ I [D.v (Value.int IntKind.i64 0)]) ∧ ∀ (r : D), I [r] → ∃ (r_1 : D), D.lenT (TypeDesc.slice 66) x = some r_1 ∧ ∃ (r_2 : D), D.bin BinOp.lss r r_1 = some r_2 ∧ ∃ (b : Bool), r_2 = D.v (Value.bool b) ∧ (b = true → D.inb 2 x r ∧ 0 + 1 ≤ (x.at_ r).cells.length ∧ ∃ (r_3 : D), D.bin BinOp.lss ((x.at_ r).cell 0) (D.v (Value.int IntKind.i64 v)) = some r_3 ∧ ∃ (b : Bool), r_3 = D.v (Value.bool b) ∧ (b = true → ∃ (r_4 : D), D.bin BinOp.add r (D.v (Value.int IntKind.i64 1)) = some r_4 ∧ (r_4 = r_4 ∧ x = x ∧ D.v (Value.int IntKind.i64 v) = D.v (Value.int IntKind.i64 v) ∧ str c = str c ∧ True) ∧ True ∧ I [r_4] ∧ μ [r_4] < μ [r]) ∧ (b = false → ∃ (r_4 : D), D.cutL 2 x none (some r) none = some r_4 ∧ ∃ (ls : List D), (D.v nilS).lst = some ls ∧ ∃ (lx : List D), D.lstSz 2 r_4 = some lx ∧ (ls.length + lx.length) * 24 ≤ 1099511627776 ∧ ∃ (ls : List D), (D.app 2 (D.v nilS) lx).lst = some ls ∧ ∃ (lx_1 : List D), D.lstSz 2 (D.sl 2 (chunks true 2 1 [D.v (Value.int IntKind.i64 v), str c])) = some lx_1 ∧ (ls.length + lx_1.length) * 24 ≤ 1099511627776 ∧ ∃ (r_5 : D), D.cutL 2 x (some r) none none = some r_5 ∧ ∃ (ls : List D), (D.app 2 (D.app 2 (D.v nilS) lx) lx_1).lst = some ls ∧ ∃ (lx_2 : List D), D.lstSz 2 r_5 = some lx_2 ∧ (ls.length + lx_2.length) * 24 ≤ 1099511627776 ∧ ∃ (I : List D → Prop), ∃ (μ : List D → Nat), ((D.v (Value.int IntKind.i64 0) = D.v (Value.int IntKind.i64 0) ∧ true = true ∧ true = true ∧ True) ∧ ((true = true ∧ D.v nilS = D.v nilS) ∧ (true = true ∧ D.app 2 (D.app 2 (D.app 2 (D.v nilS) lx) lx_1) lx_2 = D.app 2 (D.app 2 (D.app 2 (D.v nilS) lx) lx_1) lx_2) ∧ True) ∧ I [D.v (Value.int IntKind.i64 0), D.v nilS]) ∧ ∀ (r r_6 : D), I [r, r_6] → ∃ (r_7 : D), D.lenT (TypeDesc.slice 66) (D.app 2 (D.app 2 (D.app 2 (D.v nilS) lx) lx_1) lx_2) = some r_7 ∧ ∃ (r_8 : D), D.bin BinOp.lss r r_7 = some r_8 ∧ ∃ (b : Bool), r_8 = D.v (Value.bool b) ∧ (b = true → ∃ (r_9 : D), D.lenT (TypeDesc.slice 66) r_6 = some r_9 ∧ ∃ (r_10 : D), D.bin BinOp.gtr r_9 (D.v (Value.int IntKind.i64 0)) = some r_10 ∧ ∃ (b : Bool), r_10 = D.v (Value.bool b) ∧ (b = true → ∃ (r_11 : D), D.bin BinOp.sub r_9 (D.v (Value.int IntKind.i64 1)) = some r_11 ∧ D.inb 2 r_6 r_11 ∧ 0 + 1 ≤ (r_6.at_ r_11).cells.length ∧ ∃ (r_12 : D), D.bin BinOp.sub r_9 (D.v (Value.int IntKind.i64 1)) = some r_12 ∧ D.inb 2 r_6 r_12 ∧ 0 + 1 + 1 ≤ (r_6.at_ r_12).cells.length ∧ ∃ (r_13 : D), D.lenT TypeDesc.string ((r_6.at_ r_12).cell (0 + 1)) = some r_13 ∧ ∃ (r_14 : D), D.bin BinOp.add ((r_6.at_ r_11).cell 0) r_13 = some r_14 ∧ D.inb 2 (D.app 2 (D.app 2 (D.app 2 (D.v nilS) lx) lx_1) lx_2) r ∧ 0 + 1 ≤ ((D.app 2 (D.app 2 (D.app 2 (D.v nilS) lx) lx_1) lx_2).at_ r).cells.length ∧ ∃ (r_15 : D), D.bin BinOp.eql r_14 (((D.app 2 (D.app 2 (D.app 2 (D.v nilS) lx) lx_1) lx_2).at_ r).cell 0) = some r_15 ∧ ∃ (b : Bool), r_15 = D.v (Value.bool b) ∧ (b = true → ∃ (r_16 : D), D.bin BinOp.sub r_9 (D.v (Value.int IntKind.i64 1)) = some r_16 ∧ ∃ (r_17 : D), D.bin BinOp.sub r_9 (D.v (Value.int IntKind.i64 1)) = some r_17 ∧ D.inb 2 r_6 r_17 ∧ 0 + 1 + 1 ≤ (r_6.at_ r_17).cells.length ∧ D.inb 2 (D.app 2 (D.app 2 (D.app 2 (D.v nilS) lx) lx_1) lx_2) r ∧ 0 + 1 + 1 ≤ ((D.app 2 (D.app 2 (D.app 2 (D.v nilS) lx) lx_1) lx_2).at_ r).cells.length ∧ ∃ (r_18 : D), D.bin BinOp.add ((r_6.at_ r_17).cell (0 + 1)) (((D.app 2 (D.app 2 (D.app 2 (D.v nilS) lx) lx_1) lx_2).at_ r).cell (0 + 1)) = some r_18 ∧ D.inb 2 r_6 r_16 ∧ 0 + 1 + [r_18].length ≤ (r_6.at_ r_16).cells.length ∧ ((r_6.at_ r_16).isAgg' = true ∨ [r_18].length = 1) ∧ ∃ (r_19 : D), D.bin BinOp.add r (D.v (Value.int IntKind.i64 1)) = some r_19 ∧ (r_19 = r_19 ∧ true = true ∧ true = true ∧ True) ∧ ((true = true ∧ r_6.setAt r_16 (0 + 1) [r_18] = r_6.setAt r_16 (0 + 1) [r_18]) ∧ (true = true ∧ D.app 2 (D.app 2 (D.app 2 (D.v nilS) lx) lx_1) lx_2 = D.app 2 (D.app 2 (D.app 2 (D.v nilS) lx) lx_1) lx_2) ∧ True) ∧ I [r_19, r_6.setAt r_16 (0 + 1) [r_18]] ∧ μ [r_19, r_6.setAt r_16 (0 + 1) [r_18]] < μ [r, r_6]) ∧ (b = false → D.inb 2 (D.app 2 (D.app 2 (D.app 2 (D.v nilS) lx) lx_1) lx_2) r ∧ 0 + 2 ≤ ((D.app 2 (D.app 2 (D.app 2 (D.v nilS) lx) lx_1) lx_2).at_ r).cells.length ∧ ∃ (ls : List D), r_6.lst = some ls ∧ ∃ (lx_3 : List D), D.lstSz 2 (D.sl 2 (chunks true 2 1 [((D.app 2 (D.app 2 (D.app 2 (D.v nilS) lx) lx_1) lx_2).at_ r).cell (0 + 0), ((D.app 2 (D.app 2 (D.app 2 (D.v nilS) lx) lx_1) lx_2).at_ r).cell (0 + 1)])) = some lx_3 ∧ (ls.length + lx_3.length) * 24 ≤ 1099511627776 ∧ ∃ (r_16 : D), D.bin BinOp.add r (D.v (Value.int IntKind.i64 1)) = some r_16 ∧ (r_16 = r_16 ∧ true = true ∧ true = true ∧ True) ∧ ((true = true ∧ D.app 2 r_6 lx_3 = D.app 2 r_6 lx_3) ∧ (true = true ∧ D.app 2 (D.app 2 (D.app 2 (D.v nilS) lx) lx_1) lx_2 = D.app 2 (D.app 2 (D.app 2 (D.v nilS) lx) lx_1) lx_2) ∧ True) ∧ I [r_16, D.app 2 r_6 lx_3] ∧ μ [r_16, D.app 2 r_6 lx_3] < μ [r, r_6])) ∧ (b = false → D.inb 2 (D.app 2 (D.app 2 (D.app 2 (D.v nilS) lx) lx_1) lx_2) r ∧ 0 + 2 ≤ ((D.app 2 (D.app 2 (D.app 2 (D.v nilS) lx) lx_1) lx_2).at_ r).cells.length ∧ ∃ (ls : List D), r_6.lst = some ls ∧ ∃ (lx_3 : List D), D.lstSz 2 (D.sl 2 (chunks true 2 1 [((D.app 2 (D.app 2 (D.app 2 (D.v nilS) lx) lx_1) lx_2).at_ r).cell (0 + 0), ((D.app 2 (D.app 2 (D.app 2 (D.v nilS) lx) lx_1) lx_2).at_ r).cell (0 + 1)])) = some lx_3 ∧ (ls.length + lx_3.length) * 24 ≤ 1099511627776 ∧ ∃ (r_11 : D), D.bin BinOp.add r (D.v (Value.int IntKind.i64 1)) = some r_11 ∧ (r_11 = r_11 ∧ true = true ∧ true = true ∧ True) ∧ ((true = true ∧ D.app 2 r_6 lx_3 = D.app 2 r_6 lx_3) ∧ (true = true ∧ D.app 2 (D.app 2 (D.app 2 (D.v nilS) lx) lx_1) lx_2 = D.app 2 (D.app 2 (D.app 2 (D.v nilS) lx) lx_1) lx_2) ∧ True) ∧ I [r_11, D.app 2 r_6 lx_3] ∧ μ [r_11, D.app 2 r_6 lx_3] < μ [r, r_6])) ∧ (b = false → (PlainD r_6 ∧ True) ∧ [r_6] = [ofL 2 (List.map ptD (insF ps v c))]))) ∧ (b = false → ∃ (r_3 : D), D.cutL 2 x none (some r) none = some r_3 ∧ ∃ (ls : List D), (D.v nilS).lst = some ls ∧ ∃ (lx : List D), D.lstSz 2 r_3 = some lx ∧ (ls.length + lx.length) * 24 ≤ 1099511627776 ∧ ∃ (ls : List D), (D.app 2 (D.v nilS) lx).lst = some ls ∧ ∃ (lx_1 : List D), D.lstSz 2 (D.sl 2 (chunks true 2 1 [D.v (Value.int IntKind.i64 v), str c])) = some lx_1 ∧ (ls.length + lx_1.length) * 24 ≤ 1099511627776 ∧ ∃ (r_4 : D), D.cutL 2 x (some r) none none = some r_4 ∧ ∃ (ls : List D), (D.app 2 (D.app 2 (D.v nilS) lx) lx_1).lst = some ls ∧ ∃ (lx_2 : List D), D.lstSz 2 r_4 = some lx_2 ∧ (ls.length + lx_2.length) * 24 ≤ 1099511627776 ∧ ∃ (I : List D → Prop), ∃ (μ : List D → Nat), ((D.v (Value.int IntKind.i64 0) = D.v (Value.int IntKind.i64 0) ∧ true = true ∧ true = true ∧ True) ∧ ((true = true ∧ D.v nilS = D.v nilS) ∧ (true = true ∧ D.app 2 (D.app 2 (D.app 2 (D.v nilS) lx) lx_1) lx_2 = D.app 2 (D.app 2 (D.app 2 (D.v nilS) lx) lx_1) lx_2) ∧ True) ∧ I [D.v (Value.int IntKind.i64 0), D.v nilS]) ∧ ∀ (r r_5 : D), I [r, r_5] → ∃ (r_6 : D), D.lenT (TypeDesc.slice 66) (D.app 2 (D.app 2 (D.app 2 (D.v nilS) lx) lx_1) lx_2) = some r_6 ∧ ∃ (r_7 : D), D.bin BinOp.lss r r_6 = some r_7 ∧ ∃ (b : Bool), r_7 = D.v (Value.bool b) ∧ (b = true → ∃ (r_8 : D), D.lenT (TypeDesc.slice 66) r_5 = some r_8 ∧ ∃ (r_9 : D), D.bin BinOp.gtr r_8 (D.v (Value.int IntKind.i64 0)) = some r_9 ∧ ∃ (b : Bool), r_9 = D.v (Value.bool b) ∧ (b = true → ∃ (r_10 : D), D.bin BinOp.sub r_8 (D.v (Value.int IntKind.i64 1)) = some r_10 ∧ D.inb 2 r_5 r_10 ∧ 0 + 1 ≤ (r_5.at_ r_10).cells.length ∧ ∃ (r_11 : D), D.bin BinOp.sub r_8 (D.v (Value.int IntKind.i64 1)) = some r_11 ∧ D.inb 2 r_5 r_11 ∧ 0 + 1 + 1 ≤ (r_5.at_ r_11).cells.length ∧ ∃ (r_12 : D), D.lenT TypeDesc.string ((r_5.at_ r_11).cell (0 + 1)) = some r_12 ∧ ∃ (r_13 : D), D.bin BinOp.add ((r_5.at_ r_10).cell 0) r_12 = some r_13 ∧ D.inb 2 (D.app 2 (D.app 2 (D.app 2 (D.v nilS) lx) lx_1) lx_2) r ∧ 0 + 1 ≤ ((D.app 2 (D.app 2 (D.app 2 (D.v nilS) lx) lx_1) lx_2).at_ r).cells.length ∧ ∃ (r_14 : D), D.bin BinOp.eql r_13 (((D.app 2 (D.app 2 (D.app 2 (D.v nilS) lx) lx_1) lx_2).at_ r).cell 0) = some r_14 ∧ ∃ (b : Bool), r_14 = D.v (Value.bool b) ∧ (b = true → ∃ (r_15 : D), D.bin BinOp.sub r_8 (D.v (Value.int IntKind.i64 1)) = some r_15 ∧ ∃ (r_16 : D), D.bin BinOp.sub r_8 (D.v (Value.int IntKind.i64 1)) = some r_16 ∧ D.inb 2 r_5 r_16 ∧ 0 + 1 + 1 ≤ (r_5.at_ r_16).cells.length ∧ D.inb 2 (D.app 2 (D.app 2 (D.app 2 (D.v nilS) lx) lx_1) lx_2) r ∧ 0 + 1 + 1 ≤ ((D.app 2 (D.app 2 (D.app 2 (D.v nilS) lx) lx_1) lx_2).at_ r).cells.length ∧ ∃ (r_17 : D), D.bin BinOp.add ((r_5.at_ r_16).cell (0 + 1)) (((D.app 2 (D.app 2 (D.app 2 (D.v nilS) lx) lx_1) lx_2).at_ r).cell (0 + 1)) = some r_17 ∧ D.inb 2 r_5 r_15 ∧ 0 + 1 + [r_17].length ≤ (r_5.at_ r_15).cells.length ∧ ((r_5.at_ r_15).isAgg' = true ∨ [r_17].length = 1) ∧ ∃ (r_18 : D), D.bin BinOp.add r (D.v (Value.int IntKind.i64 1)) = some r_18 ∧ (r_18 = r_18 ∧ true = true ∧ true = true ∧ True) ∧ ((true = true ∧ r_5.setAt r_15 (0 + 1) [r_17] = r_5.setAt r_15 (0 + 1) [r_17]) ∧ (true = true ∧ D.app 2 (D.app 2 (D.app 2 (D.v nilS) lx) lx_1) lx_2 = D.app 2 (D.app 2 (D.app 2 (D.v nilS) lx) lx_1) lx_2) ∧ True) ∧ I [r_18, r_5.setAt r_15 (0 + 1) [r_17]] ∧ μ [r_18, r_5.setAt r_15 (0 + 1) [r_17]] < μ [r, r_5]) ∧ (b = false → D.inb 2 (D.app 2 (D.app 2 (D.app 2 (D.v nilS) lx) lx_1) lx_2) r ∧ 0 + 2 ≤ ((D.app 2 (D.app 2 (D.app 2 (D.v nilS) lx) lx_1) lx_2).at_ r).cells.length ∧ ∃ (ls : List D), r_5.lst = some ls ∧ ∃ (lx_3 : List D), D.lstSz 2 (D.sl 2 (chunks true 2 1 [((D.app 2 (D.app 2 (D.app 2 (D.v nilS) lx) lx_1) lx_2).at_ r).cell (0 + 0), ((D.app 2 (D.app 2 (D.app 2 (D.v nilS) lx) lx_1) lx_2).at_ r).cell (0 + 1)])) = some lx_3 ∧ (ls.length + lx_3.length) * 24 ≤ 1099511627776 ∧ ∃ (r_15 : D), D.bin BinOp.add r (D.v (Value.int IntKind.i64 1)) = some r_15 ∧ (r_15 = r_15 ∧ true = true ∧ true = true ∧ True) ∧ ((true = true ∧ D.app 2 r_5 lx_3 = D.app 2 r_5 lx_3) ∧ (true = true ∧ D.app 2 (D.app 2 (D.app 2 (D.v nilS) lx) lx_1) lx_2 = D.app 2 (D.app 2 (D.app 2 (D.v nilS) lx) lx_1) lx_2) ∧ True) ∧ I [r_15, D.app 2 r_5 lx_3] ∧ μ [r_15, D.app 2 r_5 lx_3] < μ [r, r_5])) ∧ (b = false → D.inb 2 (D.app 2 (D.app 2 (D.app 2 (D.v nilS) lx) lx_1) lx_2) r ∧ 0 + 2 ≤ ((D.app 2 (D.app 2 (D.app 2 (D.v nilS) lx) lx_1) lx_2).at_ r).cells.length ∧ ∃ (ls : List D), r_5.lst = some ls ∧ ∃ (lx_3 : List D), D.lstSz 2 (D.sl 2 (chunks true 2 1 [((D.app 2 (D.app 2 (D.app 2 (D.v nilS) lx) lx_1) lx_2).at_ r).cell (0 + 0), ((D.app 2 (D.app 2 (D.app 2 (D.v nilS) lx) lx_1) lx_2).at_ r).cell (0 + 1)])) = some lx_3 ∧ (ls.length + lx_3.length) * 24 ≤ 1099511627776 ∧ ∃ (r_10 : D), D.bin BinOp.add r (D.v (Value.int IntKind.i64 1)) = some r_10 ∧ (r_10 = r_10 ∧ true = true ∧ true = true ∧ True) ∧ ((true = true ∧ D.app 2 r_5 lx_3 = D.app 2 r_5 lx_3) ∧ (true = true ∧ D.app 2 (D.app 2 (D.app 2 (D.v nilS) lx) lx_1) lx_2 = D.app 2 (D.app 2 (D.app 2 (D.v nilS) lx) lx_1) lx_2) ∧ True) ∧ I [r_10, D.app 2 r_5 lx_3] ∧ μ [r_10, D.app 2 r_5 lx_3] < μ [r, r_5])) ∧ (b = false → (PlainD r_5 ∧ True) ∧ [r_5] = [ofL 2 (List.map ptD (insF ps v c))]))) := by kernel_rfl
set_option maxHeartbeats 8000000 in
theorem insert (x : D) (ps : List Pt) (v : Int) (c : List Int) (hX : IsL 2 (ps.map ptD) x) (hF : Fit ps) (hm : ps.length ≤ 100000) (hv : 0 ≤ v ∧ v + (c.length : Nat) ≤ 1099511627776) : PureD Try.prog 50 [x, .v (.int .i64 v), str c] [ofL 2 ((insF ps v c).map ptD)] := by
  refine pure_cond (Lp := (fun k => if k = 2 then some ⟨[7], [], [0, 1, 2], []⟩ else if k = 8 then some ⟨[10], [9], [8], []⟩ else none)) (by kernel_rfl) Try.func50 (by kernel_rfl) (by kernel_rfl) ?_
  rw [vc_insert x ps v c]
  simp only [hX.lenT, List.length_map, Option.some.injEq, exists_eq_left']
  have hAl : (allI ps v c).length = ps.length + 1 := by
    unfold allI; simp only [List.length_append, List.length_take, List.length_cons, List.length_drop]; omega
  have hR : insF ps v c = (allI ps v c).foldl addP [] := rfl
  rw [hR]
  have h1 : True := trivial
  have h2 : True := trivial
  have hjn : True := trivial
  have hsa : True := trivial
  repeat' (first
    | (refine ex_some (by simp (disch := omega) only [bin_shr, bin_shl, bin_and, bin_or, bin_xor, len_str, toStr_ofL, bin_add, bin_sub, bin_mul, bin_quo, bin_rem, bin_lss, bin_leq, bin_gtr, bin_geq, bin_eql, bin_neq, eqs_cn, eqs_ci, eqs_cb, eqs_cs, Option.map_some, lenT_ofL, lst_ofL, lstSz_ofL, chunk_one, lst_nil, lst_sl, lstSz_sl, lstSz_nil, Bool.and_true, Bool.true_and, Bool.and_false, Bool.false_and, beq_self_eq_true, beq_bb, bne_bb, un_not, un_neg, conv_int, min2_int, max2_int, w64, w32, wu8, wu16, wu32, wu64, tdiv_nn, tmod_nn, cell_zero, cell_succ, cell_v, cells_v, cells_agg, Bool.not_true, Bool.not_false, Int.reduceLT, Int.reduceLE, Int.reduceEq, Int.reduceNeg, Int.reduceAdd, Int.reduceSub, Int.reduceMul, intOf_v, decide_true, decide_false, h1, h2, hjn, hsa, ch2, app_nil, app_ofL, hX.lenT, List.length_map]; rfl) ?_)
    | (refine ex_bool ?_)
    | (exact i1)
    | (exact i2)
    | (refine ⟨_, e1, ?_⟩)
    | (refine ⟨_, e2, ?_⟩)
    | (refine ⟨_, l1, ?_⟩)
    | (refine ⟨_, l2, ?_⟩)
    | (have := inl1; have hvv : v ≤ a := (by omega); rw [hq hvv]; refine ⟨(fun r2 => ∃ k : Nat, k ≤ (allI ps v c).length ∧ r2 = [.v (.int .i64 (k : Nat)), ofL 2 ((((allI ps v c).take k).foldl addP []).map ptD)]), leftG (allI ps v c).length, ?_⟩)
    | (have := out1; rw [hq]; refine ⟨(fun r2 => ∃ k : Nat, k ≤ (allI ps v c).length ∧ r2 = [.v (.int .i64 (k : Nat)), ofL 2 ((((allI ps v c).take k).foldl addP []).map ptD)]), leftG (allI ps v c).length, ?_⟩)
    | (refine fun (r3 r4 : D) (hI : (fun r2 => ∃ k : Nat, k ≤ (allI ps v c).length ∧ r2 = [.v (.int .i64 (k : Nat)), ofL 2 ((((allI ps v c).take k).foldl addP []).map ptD)]) [r3, r4]) => ?_; obtain ⟨k, hk, hl0⟩ := hI; simp only [List.cons.injEq, and_true] at hl0; obtain ⟨rfl, rfl⟩ := hl0; by_cases hlt : k < (allI ps v c).length <;> first | (have hk1 : k < (allI ps v c).length := (by omega); have h1 := pt_get (isL_ofL 2 ((allI ps v c).map ptD)) hk1; have i1 := pt_inb (isL_ofL 2 ((allI ps v c).map ptD)) hk1; have hAf := fit_all hF hv k hk1; have hOf : Fit (((allI ps v c).take k).foldl addP []) := fold_fit (fun k hk => by simp at hk) (fit_mem.2 fun p hp => fit_mem.1 (fit_all hF hv) p (List.mem_of_mem_take hp)); have hOl := foldA_len ((allI ps v c).take k) []; rw [List.length_take, List.length_nil] at hOl; have ht : ((allI ps v c).take (k + 1)).foldl addP [] = addP (((allI ps v c).take k).foldl addP []) ((allI ps v c).getD k (0, [])) := (by rw [List.take_succ_eq_append_getElem hk1, List.foldl_append, List.getD_eq_getElem?_getD, List.getElem?_eq_getElem hk1]; rfl); generalize ((allI ps v c).take k).foldl addP [] = O at ht hOf hOl; generalize (allI ps v c).getD k (0, []) = p at h1 ht hAf; obtain ⟨a, s⟩ := p; simp only at hAf; have hap : D.app 2 (ofL 2 (O.map ptD)) [.agg [.v (.int .i64 a), str s]] = ofL 2 ((O ++ [(a, s)]).map ptD) := (by rw [app_ofL, List.map_append]; rfl); simp only [ptD] at h1; have inl2 : True := trivial; rcases Nat.eq_zero_or_pos O.length with hz | hz; all_goals (first | (have hno := add_apart (O := O) (p := (a, s)) (fun j hj => by omega); have g1 : True := trivial) | (obtain ⟨j, hj⟩ : ∃ j, O.length = j + 1 := ⟨O.length - 1, (Nat.succ_pred_eq_of_pos hz).symm⟩; have hjn : (O.length : Int) - 1 = (j : Nat) := (by omega); have h2 := pt_get (isL_ofL 2 (O.map ptD)) (k := j) (by omega); have i2 := pt_inb (isL_ofL 2 (O.map ptD)) (k := j) (by omega); have hof := hOf j (by omega); have hjo := fun e => add_join (O := O) (p := (a, s)) hj e; have hno := fun (e : endP (O.getD j (0, [])) ≠ a) => add_apart (O := O) (p := (a, s)) (fun j2 hj2 => (show j = j2 by omega) ▸ e); have hst := fun w => set_str (l := O) (k := j) (by omega) w; generalize O.getD j (0, []) = y at h2 hof hjo hno hst; obtain ⟨a2, s2⟩ := y; simp only [endP] at hof hjo hno hst; simp only [ptD] at h2; have hsa := bin_sadd (a := s2) (b := s) (by omega); have g2 : True := trivial))) | (have hkk : k = (allI ps v c).length := (by omega); subst hkk; rw [List.take_length]; have h1 : True := trivial; have out2 : True := trivial))
    | (refine ⟨(fun r2 => ∃ i : Nat, i ≤ ps.length ∧ posP ps v i = posP ps v 0 ∧ r2 = [.v (.int .i64 (i : Nat))]), leftG ps.length, ?_⟩)
    | (refine fun (r2 : D) (hI : (fun r2 => ∃ i : Nat, i ≤ ps.length ∧ posP ps v i = posP ps v 0 ∧ r2 = [.v (.int .i64 (i : Nat))]) [r2]) => ?_; obtain ⟨i, hi, hp, hl0⟩ := hI; simp only [List.cons.injEq, and_true] at hl0; subst hl0; by_cases hlt : i < ps.length <;> first | (have hk1 : i < ps.length := (by omega); have h1 := pt_get hX hk1; have i1 := pt_inb hX hk1; have hg := fun hh => (pos_go hk1 hh).trans hp; have hk2 : i ≤ ps.length := (by omega); obtain ⟨d1, e1, l1⟩ := cutLoP hX hk2; obtain ⟨d2, e2, l2⟩ := cutHiP hX hk2; have hq := fun hh => all_app ps v c i ((pos_no (ps := ps) (v := v) (k := i) hh).symm.trans hp); generalize ps.getD i (0, []) = z at h1 hg hq; obtain ⟨a, s⟩ := z; simp only at hg hq; simp only [h1, ptD, Nat.zero_add, cell_zero, cell_succ, cells_agg, List.length_cons, List.length_nil]; have inl1 : True := trivial) | (have hkk : i = ps.length := (by omega); have hk2 : i ≤ ps.length := (by omega); obtain ⟨d1, e1, l1⟩ := cutLoP hX hk2; obtain ⟨d2, e2, l2⟩ := cutHiP hX hk2; have hq := all_app ps v c i ((pos_end (ps := ps) (v := v) hlt).symm.trans hp); have h1 : True := trivial; have out1 : True := trivial))
    | (have := inl2; refine ⟨k + 1, by omega, ?_⟩)
    | (have := inl1; exact ⟨i + 1, by omega, hg ‹_›, rfl⟩)
    | (have := inl1; exact ⟨0, Nat.zero_le _, rfl⟩)
    | (have := out1; exact ⟨0, Nat.zero_le _, rfl⟩)
    | (exact ⟨0, Nat.zero_le _, rfl, rfl⟩)
    | (refine And.intro ?_ ?_)
    | (intro hx; have hprop := (show ∀ (p : Prop), p → True from fun _ _ => True.intro) _ hx; clear hprop; first | (cases hx; done) | (exfalso; revert hx; simp (disch := omega) only [decide_eq_true_eq, decide_eq_false_iff_not, Bool.not_eq_true', Bool.not_eq_false', Bool.and_eq_true, Bool.and_eq_false_iff, Int.not_lt, Int.not_le, ne_eq, not_false_eq_true, not_true_eq_false, reduceCtorEq, Bool.true_eq_false, Bool.false_eq_true, beq_iff_eq, bne_iff_ne, beq_eq_false_iff_ne, false_or, or_false, true_and, and_true, h1, h2, hjn, hsa, ch2, app_nil, app_ofL, hX.lenT, List.length_map]; done) | (simp (disch := omega) only [decide_eq_true_eq, decide_eq_false_iff_not, Bool.not_eq_true', Bool.not_eq_false', Bool.and_eq_true, Bool.and_eq_false_iff, Int.not_lt, Int.not_le, ne_eq, not_false_eq_true, not_true_eq_false, reduceCtorEq, Bool.true_eq_false, Bool.false_eq_true, beq_iff_eq, bne_iff_ne, beq_eq_false_iff_ne, false_or, or_false, true_and, and_true, h1, h2, hjn, hsa, ch2, app_nil, app_ofL, hX.lenT, List.length_map] at hx; first | (exfalso; omega) | skip) | skip)
    | trivial
    | exact fit_ofL _ _
    | (simp (disch := omega) only [notAgg_v, notAgg_sl, plain_v, fits, fitsOne, fitsCells, xsOf, cell_zero, cell_succ, List.range, List.range.loop, List.map, cond_true, cond_false, D.v.injEq, exists_eq', exists_eq, and_self, and_true, true_and, D.agg.injEq, List.length, exists_eq_left', D.sl.injEq, reduceCtorEq, false_or, true_or, or_true, or_false, cell_zero, cell_succ, cell_v, cells_v, cells_agg, List.length_cons, List.length_nil, h1, h2, hjn, hsa, ch2, app_nil, app_ofL, hX.lenT, List.length_map]; done))
  all_goals first
    | (exfalso; omega)
    | omega
    | exact hX.notAgg
    | exact notAgg_v _
    | exact ⟨_, rfl⟩
    | rfl
    | assumption
    | (simp only [leftG]; omega)
    | (rw [h1]; show _ ≤ 2; omega)
    | (rw [h2]; show _ ≤ 2; omega)
    | (rw [h2]; exact Nat.le_refl _)
    | exact plain_ofL (pts_plain _)
    | (simp only [List.length_map, List.length_take, List.length_drop, List.length_append, List.length_cons, List.length_nil]; omega)
    | (rw [ht, hno, ← hap] <;> first | rfl | assumption | omega)
    | (rw [ht, hjo, ← hst] <;> first | rfl | assumption | omega)
    | (simp; done)
    | fail

end Go.Proofs.Ytjdemohgegldaaa