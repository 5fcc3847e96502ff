/-
  Layer 6: all of an interval; the first one; how many; the same; copies.
-/
import Derived.Test.YtpbmlllffmkkdaaT1
import Derived.Test.YtpbmlllffmkkdaaT2
import Derived.Test.YtpbmlllffmkkdaaT3
namespace Go.Proofs.Ytpbmlllffmkkdaa
open Go.RowKit
set_option linter.unusedSimpArgs false
set_option linter.unusedVariables false


def hol (p q : Int) (z : Int × Int) : Bool := decide (z.1 ≤ p) && decide (q ≤ z.2)
def holdsF (zs : List (Int × Int)) (p q : Int) : Bool := emp (p, q) || zs.any (hol p q)
def stp (a : Int) (z : Int × Int) : Int := if inI a z = true then z.2 else a
def firstF (zs : List (Int × Int)) (a : Int) : Int := zs.foldl stp (max a 0)
def sumF (zs : List (Int × Int)) : Int := zs.foldl (fun n z => n + (z.2 - z.1)) 0
def countF (zs : List (Int × Int)) : Int := if chkF zs = 0 then sumF zs else 0
theorem foldl_succ {α β : Type} {l : List α} {k : Nat} (d : α) (h : k < l.length) (f : β → α → β) (b : β) : (l.take (k + 1)).foldl f b = f ((l.take k).foldl f b) (l.getD k d) := by
  rw [List.take_succ_eq_append_getElem h, List.foldl_append, List.getD_eq_getElem?_getD, List.getElem?_eq_getElem h]; rfl
theorem chk_zero {zs : List (Int × Int)} (h : chkF zs = 0) : zs.any nrg = false ∧ zs.any emp = false ∧ (List.range zs.length).all (ordP zs) = true := by
  unfold chkF at h
  cases h1 : zs.any nrg
  · cases h2 : zs.any emp
    · cases h3 : (List.range zs.length).all (ordP zs)
      · rw [h1, h2, h3] at h; simp at h
      · exact ⟨rfl, rfl, rfl⟩
    · rw [h1, h2] at h; simp at h
  · rw [h1] at h; simp at h
theorem chk_at {zs : List (Int × Int)} (h : chkF zs = 0) {k : Nat} (hk : k < zs.length) : (0 ≤ (zs.getD k (0, 0)).1 ∧ (zs.getD k (0, 0)).2 ≤ 4611686018427387903) ∧ (zs.getD k (0, 0)).1 < (zs.getD k (0, 0)).2 ∧ endF zs k < (zs.getD k (0, 0)).1 := by
  obtain ⟨h1, h2, h3⟩ := chk_zero h
  have hm : zs.getD k (0, 0) ∈ zs := by simp [List.getD, hk]
  have a1 := (List.any_eq_false.1 h1) _ hm
  have a2 := (List.any_eq_false.1 h2) _ hm
  have a3 := (List.all_eq_true.1 h3) k (List.mem_range.2 hk)
  simp only [nrg, rgd, Bool.not_eq_true', Bool.and_eq_false_iff, decide_eq_false_iff_not, not_or, Decidable.not_not] at a1
  simp only [emp, decide_eq_true_eq] at a2
  simp only [ordP, decide_eq_true_eq] at a3
  omega
theorem sum_bd {zs : List (Int × Int)} (h : chkF zs = 0) : ∀ k, k ≤ zs.length → 0 ≤ sumF (zs.take k) ∧ sumF (zs.take k) ≤ max 0 (endF zs k)
  | 0, _ => ⟨Int.le_refl _, by simp [sumF, endF]; omega⟩
  | k + 1, hk => by
    have ih := sum_bd h k (by omega)
    have hc := chk_at h (k := k) (by omega)
    have he : endF zs (k + 1) = (zs.getD k (0, 0)).2 := rfl
    have hs : sumF (zs.take (k + 1)) = sumF (zs.take k) + ((zs.getD k (0, 0)).2 - (zs.getD k (0, 0)).1) := foldl_succ (0, 0) (by omega) _ _
    rw [he, hs]
    omega
theorem end_bd {zs : List (Int × Int)} (h : chkF zs = 0) {k : Nat} (hk : k ≤ zs.length) : endF zs k ≤ 4611686018427387903 := by
  cases k with
  | zero => simp [endF]
  | succ k => exact (chk_at h (k := k) (by omega)).1.2
def ivB (a b : List (Int × Int)) : Bool := decide (a = b)
theorem take_eqI {a b : List (Int × Int)} {k : Nat} (hk : k < a.length) (hl : a.length = b.length) (h : a.take k = b.take k) : a.take (k + 1) = b.take (k + 1) ↔ a.getD k (0, 0) = b.getD k (0, 0) := by
  rw [List.take_succ_eq_append_getElem hk, List.take_succ_eq_append_getElem (l := b) (by omega), h]
  have hk2 : k < b.length := by omega
  rw [List.append_right_inj]
  simp [List.getD, hk, hk2]
theorem ivs_plain (l : List (Int × Int)) : ∀ c ∈ flat (l.map iv), ∃ y, c = .v y := by
  intro c hc
  induction l with
  | nil => simp [flat] at hc
  | cons z l ih =>
    simp only [List.map_cons, flat, List.flatMap_cons, iv, D.cells, List.mem_append, List.mem_cons, List.not_mem_nil, or_false] at hc ih
    rcases hc with (rfl | rfl) | hc
    · exact ⟨_, rfl⟩
    · exact ⟨_, rfl⟩
    · exact ih hc

theorem cb {a b : Bool} (h : b = a) : [D.v (.bool a)] = [D.v (.bool b)] := by rw [h]

theorem vc_holds (x : D) (zs : List (Int × Int)) (a b : Int) : Cond Try.prog (fun k => if k = 3004 then some ⟨[], [], [3, 4], []⟩ else if k = 4004 then some ⟨[40], [], [], []⟩ else none) Try.f26 [x, .agg [.v (.int .i64 a), .v (.int .i64 b)]] [.v (.bool (holdsF zs a b))] = ((NotAgg x ∧ (∃ (cs : List D), D.agg [D.v (Value.int IntKind.i64 a), D.v (Value.int IntKind.i64 b)] = D.agg cs ∧ cs.length = 2) ∧ True) ∧ ∃ (r : D), PureD Try.prog 31 [D.agg [D.v (Value.int IntKind.i64 a), D.v (Value.int IntKind.i64 b)]] [r] ∧ fits [(false, [none])] [r] ∧ ∃ (b_1 : Bool), r = D.v (Value.bool b_1) ∧ (b_1 = true → (True ∧ True) ∧ [D.v (Value.bool true)] = [D.v (Value.bool (holdsF zs a b))]) ∧ (b_1 = false → ∃ (r : D), ReadD Try.prog 33 [x] [r] ∧ (NotAgg r ∧ True) ∧ ∃ (caps : List D), ∃ (xs : List (List D)), ∃ (I : Nat → List D → Prop), r = D.fn 40 caps ∧ SeqD Try.prog 40 caps xs ∧ fitsX [some 2] xs ∧ (((true = true ∧ true = true) ∧ (true = true ∧ true = true) ∧ True) ∧ ((D.v (Value.int IntKind.i64 a) = D.v (Value.int IntKind.i64 a) ∧ D.v (Value.int IntKind.i64 b) = D.v (Value.int IntKind.i64 b) ∧ True) ∧ (D.v (Value.bool false) = D.v (Value.bool false) ∧ True) ∧ True) ∧ I 0 []) ∧ (∀ (k : Nat) (r : D), xs[k]? = some [r] → I k [] → ∃ (r_1 : D), D.bin BinOp.leq (r.cell 0) (D.v (Value.int IntKind.i64 a)) = some r_1 ∧ ∃ (b_2 : Bool), r_1 = D.v (Value.bool b_2) ∧ (b_2 = true → ∃ (r_2 : D), D.bin BinOp.leq (D.v (Value.int IntKind.i64 b)) (r.cell 1) = some r_2 ∧ ∃ (b_3 : Bool), r_2 = D.v (Value.bool b_3) ∧ (b_3 = true → (True ∧ True) ∧ [D.v (Value.bool true)] = [D.v (Value.bool (holdsF zs a b))]) ∧ (b_3 = false → ((true = true ∧ true = true) ∧ (true = true ∧ true = true) ∧ True) ∧ ((D.v (Value.int IntKind.i64 a) = D.v (Value.int IntKind.i64 a) ∧ D.v (Value.int IntKind.i64 b) = D.v (Value.int IntKind.i64 b) ∧ True) ∧ (D.v (Value.bool false) = D.v (Value.bool false) ∧ True) ∧ True) ∧ I (k + 1) [])) ∧ (b_2 = false → ((true = true ∧ true = true) ∧ (true = true ∧ true = true) ∧ True) ∧ ((D.v (Value.int IntKind.i64 a) = D.v (Value.int IntKind.i64 a) ∧ D.v (Value.int IntKind.i64 b) = D.v (Value.int IntKind.i64 b) ∧ True) ∧ (D.v (Value.bool false) = D.v (Value.bool false) ∧ True) ∧ True) ∧ I (k + 1) [])) ∧ (I xs.length [] → (True ∧ True) ∧ [D.v (Value.bool false)] = [D.v (Value.bool (holdsF zs a b))]))) := by kernel_rfl
set_option maxHeartbeats 4000000 in
theorem holds (x : D) (zs : List (Int × Int)) (a b : Int) (hX : IsL 2 (zs.map iv) x) (hm : zs.length ≤ 100000)  : PureD Try.prog 26 [x, .agg [.v (.int .i64 a), .v (.int .i64 b)]] [.v (.bool (holdsF zs a b))] := by
  refine pure_cond (Lp := (fun k => if k = 3004 then some ⟨[], [], [3, 4], []⟩ else if k = 4004 then some ⟨[40], [], [], []⟩ else none)) (by kernel_rfl) Try.func26 (by kernel_rfl) (by kernel_rfl) ?_
  rw [vc_holds x zs a b]
  have EA := each x hX.notAgg
  have R := empty a b
  cases he0 : emp (a, b)
  · rw [he0] at R
    repeat' (first
      | (refine ex_some (by simp (disch := omega) only [bin_shr, bin_shl, bin_and, bin_or, bin_xor, len_str, toStr_ofL, bin_add, bin_sub, bin_mul, bin_quo, bin_rem, bin_lss, bin_leq, bin_gtr, bin_geq, bin_eql, bin_neq, eqs_cn, eqs_ci, eqs_cb, eqs_cs, Option.map_some, lenT_ofL, lst_ofL, lstSz_ofL, chunk_one, lst_nil, lst_sl, lstSz_sl, lstSz_nil, Bool.and_true, Bool.true_and, Bool.and_false, Bool.false_and, beq_self_eq_true, beq_bb, bne_bb, un_not, un_neg, conv_int, min2_int, max2_int, w64, w32, wu8, wu16, wu32, wu64, tdiv_nn, tmod_nn, cell_zero, cell_succ, cell_v, cells_v, cells_agg, Bool.not_true, Bool.not_false, Int.reduceLT, Int.reduceLE, Int.reduceEq, Int.reduceNeg, Int.reduceAdd, Int.reduceSub, Int.reduceMul, intOf_v, decide_true, decide_false]; rfl) ?_)
      | (refine ex_bool ?_)
      | (refine ⟨_, EA, ?_⟩)
      | (refine ⟨_, R, ?_⟩)
      | (refine ⟨_, zs.map fun z => [iv z], (fun k r => (zs.take k).any (hol a b) = false ∧ r = []), rfl, seq_each hX (by omega), fits_iv zs, ?_, ?_, ?_⟩)
      | (exact ⟨rfl, rfl⟩)
      | (refine fun (k : Nat) (r : D) (hk : (zs.map fun z => [iv z])[k]? = some [r]) => ?_; obtain ⟨hk1, rfl⟩ := iv_at hk; clear hk; refine fun (hI : (fun k r => (zs.take k).any (hol a b) = false ∧ r = []) k []) => ?_; obtain ⟨hA, hl0⟩ := hI; clear hl0; have ht := any_succ (d := (0, 0)) hk1 (hol a b); have hc := any_at (d := (0, 0)) hk1 (p := hol a b); generalize zs.getD k (0, 0) = z at ht hc; obtain ⟨p, q⟩ := z; simp only [iv, cell_zero, cell_succ, cells_agg, List.length_cons, List.length_nil]; have hy : p ≤ a → b ≤ q → holdsF zs a b = true := fun h1 h2 => (by unfold holdsF; rw [hc (by simp [hol, h1, h2]), Bool.or_true]); have nh : (a < p ∨ q < b) → (zs.take (k + 1)).any (hol a b) = false := fun h => (by rw [ht, hA, Bool.false_or]; simp [hol]; omega); have inl1 : True := trivial)
      | (refine fun (hI : (fun k r => (zs.take k).any (hol a b) = false ∧ r = []) (zs.map fun z => [iv z]).length []) => ?_; rw [List.length_map] at hI; obtain ⟨hA, hl0⟩ := hI; clear hl0; rw [List.take_length] at hA; have hh : holdsF zs a b = false := (by unfold holdsF; rw [he0, hA]; rfl); have out1 : True := trivial)
      | (have := inl1; refine ⟨?_, rfl⟩)
      | (refine And.intro ?_ ?_)
      | (intro hx; have hprop := (show ∀ (p : Prop), p → True from fun _ _ => True.intro) _ hx; clear hprop; first | (cases hx; done) | (exfalso; revert hx; simp (disch := omega) only [decide_eq_true_eq, decide_eq_false_iff_not, Bool.not_eq_true', Bool.not_eq_false', Bool.and_eq_true, Bool.and_eq_false_iff, Int.not_lt, Int.not_le, ne_eq, not_false_eq_true, not_true_eq_false, reduceCtorEq, Bool.true_eq_false, Bool.false_eq_true, beq_iff_eq, bne_iff_ne, beq_eq_false_iff_ne, false_or, or_false, true_and, and_true]; done) | (simp (disch := omega) only [decide_eq_true_eq, decide_eq_false_iff_not, Bool.not_eq_true', Bool.not_eq_false', Bool.and_eq_true, Bool.and_eq_false_iff, Int.not_lt, Int.not_le, ne_eq, not_false_eq_true, not_true_eq_false, reduceCtorEq, Bool.true_eq_false, Bool.false_eq_true, beq_iff_eq, bne_iff_ne, beq_eq_false_iff_ne, false_or, or_false, true_and, and_true] at hx; first | (exfalso; omega) | skip) | skip)
      | trivial
      | exact fit_ofL _ _
      | (simp (disch := omega) only [notAgg_v, notAgg_sl, plain_v, fits, fitsOne, fitsCells, xsOf, cell_zero, cell_succ, List.range, List.range.loop, List.map, cond_true, cond_false, D.v.injEq, exists_eq', exists_eq, and_self, and_true, true_and, D.agg.injEq, List.length, exists_eq_left', D.sl.injEq, reduceCtorEq, false_or, true_or, or_true, or_false, cell_zero, cell_succ, cell_v, cells_v, cells_agg, List.length_cons, List.length_nil]; done))
    all_goals first
      | (exfalso; omega)
      | omega
      | (simp only [leftG]; omega)
      | (rw [h2e]; exact Nat.le_refl _)
      | exact notAgg_fn _ _
      | exact hX.notAgg
      | (refine cb (hy ?_ ?_); all_goals assumption)
      | (refine cb ?_; assumption)
      | (refine nh (.inl ?_); omega)
      | (refine nh (.inr ?_); omega)
      | (refine n1 ?_ ?_; all_goals assumption)
      | (refine n0 (.inl ?_); assumption)
      | (refine n0 (.inr ?_); assumption)
      | assumption
      | (simp only [hx]; done)
      | (rw [Bool.eq_iff_iff]; simp [rgd, emp]; omega)
      | (simp_all [inI, rgd, emp]; done)
      | (simp_all [inI, rgd, emp]; omega)
      | fail
  · rw [he0] at R
    have hh : holdsF zs a b = true := by unfold holdsF; rw [he0]; rfl
    repeat' (first
      | (refine ex_some (by simp (disch := omega) only [bin_shr, bin_shl, bin_and, bin_or, bin_xor, len_str, toStr_ofL, bin_add, bin_sub, bin_mul, bin_quo, bin_rem, bin_lss, bin_leq, bin_gtr, bin_geq, bin_eql, bin_neq, eqs_cn, eqs_ci, eqs_cb, eqs_cs, Option.map_some, lenT_ofL, lst_ofL, lstSz_ofL, chunk_one, lst_nil, lst_sl, lstSz_sl, lstSz_nil, Bool.and_true, Bool.true_and, Bool.and_false, Bool.false_and, beq_self_eq_true, beq_bb, bne_bb, un_not, un_neg, conv_int, min2_int, max2_int, w64, w32, wu8, wu16, wu32, wu64, tdiv_nn, tmod_nn, cell_zero, cell_succ, cell_v, cells_v, cells_agg, Bool.not_true, Bool.not_false, Int.reduceLT, Int.reduceLE, Int.reduceEq, Int.reduceNeg, Int.reduceAdd, Int.reduceSub, Int.reduceMul, intOf_v, decide_true, decide_false]; rfl) ?_)
      | (refine ex_bool ?_)
      | (refine ⟨_, EA, ?_⟩)
      | (refine ⟨_, R, ?_⟩)
      | (refine And.intro ?_ ?_)
      | (intro hx; have hprop := (show ∀ (p : Prop), p → True from fun _ _ => True.intro) _ hx; clear hprop; first | (cases hx; done) | (exfalso; revert hx; simp (disch := omega) only [decide_eq_true_eq, decide_eq_false_iff_not, Bool.not_eq_true', Bool.not_eq_false', Bool.and_eq_true, Bool.and_eq_false_iff, Int.not_lt, Int.not_le, ne_eq, not_false_eq_true, not_true_eq_false, reduceCtorEq, Bool.true_eq_false, Bool.false_eq_true, beq_iff_eq, bne_iff_ne, beq_eq_false_iff_ne, false_or, or_false, true_and, and_true]; done) | (simp (disch := omega) only [decide_eq_true_eq, decide_eq_false_iff_not, Bool.not_eq_true', Bool.not_eq_false', Bool.and_eq_true, Bool.and_eq_false_iff, Int.not_lt, Int.not_le, ne_eq, not_false_eq_true, not_true_eq_false, reduceCtorEq, Bool.true_eq_false, Bool.false_eq_true, beq_iff_eq, bne_iff_ne, beq_eq_false_iff_ne, false_or, or_false, true_and, and_true] at hx; first | (exfalso; omega) | skip) | skip)
      | trivial
      | exact fit_ofL _ _
      | (simp (disch := omega) only [notAgg_v, notAgg_sl, plain_v, fits, fitsOne, fitsCells, xsOf, cell_zero, cell_succ, List.range, List.range.loop, List.map, cond_true, cond_false, D.v.injEq, exists_eq', exists_eq, and_self, and_true, true_and, D.agg.injEq, List.length, exists_eq_left', D.sl.injEq, reduceCtorEq, false_or, true_or, or_true, or_false, cell_zero, cell_succ, cell_v, cells_v, cells_agg, List.length_cons, List.length_nil]; done))
    all_goals first
      | (exfalso; omega)
      | omega
      | (simp only [leftG]; omega)
      | (rw [h2e]; exact Nat.le_refl _)
      | exact notAgg_fn _ _
      | exact hX.notAgg
      | (refine cb (hy ?_ ?_); all_goals assumption)
      | (refine cb ?_; assumption)
      | (refine nh (.inl ?_); omega)
      | (refine nh (.inr ?_); omega)
      | (refine n1 ?_ ?_; all_goals assumption)
      | (refine n0 (.inl ?_); assumption)
      | (refine n0 (.inr ?_); assumption)
      | assumption
      | (simp only [hx]; done)
      | (rw [Bool.eq_iff_iff]; simp [rgd, emp]; omega)
      | (simp_all [inI, rgd, emp]; done)
      | (simp_all [inI, rgd, emp]; omega)
      | fail

theorem vc_first (x : D) (zs : List (Int × Int)) (a : Int) : Cond Try.prog (fun k => if k = 3003 then some ⟨[], [], [3], [(3, [0], [])]⟩ else if k = 4003 then some ⟨[40], [], [], []⟩ else none) Try.f28 [x, .v (.int .i64 a)] [.v (.int .i64 (firstF zs a))] = ((NotAgg x ∧ NotAgg (D.v (Value.int IntKind.i64 a)) ∧ True) ∧ ∃ (r : D), (D.v (Value.int IntKind.i64 a)).max2 (D.v (Value.int IntKind.i64 0)) = some r ∧ ∃ (r_1 : D), ReadD Try.prog 33 [x] [r_1] ∧ (NotAgg r_1 ∧ True) ∧ ∃ (caps : List D), ∃ (xs : List (List D)), ∃ (I : Nat → List D → Prop), r_1 = D.fn 40 caps ∧ SeqD Try.prog 40 caps xs ∧ fitsX [some 2] xs ∧ (((true = true ∧ true = true) ∧ True) ∧ ((r = r ∧ True) ∧ True) ∧ I 0 [r]) ∧ (∀ (k : Nat) (r : D), xs[k]? = some [r] → ∀ (r_2 : D), I k [r_2] → ∃ (r_3 : D), D.bin BinOp.leq (r.cell 0) r_2 = some r_3 ∧ ∃ (b : Bool), r_3 = D.v (Value.bool b) ∧ (b = true → ∃ (r_4 : D), D.bin BinOp.lss r_2 (r.cell 1) = some r_4 ∧ ∃ (b : Bool), r_4 = D.v (Value.bool b) ∧ (b = true → ((true = true ∧ true = true) ∧ True) ∧ ((r.cell 1 = r.cell 1 ∧ True) ∧ True) ∧ I (k + 1) [r.cell 1]) ∧ (b = false → ((true = true ∧ true = true) ∧ True) ∧ ((r_2 = r_2 ∧ True) ∧ True) ∧ I (k + 1) [r_2])) ∧ (b = false → ((true = true ∧ true = true) ∧ True) ∧ ((r_2 = r_2 ∧ True) ∧ True) ∧ I (k + 1) [r_2])) ∧ ∀ (r : D), I xs.length [r] → ((∃ (y : Value), r = D.v y) ∧ True) ∧ [r] = [D.v (Value.int IntKind.i64 (firstF zs a))]) := by kernel_rfl
set_option maxHeartbeats 4000000 in
theorem first (x : D) (zs : List (Int × Int)) (a : Int) (hX : IsL 2 (zs.map iv) x) (hm : zs.length ≤ 100000)  : PureD Try.prog 28 [x, .v (.int .i64 a)] [.v (.int .i64 (firstF zs a))] := by
  refine pure_cond (Lp := (fun k => if k = 3003 then some ⟨[], [], [3], [(3, [0], [])]⟩ else if k = 4003 then some ⟨[40], [], [], []⟩ else none)) (by kernel_rfl) Try.func28 (by kernel_rfl) (by kernel_rfl) ?_
  rw [vc_first x zs a]
  have EA := each x hX.notAgg
  repeat' (first
    | (refine ex_some (by simp (disch := omega) only [bin_shr, bin_shl, bin_and, bin_or, bin_xor, len_str, toStr_ofL, bin_add, bin_sub, bin_mul, bin_quo, bin_rem, bin_lss, bin_leq, bin_gtr, bin_geq, bin_eql, bin_neq, eqs_cn, eqs_ci, eqs_cb, eqs_cs, Option.map_some, lenT_ofL, lst_ofL, lstSz_ofL, chunk_one, lst_nil, lst_sl, lstSz_sl, lstSz_nil, Bool.and_true, Bool.true_and, Bool.and_false, Bool.false_and, beq_self_eq_true, beq_bb, bne_bb, un_not, un_neg, conv_int, min2_int, max2_int, w64, w32, wu8, wu16, wu32, wu64, tdiv_nn, tmod_nn, cell_zero, cell_succ, cell_v, cells_v, cells_agg, Bool.not_true, Bool.not_false, Int.reduceLT, Int.reduceLE, Int.reduceEq, Int.reduceNeg, Int.reduceAdd, Int.reduceSub, Int.reduceMul, intOf_v, decide_true, decide_false]; rfl) ?_)
    | (refine ex_bool ?_)
    | (refine ⟨_, EA, ?_⟩)
    | (refine ⟨_, zs.map fun z => [iv z], (fun k r => r = [.v (.int .i64 ((zs.take k).foldl stp (max a 0)))]), rfl, seq_each hX (by omega), fits_iv zs, ?_, ?_, ?_⟩)
    | (exact rfl)
    | (refine fun (k : Nat) (r : D) (hk : (zs.map fun z => [iv z])[k]? = some [r]) => ?_; obtain ⟨hk1, rfl⟩ := iv_at hk; clear hk; refine fun (r4 : D) (hI : (fun k r => r = [.v (.int .i64 ((zs.take k).foldl stp (max a 0)))]) k [r4]) => ?_; have hl0 := hI; simp only [List.cons.injEq, and_true] at hl0; subst hl0; have ht := foldl_succ (0, 0) hk1 stp (max a 0); generalize zs.getD k (0, 0) = z at ht; obtain ⟨p, q⟩ := z; simp only [iv, cell_zero, cell_succ, cells_agg, List.length_cons, List.length_nil]; generalize hu : (zs.take k).foldl stp (max a 0) = u at ht; have n1 : p ≤ u → u < q → (zs.take (k + 1)).foldl stp (max a 0) = q := fun h1 h2 => (by rw [ht]; simp [stp, inI, h1, h2]); have n0 : (u < p ∨ q ≤ u) → (zs.take (k + 1)).foldl stp (max a 0) = u := fun h => (by rw [ht]; unfold stp; rw [if_neg]; intro hh; simp [inI] at hh; omega); have inl1 : True := trivial)
    | (refine fun (r4 : D) (hI : (fun k r => r = [.v (.int .i64 ((zs.take k).foldl stp (max a 0)))]) (zs.map fun z => [iv z]).length [r4]) => ?_; rw [List.length_map] at hI; have hl0 := hI; simp only [List.cons.injEq, and_true] at hl0; subst hl0; rw [List.take_length]; have out1 : True := trivial)
    | (have := inl1; refine congrArg (fun t => [D.v (Value.int IntKind.i64 t)]) (Eq.symm ?_))
    | (refine And.intro ?_ ?_)
    | (intro hx; have hprop := (show ∀ (p : Prop), p → True from fun _ _ => True.intro) _ hx; clear hprop; first | (cases hx; done) | (exfalso; revert hx; simp (disch := omega) only [decide_eq_true_eq, decide_eq_false_iff_not, Bool.not_eq_true', Bool.not_eq_false', Bool.and_eq_true, Bool.and_eq_false_iff, Int.not_lt, Int.not_le, ne_eq, not_false_eq_true, not_true_eq_false, reduceCtorEq, Bool.true_eq_false, Bool.false_eq_true, beq_iff_eq, bne_iff_ne, beq_eq_false_iff_ne, false_or, or_false, true_and, and_true]; done) | (simp (disch := omega) only [decide_eq_true_eq, decide_eq_false_iff_not, Bool.not_eq_true', Bool.not_eq_false', Bool.and_eq_true, Bool.and_eq_false_iff, Int.not_lt, Int.not_le, ne_eq, not_false_eq_true, not_true_eq_false, reduceCtorEq, Bool.true_eq_false, Bool.false_eq_true, beq_iff_eq, bne_iff_ne, beq_eq_false_iff_ne, false_or, or_false, true_and, and_true] at hx; first | (exfalso; omega) | skip) | skip)
    | trivial
    | exact fit_ofL _ _
    | (simp (disch := omega) only [notAgg_v, notAgg_sl, plain_v, fits, fitsOne, fitsCells, xsOf, cell_zero, cell_succ, List.range, List.range.loop, List.map, cond_true, cond_false, D.v.injEq, exists_eq', exists_eq, and_self, and_true, true_and, D.agg.injEq, List.length, exists_eq_left', D.sl.injEq, reduceCtorEq, false_or, true_or, or_true, or_false, cell_zero, cell_succ, cell_v, cells_v, cells_agg, List.length_cons, List.length_nil]; done))
  all_goals first
    | (exfalso; omega)
    | omega
    | (simp only [leftG]; omega)
    | (rw [h2e]; exact Nat.le_refl _)
    | exact notAgg_fn _ _
    | exact hX.notAgg
    | (refine cb (hy ?_ ?_); all_goals assumption)
    | (refine cb ?_; assumption)
    | (refine nh (.inl ?_); omega)
    | (refine nh (.inr ?_); omega)
    | (refine n1 ?_ ?_; all_goals assumption)
    | (refine n0 (.inl ?_); assumption)
    | (refine n0 (.inr ?_); assumption)
    | assumption
    | (simp only [hx]; done)
    | (rw [Bool.eq_iff_iff]; simp [rgd, emp]; omega)
    | (simp_all [inI, rgd, emp]; done)
    | (simp_all [inI, rgd, emp]; omega)
    | fail

theorem vc_takes (x : D) (zs : List (Int × Int)) (a b : Int) : Cond Try.prog (fun _ => none) Try.f30 [x, .agg [.v (.int .i64 a), .v (.int .i64 b)]] [.v (.bool (rgd (a, b) && decide (chkF zs = 0)))] = ((NotAgg x ∧ (∃ (cs : List D), D.agg [D.v (Value.int IntKind.i64 a), D.v (Value.int IntKind.i64 b)] = D.agg cs ∧ cs.length = 2) ∧ True) ∧ ∃ (r : D), PureD Try.prog 38 [D.agg [D.v (Value.int IntKind.i64 a), D.v (Value.int IntKind.i64 b)]] [r] ∧ fits [(false, [none])] [r] ∧ ∃ (b_1 : Bool), r = D.v (Value.bool b_1) ∧ (b_1 = true → ∃ (r : D), PureD Try.prog 19 [x] [r] ∧ fits [(false, [none])] [r] ∧ ∃ (r_1 : D), D.bin BinOp.eql r (D.v (Value.int IntKind.i64 0)) = some r_1 ∧ ((∃ (y : Value), r_1 = D.v y) ∧ True) ∧ [r_1] = [D.v (Value.bool (match rgd (a, b) with | false => false | true => decide (chkF zs = 0)))]) ∧ (b_1 = false → (True ∧ True) ∧ [D.v (Value.bool false)] = [D.v (Value.bool (match rgd (a, b) with | false => false | true => decide (chkF zs = 0)))])) := by kernel_rfl
theorem takes (x : D) (zs : List (Int × Int)) (a b : Int) (hX : IsL 2 (zs.map iv) x) (hm : zs.length ≤ 100000)  : PureD Try.prog 30 [x, .agg [.v (.int .i64 a), .v (.int .i64 b)]] [.v (.bool (rgd (a, b) && decide (chkF zs = 0)))] := by
  refine pure_cond (Lp := (fun _ => none)) (by kernel_rfl) Try.func30 (by kernel_rfl) (by kernel_rfl) ?_
  rw [vc_takes x zs a b]
  have R := ranged a b
  have C := check x zs hX hm
  repeat' (first
    | (refine ex_some (by simp (disch := omega) only [bin_shr, bin_shl, bin_and, bin_or, bin_xor, len_str, toStr_ofL, bin_add, bin_sub, bin_mul, bin_quo, bin_rem, bin_lss, bin_leq, bin_gtr, bin_geq, bin_eql, bin_neq, eqs_cn, eqs_ci, eqs_cb, eqs_cs, Option.map_some, lenT_ofL, lst_ofL, lstSz_ofL, chunk_one, lst_nil, lst_sl, lstSz_sl, lstSz_nil, Bool.and_true, Bool.true_and, Bool.and_false, Bool.false_and, beq_self_eq_true, beq_bb, bne_bb, un_not, un_neg, conv_int, min2_int, max2_int, w64, w32, wu8, wu16, wu32, wu64, tdiv_nn, tmod_nn, cell_zero, cell_succ, cell_v, cells_v, cells_agg, Bool.not_true, Bool.not_false, Int.reduceLT, Int.reduceLE, Int.reduceEq, Int.reduceNeg, Int.reduceAdd, Int.reduceSub, Int.reduceMul, intOf_v, decide_true, decide_false]; rfl) ?_)
    | (refine ex_bool ?_)
    | (refine ⟨_, R, ?_⟩)
    | (refine ⟨_, C, ?_⟩)
    | (refine And.intro ?_ ?_)
    | (intro hx; have hprop := (show ∀ (p : Prop), p → True from fun _ _ => True.intro) _ hx; clear hprop; first | (cases hx; done) | (exfalso; revert hx; simp (disch := omega) only [decide_eq_true_eq, decide_eq_false_iff_not, Bool.not_eq_true', Bool.not_eq_false', Bool.and_eq_true, Bool.and_eq_false_iff, Int.not_lt, Int.not_le, ne_eq, not_false_eq_true, not_true_eq_false, reduceCtorEq, Bool.true_eq_false, Bool.false_eq_true, beq_iff_eq, bne_iff_ne, beq_eq_false_iff_ne, false_or, or_false, true_and, and_true]; done) | (simp (disch := omega) only [decide_eq_true_eq, decide_eq_false_iff_not, Bool.not_eq_true', Bool.not_eq_false', Bool.and_eq_true, Bool.and_eq_false_iff, Int.not_lt, Int.not_le, ne_eq, not_false_eq_true, not_true_eq_false, reduceCtorEq, Bool.true_eq_false, Bool.false_eq_true, beq_iff_eq, bne_iff_ne, beq_eq_false_iff_ne, false_or, or_false, true_and, and_true] at hx; first | (exfalso; omega) | skip) | skip)
    | trivial
    | exact fit_ofL _ _
    | (simp (disch := omega) only [notAgg_v, notAgg_sl, plain_v, fits, fitsOne, fitsCells, xsOf, cell_zero, cell_succ, List.range, List.range.loop, List.map, cond_true, cond_false, D.v.injEq, exists_eq', exists_eq, and_self, and_true, true_and, D.agg.injEq, List.length, exists_eq_left', D.sl.injEq, reduceCtorEq, false_or, true_or, or_true, or_false, cell_zero, cell_succ, cell_v, cells_v, cells_agg, List.length_cons, List.length_nil]; done))
  all_goals first
    | (exfalso; omega)
    | omega
    | (simp only [leftG]; omega)
    | (rw [h2e]; exact Nat.le_refl _)
    | exact notAgg_fn _ _
    | exact hX.notAgg
    | (refine cb (hy ?_ ?_); all_goals assumption)
    | (refine cb ?_; assumption)
    | (refine nh (.inl ?_); omega)
    | (refine nh (.inr ?_); omega)
    | (refine n1 ?_ ?_; all_goals assumption)
    | (refine n0 (.inl ?_); assumption)
    | (refine n0 (.inr ?_); assumption)
    | assumption
    | (simp only [hx]; done)
    | (rw [Bool.eq_iff_iff]; simp [rgd, emp]; omega)
    | (simp_all [inI, rgd, emp]; done)
    | (simp_all [inI, rgd, emp]; omega)
    | fail

theorem vc_count (x : D) (zs : List (Int × Int)) : Cond Try.prog (fun k => if k = 3005 then some ⟨[], [], [3], [(3, [0], [])]⟩ else if k = 4005 then some ⟨[40], [], [], []⟩ else none) Try.f21 [x] [.v (.int .i64 (countF zs))] = ((NotAgg x ∧ True) ∧ ∃ (r : D), PureD Try.prog 19 [x] [r] ∧ fits [(false, [none])] [r] ∧ ∃ (r_1 : D), D.bin BinOp.neq r (D.v (Value.int IntKind.i64 0)) = some r_1 ∧ ∃ (b : Bool), r_1 = D.v (Value.bool b) ∧ (b = true → (True ∧ True) ∧ [D.v (Value.int IntKind.i64 0)] = [D.v (Value.int IntKind.i64 (countF zs))]) ∧ (b = false → ∃ (r : D), ReadD Try.prog 33 [x] [r] ∧ (NotAgg r ∧ True) ∧ ∃ (caps : List D), ∃ (xs : List (List D)), ∃ (I : Nat → List D → Prop), r = D.fn 40 caps ∧ SeqD Try.prog 40 caps xs ∧ fitsX [some 2] xs ∧ (((true = true ∧ true = true) ∧ True) ∧ ((D.v (Value.int IntKind.i64 0) = D.v (Value.int IntKind.i64 0) ∧ True) ∧ True) ∧ I 0 [D.v (Value.int IntKind.i64 0)]) ∧ (∀ (k : Nat) (r : D), xs[k]? = some [r] → ∀ (r_2 : D), I k [r_2] → ∃ (r_3 : D), D.bin BinOp.sub (r.cell 1) (r.cell 0) = some r_3 ∧ ∃ (r : D), D.bin BinOp.add r_2 r_3 = some r ∧ ((true = true ∧ true = true) ∧ True) ∧ ((r = r ∧ True) ∧ True) ∧ I (k + 1) [r]) ∧ ∀ (r : D), I xs.length [r] → ((∃ (y : Value), r = D.v y) ∧ True) ∧ [r] = [D.v (Value.int IntKind.i64 (countF zs))])) := by kernel_rfl
set_option maxHeartbeats 4000000 in
theorem count (x : D) (zs : List (Int × Int)) (hX : IsL 2 (zs.map iv) x) (hm : zs.length ≤ 100000)  : PureD Try.prog 21 [x] [.v (.int .i64 (countF zs))] := by
  refine pure_cond (Lp := (fun k => if k = 3005 then some ⟨[], [], [3], [(3, [0], [])]⟩ else if k = 4005 then some ⟨[40], [], [], []⟩ else none)) (by kernel_rfl) Try.func21 (by kernel_rfl) (by kernel_rfl) ?_
  rw [vc_count x zs]
  have EA := each x hX.notAgg
  have C := check x zs hX hm
  by_cases hz : chkF zs = 0
  · have hcc : countF zs = sumF zs := by unfold countF; rw [if_pos hz]
    rw [hz] at C
    rw [hcc]
    repeat' (first
      | (refine ex_some (by simp (disch := omega) only [bin_shr, bin_shl, bin_and, bin_or, bin_xor, len_str, toStr_ofL, bin_add, bin_sub, bin_mul, bin_quo, bin_rem, bin_lss, bin_leq, bin_gtr, bin_geq, bin_eql, bin_neq, eqs_cn, eqs_ci, eqs_cb, eqs_cs, Option.map_some, lenT_ofL, lst_ofL, lstSz_ofL, chunk_one, lst_nil, lst_sl, lstSz_sl, lstSz_nil, Bool.and_true, Bool.true_and, Bool.and_false, Bool.false_and, beq_self_eq_true, beq_bb, bne_bb, un_not, un_neg, conv_int, min2_int, max2_int, w64, w32, wu8, wu16, wu32, wu64, tdiv_nn, tmod_nn, cell_zero, cell_succ, cell_v, cells_v, cells_agg, Bool.not_true, Bool.not_false, Int.reduceLT, Int.reduceLE, Int.reduceEq, Int.reduceNeg, Int.reduceAdd, Int.reduceSub, Int.reduceMul, intOf_v, decide_true, decide_false]; rfl) ?_)
      | (refine ex_bool ?_)
      | (refine ⟨_, EA, ?_⟩)
      | (refine ⟨_, C, ?_⟩)
      | (refine ⟨_, zs.map fun z => [iv z], (fun k r => r = [.v (.int .i64 (sumF (zs.take k)))]), rfl, seq_each hX (by omega), fits_iv zs, ?_, ?_, ?_⟩)
      | (exact rfl)
      | (refine fun (k : Nat) (r : D) (hk : (zs.map fun z => [iv z])[k]? = some [r]) => ?_; obtain ⟨hk1, rfl⟩ := iv_at hk; clear hk; refine fun (r4 : D) (hI : (fun k r => r = [.v (.int .i64 (sumF (zs.take k)))]) k [r4]) => ?_; have hl0 := hI; simp only [List.cons.injEq, and_true] at hl0; subst hl0; have ht : sumF (zs.take (k + 1)) = sumF (zs.take k) + ((zs.getD k (0, 0)).2 - (zs.getD k (0, 0)).1) := foldl_succ (0, 0) hk1 _ _; have hb := sum_bd hz k (by omega); have he := end_bd hz (k := k) (by omega); have hc := chk_at hz hk1; generalize zs.getD k (0, 0) = z at ht hc; obtain ⟨p, q⟩ := z; simp only [iv, cell_zero, cell_succ, cells_agg, List.length_cons, List.length_nil]; simp only at ht hc; generalize sumF (zs.take k) = u at ht hb; have inl1 : True := trivial)
      | (refine fun (r4 : D) (hI : (fun k r => r = [.v (.int .i64 (sumF (zs.take k)))]) (zs.map fun z => [iv z]).length [r4]) => ?_; rw [List.length_map] at hI; have hl0 := hI; simp only [List.cons.injEq, and_true] at hl0; subst hl0; rw [List.take_length]; have out1 : True := trivial)
      | (have := inl1; refine congrArg (fun t => [D.v (Value.int IntKind.i64 t)]) (Eq.symm ?_))
      | (refine And.intro ?_ ?_)
      | (intro hx; have hprop := (show ∀ (p : Prop), p → True from fun _ _ => True.intro) _ hx; clear hprop; first | (cases hx; done) | (exfalso; revert hx; simp (disch := omega) only [decide_eq_true_eq, decide_eq_false_iff_not, Bool.not_eq_true', Bool.not_eq_false', Bool.and_eq_true, Bool.and_eq_false_iff, Int.not_lt, Int.not_le, ne_eq, not_false_eq_true, not_true_eq_false, reduceCtorEq, Bool.true_eq_false, Bool.false_eq_true, beq_iff_eq, bne_iff_ne, beq_eq_false_iff_ne, false_or, or_false, true_and, and_true]; done) | (simp (disch := omega) only [decide_eq_true_eq, decide_eq_false_iff_not, Bool.not_eq_true', Bool.not_eq_false', Bool.and_eq_true, Bool.and_eq_false_iff, Int.not_lt, Int.not_le, ne_eq, not_false_eq_true, not_true_eq_false, reduceCtorEq, Bool.true_eq_false, Bool.false_eq_true, beq_iff_eq, bne_iff_ne, beq_eq_false_iff_ne, false_or, or_false, true_and, and_true] at hx; first | (exfalso; omega) | skip) | skip)
      | trivial
      | exact fit_ofL _ _
      | (simp (disch := omega) only [notAgg_v, notAgg_sl, plain_v, fits, fitsOne, fitsCells, xsOf, cell_zero, cell_succ, List.range, List.range.loop, List.map, cond_true, cond_false, D.v.injEq, exists_eq', exists_eq, and_self, and_true, true_and, D.agg.injEq, List.length, exists_eq_left', D.sl.injEq, reduceCtorEq, false_or, true_or, or_true, or_false, cell_zero, cell_succ, cell_v, cells_v, cells_agg, List.length_cons, List.length_nil]; done))
    all_goals first
      | (exfalso; omega)
      | omega
      | (simp only [leftG]; omega)
      | (rw [h2e]; exact Nat.le_refl _)
      | exact notAgg_fn _ _
      | exact hX.notAgg
      | (refine cb (hy ?_ ?_); all_goals assumption)
      | (refine cb ?_; assumption)
      | (refine nh (.inl ?_); omega)
      | (refine nh (.inr ?_); omega)
      | (refine n1 ?_ ?_; all_goals assumption)
      | (refine n0 (.inl ?_); assumption)
      | (refine n0 (.inr ?_); assumption)
      | assumption
      | (simp only [hx]; done)
      | (rw [Bool.eq_iff_iff]; simp [rgd, emp]; omega)
      | (simp_all [inI, rgd, emp]; done)
      | (simp_all [inI, rgd, emp]; omega)
      | fail
  · have hcc : countF zs = 0 := by unfold countF; rw [if_neg hz]
    rw [hcc]
    repeat' (first
      | (refine ex_some (by simp (disch := omega) only [bin_shr, bin_shl, bin_and, bin_or, bin_xor, len_str, toStr_ofL, bin_add, bin_sub, bin_mul, bin_quo, bin_rem, bin_lss, bin_leq, bin_gtr, bin_geq, bin_eql, bin_neq, eqs_cn, eqs_ci, eqs_cb, eqs_cs, Option.map_some, lenT_ofL, lst_ofL, lstSz_ofL, chunk_one, lst_nil, lst_sl, lstSz_sl, lstSz_nil, Bool.and_true, Bool.true_and, Bool.and_false, Bool.false_and, beq_self_eq_true, beq_bb, bne_bb, un_not, un_neg, conv_int, min2_int, max2_int, w64, w32, wu8, wu16, wu32, wu64, tdiv_nn, tmod_nn, cell_zero, cell_succ, cell_v, cells_v, cells_agg, Bool.not_true, Bool.not_false, Int.reduceLT, Int.reduceLE, Int.reduceEq, Int.reduceNeg, Int.reduceAdd, Int.reduceSub, Int.reduceMul, intOf_v, decide_true, decide_false]; rfl) ?_)
      | (refine ex_bool ?_)
      | (refine ⟨_, EA, ?_⟩)
      | (refine ⟨_, C, ?_⟩)
      | (refine And.intro ?_ ?_)
      | (intro hx; have hprop := (show ∀ (p : Prop), p → True from fun _ _ => True.intro) _ hx; clear hprop; first | (cases hx; done) | (exfalso; revert hx; simp (disch := omega) only [decide_eq_true_eq, decide_eq_false_iff_not, Bool.not_eq_true', Bool.not_eq_false', Bool.and_eq_true, Bool.and_eq_false_iff, Int.not_lt, Int.not_le, ne_eq, not_false_eq_true, not_true_eq_false, reduceCtorEq, Bool.true_eq_false, Bool.false_eq_true, beq_iff_eq, bne_iff_ne, beq_eq_false_iff_ne, false_or, or_false, true_and, and_true]; done) | (simp (disch := omega) only [decide_eq_true_eq, decide_eq_false_iff_not, Bool.not_eq_true', Bool.not_eq_false', Bool.and_eq_true, Bool.and_eq_false_iff, Int.not_lt, Int.not_le, ne_eq, not_false_eq_true, not_true_eq_false, reduceCtorEq, Bool.true_eq_false, Bool.false_eq_true, beq_iff_eq, bne_iff_ne, beq_eq_false_iff_ne, false_or, or_false, true_and, and_true] at hx; first | (exfalso; omega) | skip) | skip)
      | trivial
      | exact fit_ofL _ _
      | (simp (disch := omega) only [notAgg_v, notAgg_sl, plain_v, fits, fitsOne, fitsCells, xsOf, cell_zero, cell_succ, List.range, List.range.loop, List.map, cond_true, cond_false, D.v.injEq, exists_eq', exists_eq, and_self, and_true, true_and, D.agg.injEq, List.length, exists_eq_left', D.sl.injEq, reduceCtorEq, false_or, true_or, or_true, or_false, cell_zero, cell_succ, cell_v, cells_v, cells_agg, List.length_cons, List.length_nil]; done))
    all_goals first
      | (exfalso; omega)
      | omega
      | (simp only [leftG]; omega)
      | (rw [h2e]; exact Nat.le_refl _)
      | exact notAgg_fn _ _
      | exact hX.notAgg
      | (refine cb (hy ?_ ?_); all_goals assumption)
      | (refine cb ?_; assumption)
      | (refine nh (.inl ?_); omega)
      | (refine nh (.inr ?_); omega)
      | (refine n1 ?_ ?_; all_goals assumption)
      | (refine n0 (.inl ?_); assumption)
      | (refine n0 (.inr ?_); assumption)
      | assumption
      | (simp only [hx]; done)
      | (rw [Bool.eq_iff_iff]; simp [rgd, emp]; omega)
      | (simp_all [inI, rgd, emp]; done)
      | (simp_all [inI, rgd, emp]; omega)
      | fail

theorem vc_equal (x y : D) (a b : List (Int × Int)) : Cond Try.prog (fun k => if k = 4 then some ⟨[13], [], [0, 1, 12], []⟩ else none) Try.f39 [x, y] [.v (.bool (ivB a b))] = ((NotAgg x ∧ NotAgg y ∧ True) ∧ ∃ (r : D), D.lenT (TypeDesc.slice 29) x = some r ∧ ∃ (r_1 : D), D.lenT (TypeDesc.slice 29) y = some r_1 ∧ ∃ (r_2 : D), D.bin BinOp.neq r r_1 = some r_2 ∧ ∃ (b_1 : Bool), r_2 = D.v (Value.bool b_1) ∧ (b_1 = true → (True ∧ True) ∧ [D.v (Value.bool false)] = [D.v (Value.bool (ivB a b))]) ∧ (b_1 = false → ∃ (r : D), D.lenT (TypeDesc.slice 29) x = some r ∧ ∃ (I : List D → Prop), ∃ (μ : List D → Nat), ((D.v (Value.int IntKind.i64 0) = D.v (Value.int IntKind.i64 0) ∧ x = x ∧ y = y ∧ r = r ∧ True) ∧ True ∧ I [D.v (Value.int IntKind.i64 0)]) ∧ ∀ (r_3 : D), I [r_3] → ∃ (r_4 : D), D.bin BinOp.lss r_3 r = some r_4 ∧ ∃ (b_2 : Bool), r_4 = D.v (Value.bool b_2) ∧ (b_2 = true → D.inb 2 x r_3 ∧ 0 + 2 ≤ (x.at_ r_3).cells.length ∧ D.inb 2 y r_3 ∧ 0 + 2 ≤ (y.at_ r_3).cells.length ∧ ∃ (r_5 : Bool), eqs [EqK.i, EqK.i] [(x.at_ r_3).cell (0 + 0), (x.at_ r_3).cell (0 + 1)] [(y.at_ r_3).cell (0 + 0), (y.at_ r_3).cell (0 + 1)] = some r_5 ∧ ∃ (b_3 : Bool), D.v (Value.bool (match r_5 with | true => false | false => true)) = D.v (Value.bool b_3) ∧ (b_3 = true → (True ∧ True) ∧ [D.v (Value.bool false)] = [D.v (Value.bool (ivB a b))]) ∧ (b_3 = false → ∃ (r_6 : D), D.bin BinOp.add r_3 (D.v (Value.int IntKind.i64 1)) = some r_6 ∧ (r_6 = r_6 ∧ x = x ∧ y = y ∧ r = r ∧ True) ∧ True ∧ I [r_6] ∧ μ [r_6] < μ [r_3])) ∧ (b_2 = false → (True ∧ True) ∧ [D.v (Value.bool true)] = [D.v (Value.bool (ivB a b))]))) := by kernel_rfl
set_option maxHeartbeats 4000000 in
theorem equal (x y : D) (a b : List (Int × Int)) (hX : IsL 2 (a.map iv) x) (hY : IsL 2 (b.map iv) y) (ha : a.length ≤ 100000) (hb : b.length ≤ 100000) : PureD Try.prog 39 [x, y] [.v (.bool (ivB a b))] := by
  refine pure_cond (Lp := (fun k => if k = 4 then some ⟨[13], [], [0, 1, 12], []⟩ else none)) (by kernel_rfl) Try.func39 (by kernel_rfl) (by kernel_rfl) ?_
  rw [vc_equal x y a b]
  simp only [hX.lenT, hY.lenT, List.length_map, Option.some.injEq, exists_eq_left']
  by_cases hl : a.length = b.length
  · have d1 : True := trivial
    repeat' (first
      | (refine ex_some (by simp (disch := omega) only [bin_shr, bin_shl, bin_and, bin_or, bin_xor, len_str, toStr_ofL, bin_add, bin_sub, bin_mul, bin_quo, bin_rem, bin_lss, bin_leq, bin_gtr, bin_geq, bin_eql, bin_neq, eqs_cn, eqs_ci, eqs_cb, eqs_cs, Option.map_some, lenT_ofL, lst_ofL, lstSz_ofL, chunk_one, lst_nil, lst_sl, lstSz_sl, lstSz_nil, Bool.and_true, Bool.true_and, Bool.and_false, Bool.false_and, beq_self_eq_true, beq_bb, bne_bb, un_not, un_neg, conv_int, min2_int, max2_int, w64, w32, wu8, wu16, wu32, wu64, tdiv_nn, tmod_nn, cell_zero, cell_succ, cell_v, cells_v, cells_agg, Bool.not_true, Bool.not_false, Int.reduceLT, Int.reduceLE, Int.reduceEq, Int.reduceNeg, Int.reduceAdd, Int.reduceSub, Int.reduceMul, intOf_v, decide_true, decide_false, hX.lenT, hY.lenT, List.length_map]; rfl) ?_)
      | (refine ex_bool ?_)
      | (exact i1)
      | (exact i2)
      | (refine ⟨(fun r => ∃ k : Nat, k ≤ a.length ∧ a.take k = b.take k ∧ r = [.v (.int .i64 (k : Nat))]), leftG a.length, ?_⟩)
      | (refine fun (r4 : D) (hI : (fun r => ∃ k : Nat, k ≤ a.length ∧ a.take k = b.take k ∧ r = [.v (.int .i64 (k : Nat))]) [r4]) => ?_; obtain ⟨k, hk, hek, hl0⟩ := hI; simp only [List.cons.injEq, and_true] at hl0; subst hl0; by_cases hlt : k < a.length <;> first | (have hk1 : k < a.length := (by omega); have h1 := iv_get hX hk1; have h2 := iv_get hY (k := k) (by omega); have i1 := iv_inb hX hk1; have i2 := iv_inb hY (k := k) (by omega); have hst := take_eqI hk1 hl hek; generalize a.getD k (0, 0) = z at h1 hst; generalize b.getD k (0, 0) = y at h2 hst; obtain ⟨p, q⟩ := z; obtain ⟨p2, q2⟩ := y; simp only [h1, h2, iv, Nat.zero_add, cell_zero, cell_succ, cells_agg, List.length_cons, List.length_nil]; have n0 : (p == p2 && q == q2) = false → ivB a b = false := fun h => (by unfold ivB; rw [decide_eq_false_iff_not]; intro e; subst e; have e := hst.1 rfl; simp only [Prod.mk.injEq] at e; rw [e.1, e.2] at h; simp at h); have n1 : (p == p2 && q == q2) = true → a.take (k + 1) = b.take (k + 1) := fun h => (by simp only [Bool.and_eq_true, beq_iff_eq] at h; exact hst.2 (by rw [h.1, h.2])); have inl1 : True := trivial) | (have hkk : k = a.length := (by omega); subst hkk; rw [List.take_length, hl, List.take_length] at hek; have hh : ivB a b = true := (by unfold ivB; rw [hek]; simp); have out1 : True := trivial))
      | (have := inl1; refine ⟨k + 1, by omega, n1 ?_, rfl⟩)
      | (exact ⟨0, by omega, rfl, rfl⟩)
      | (refine And.intro ?_ ?_)
      | (intro hx; have hprop := (show ∀ (p : Prop), p → True from fun _ _ => True.intro) _ hx; clear hprop; first | (cases hx; done) | (exfalso; revert hx; simp (disch := omega) only [decide_eq_true_eq, decide_eq_false_iff_not, Bool.not_eq_true', Bool.not_eq_false', Bool.and_eq_true, Bool.and_eq_false_iff, Int.not_lt, Int.not_le, ne_eq, not_false_eq_true, not_true_eq_false, reduceCtorEq, Bool.true_eq_false, Bool.false_eq_true, beq_iff_eq, bne_iff_ne, beq_eq_false_iff_ne, false_or, or_false, true_and, and_true, hX.lenT, hY.lenT, List.length_map]; done) | (simp (disch := omega) only [decide_eq_true_eq, decide_eq_false_iff_not, Bool.not_eq_true', Bool.not_eq_false', Bool.and_eq_true, Bool.and_eq_false_iff, Int.not_lt, Int.not_le, ne_eq, not_false_eq_true, not_true_eq_false, reduceCtorEq, Bool.true_eq_false, Bool.false_eq_true, beq_iff_eq, bne_iff_ne, beq_eq_false_iff_ne, false_or, or_false, true_and, and_true, hX.lenT, hY.lenT, List.length_map] at hx; first | (exfalso; omega) | skip) | skip)
      | trivial
      | exact fit_ofL _ _
      | (simp (disch := omega) only [notAgg_v, notAgg_sl, plain_v, fits, fitsOne, fitsCells, xsOf, cell_zero, cell_succ, List.range, List.range.loop, List.map, cond_true, cond_false, D.v.injEq, exists_eq', exists_eq, and_self, and_true, true_and, D.agg.injEq, List.length, exists_eq_left', D.sl.injEq, reduceCtorEq, false_or, true_or, or_true, or_false, cell_zero, cell_succ, cell_v, cells_v, cells_agg, List.length_cons, List.length_nil, hX.lenT, hY.lenT, List.length_map]; done))
    all_goals first
      | (exfalso; omega)
      | omega
      | (simp only [leftG]; omega)
      | (rw [h2e]; exact Nat.le_refl _)
      | exact notAgg_fn _ _
      | exact hX.notAgg
      | (refine cb (hy ?_ ?_); all_goals assumption)
      | (refine cb ?_; assumption)
      | (refine nh (.inl ?_); omega)
      | (refine nh (.inr ?_); omega)
      | (refine n1 ?_ ?_; all_goals assumption)
      | (refine n0 (.inl ?_); assumption)
      | (refine n0 (.inr ?_); assumption)
      | assumption
      | (refine cb (n0 ?_); revert hx; cases (p == p2 && q == q2) <;> simp; done)
      | (revert hx; cases (p == p2 && q == q2) <;> simp; done)
      | (simp_all; done)
      | exact hY.notAgg
      | (simp only [hx]; done)
      | (rw [Bool.eq_iff_iff]; simp [rgd, emp]; omega)
      | (simp_all [inI, rgd, emp]; done)
      | (simp_all [inI, rgd, emp]; omega)
      | fail
  · have hh : ivB a b = false := by unfold ivB; rw [decide_eq_false_iff_not]; intro e; exact hl (by rw [e])
    repeat' (first
      | (refine ex_some (by simp (disch := omega) only [bin_shr, bin_shl, bin_and, bin_or, bin_xor, len_str, toStr_ofL, bin_add, bin_sub, bin_mul, bin_quo, bin_rem, bin_lss, bin_leq, bin_gtr, bin_geq, bin_eql, bin_neq, eqs_cn, eqs_ci, eqs_cb, eqs_cs, Option.map_some, lenT_ofL, lst_ofL, lstSz_ofL, chunk_one, lst_nil, lst_sl, lstSz_sl, lstSz_nil, Bool.and_true, Bool.true_and, Bool.and_false, Bool.false_and, beq_self_eq_true, beq_bb, bne_bb, un_not, un_neg, conv_int, min2_int, max2_int, w64, w32, wu8, wu16, wu32, wu64, tdiv_nn, tmod_nn, cell_zero, cell_succ, cell_v, cells_v, cells_agg, Bool.not_true, Bool.not_false, Int.reduceLT, Int.reduceLE, Int.reduceEq, Int.reduceNeg, Int.reduceAdd, Int.reduceSub, Int.reduceMul, intOf_v, decide_true, decide_false]; rfl) ?_)
      | (refine ex_bool ?_)
      | (refine And.intro ?_ ?_)
      | (intro hx; have hprop := (show ∀ (p : Prop), p → True from fun _ _ => True.intro) _ hx; clear hprop; first | (cases hx; done) | (exfalso; revert hx; simp (disch := omega) only [decide_eq_true_eq, decide_eq_false_iff_not, Bool.not_eq_true', Bool.not_eq_false', Bool.and_eq_true, Bool.and_eq_false_iff, Int.not_lt, Int.not_le, ne_eq, not_false_eq_true, not_true_eq_false, reduceCtorEq, Bool.true_eq_false, Bool.false_eq_true, beq_iff_eq, bne_iff_ne, beq_eq_false_iff_ne, false_or, or_false, true_and, and_true]; done) | (simp (disch := omega) only [decide_eq_true_eq, decide_eq_false_iff_not, Bool.not_eq_true', Bool.not_eq_false', Bool.and_eq_true, Bool.and_eq_false_iff, Int.not_lt, Int.not_le, ne_eq, not_false_eq_true, not_true_eq_false, reduceCtorEq, Bool.true_eq_false, Bool.false_eq_true, beq_iff_eq, bne_iff_ne, beq_eq_false_iff_ne, false_or, or_false, true_and, and_true] at hx; first | (exfalso; omega) | skip) | skip)
      | trivial
      | exact fit_ofL _ _
      | (simp (disch := omega) only [notAgg_v, notAgg_sl, plain_v, fits, fitsOne, fitsCells, xsOf, cell_zero, cell_succ, List.range, List.range.loop, List.map, cond_true, cond_false, D.v.injEq, exists_eq', exists_eq, and_self, and_true, true_and, D.agg.injEq, List.length, exists_eq_left', D.sl.injEq, reduceCtorEq, false_or, true_or, or_true, or_false, cell_zero, cell_succ, cell_v, cells_v, cells_agg, List.length_cons, List.length_nil]; done))
    all_goals first
      | (exfalso; omega)
      | omega
      | (simp only [leftG]; omega)
      | (rw [h2e]; exact Nat.le_refl _)
      | exact notAgg_fn _ _
      | exact hX.notAgg
      | (refine cb (hy ?_ ?_); all_goals assumption)
      | (refine cb ?_; assumption)
      | (refine nh (.inl ?_); omega)
      | (refine nh (.inr ?_); omega)
      | (refine n1 ?_ ?_; all_goals assumption)
      | (refine n0 (.inl ?_); assumption)
      | (refine n0 (.inr ?_); assumption)
      | assumption
      | exact hY.notAgg
      | (simp only [hx]; done)
      | (rw [Bool.eq_iff_iff]; simp [rgd, emp]; omega)
      | (simp_all [inI, rgd, emp]; done)
      | (simp_all [inI, rgd, emp]; omega)
      | fail

theorem vc_rsame (x y : D) (a b : List (Int × Int)) : Cond Try.prog (fun k => if k = 4 then some ⟨[5], [], [0, 1], []⟩ else none) Try.f9 [x, y] [.v (.bool (ivB a b))] = ((NotAgg x ∧ NotAgg y ∧ True) ∧ ∃ (r : D), D.lenT (TypeDesc.slice 24) x = some r ∧ ∃ (r_1 : D), D.lenT (TypeDesc.slice 24) y = some r_1 ∧ ∃ (r_2 : D), D.bin BinOp.neq r r_1 = some r_2 ∧ ∃ (b_1 : Bool), r_2 = D.v (Value.bool b_1) ∧ (b_1 = true → (True ∧ True) ∧ [D.v (Value.bool false)] = [D.v (Value.bool (ivB a b))]) ∧ (b_1 = false → ∃ (I : List D → Prop), ∃ (μ : List D → Nat), ((D.v (Value.int IntKind.i64 0) = D.v (Value.int IntKind.i64 0) ∧ x = x ∧ y = y ∧ True) ∧ True ∧ I [D.v (Value.int IntKind.i64 0)]) ∧ ∀ (r : D), I [r] → ∃ (r_3 : D), D.lenT (TypeDesc.slice 24) x = some r_3 ∧ ∃ (r_4 : D), D.bin BinOp.lss r r_3 = some r_4 ∧ ∃ (b_2 : Bool), r_4 = D.v (Value.bool b_2) ∧ (b_2 = true → D.inb 2 x r ∧ 0 + 2 ≤ (x.at_ r).cells.length ∧ D.inb 2 y r ∧ 0 + 2 ≤ (y.at_ r).cells.length ∧ ∃ (r_5 : Bool), eqs [EqK.i, EqK.i] [(x.at_ r).cell (0 + 0), (x.at_ r).cell (0 + 1)] [(y.at_ r).cell (0 + 0), (y.at_ r).cell (0 + 1)] = some r_5 ∧ ∃ (b_3 : Bool), D.v (Value.bool (match r_5 with | true => false | false => true)) = D.v (Value.bool b_3) ∧ (b_3 = true → (True ∧ True) ∧ [D.v (Value.bool false)] = [D.v (Value.bool (ivB a b))]) ∧ (b_3 = false → ∃ (r_6 : D), D.bin BinOp.add r (D.v (Value.int IntKind.i64 1)) = some r_6 ∧ (r_6 = r_6 ∧ x = x ∧ y = y ∧ True) ∧ True ∧ I [r_6] ∧ μ [r_6] < μ [r])) ∧ (b_2 = false → (True ∧ True) ∧ [D.v (Value.bool true)] = [D.v (Value.bool (ivB a b))]))) := by kernel_rfl
set_option maxHeartbeats 4000000 in
theorem rsame (x y : D) (a b : List (Int × Int)) (hX : IsL 2 (a.map iv) x) (hY : IsL 2 (b.map iv) y) (ha : a.length ≤ 100000) (hb : b.length ≤ 100000) : PureD Try.prog 9 [x, y] [.v (.bool (ivB a b))] := by
  refine pure_cond (Lp := (fun k => if k = 4 then some ⟨[5], [], [0, 1], []⟩ else none)) (by kernel_rfl) Try.func9 (by kernel_rfl) (by kernel_rfl) ?_
  rw [vc_rsame x y a b]
  simp only [hX.lenT, hY.lenT, List.length_map, Option.some.injEq, exists_eq_left']
  by_cases hl : a.length = b.length
  · have d1 : True := trivial
    repeat' (first
      | (refine ex_some (by simp (disch := omega) only [bin_shr, bin_shl, bin_and, bin_or, bin_xor, len_str, toStr_ofL, bin_add, bin_sub, bin_mul, bin_quo, bin_rem, bin_lss, bin_leq, bin_gtr, bin_geq, bin_eql, bin_neq, eqs_cn, eqs_ci, eqs_cb, eqs_cs, Option.map_some, lenT_ofL, lst_ofL, lstSz_ofL, chunk_one, lst_nil, lst_sl, lstSz_sl, lstSz_nil, Bool.and_true, Bool.true_and, Bool.and_false, Bool.false_and, beq_self_eq_true, beq_bb, bne_bb, un_not, un_neg, conv_int, min2_int, max2_int, w64, w32, wu8, wu16, wu32, wu64, tdiv_nn, tmod_nn, cell_zero, cell_succ, cell_v, cells_v, cells_agg, Bool.not_true, Bool.not_false, Int.reduceLT, Int.reduceLE, Int.reduceEq, Int.reduceNeg, Int.reduceAdd, Int.reduceSub, Int.reduceMul, intOf_v, decide_true, decide_false, hX.lenT, hY.lenT, List.length_map]; rfl) ?_)
      | (refine ex_bool ?_)
      | (exact i1)
      | (exact i2)
      | (refine ⟨(fun r => ∃ k : Nat, k ≤ a.length ∧ a.take k = b.take k ∧ r = [.v (.int .i64 (k : Nat))]), leftG a.length, ?_⟩)
      | (refine fun (r4 : D) (hI : (fun r => ∃ k : Nat, k ≤ a.length ∧ a.take k = b.take k ∧ r = [.v (.int .i64 (k : Nat))]) [r4]) => ?_; obtain ⟨k, hk, hek, hl0⟩ := hI; simp only [List.cons.injEq, and_true] at hl0; subst hl0; by_cases hlt : k < a.length <;> first | (have hk1 : k < a.length := (by omega); have h1 := iv_get hX hk1; have h2 := iv_get hY (k := k) (by omega); have i1 := iv_inb hX hk1; have i2 := iv_inb hY (k := k) (by omega); have hst := take_eqI hk1 hl hek; generalize a.getD k (0, 0) = z at h1 hst; generalize b.getD k (0, 0) = y at h2 hst; obtain ⟨p, q⟩ := z; obtain ⟨p2, q2⟩ := y; simp only [h1, h2, iv, Nat.zero_add, cell_zero, cell_succ, cells_agg, List.length_cons, List.length_nil]; have n0 : (p == p2 && q == q2) = false → ivB a b = false := fun h => (by unfold ivB; rw [decide_eq_false_iff_not]; intro e; subst e; have e := hst.1 rfl; simp only [Prod.mk.injEq] at e; rw [e.1, e.2] at h; simp at h); have n1 : (p == p2 && q == q2) = true → a.take (k + 1) = b.take (k + 1) := fun h => (by simp only [Bool.and_eq_true, beq_iff_eq] at h; exact hst.2 (by rw [h.1, h.2])); have inl1 : True := trivial) | (have hkk : k = a.length := (by omega); subst hkk; rw [List.take_length, hl, List.take_length] at hek; have hh : ivB a b = true := (by unfold ivB; rw [hek]; simp); have out1 : True := trivial))
      | (have := inl1; refine ⟨k + 1, by omega, n1 ?_, rfl⟩)
      | (exact ⟨0, by omega, rfl, rfl⟩)
      | (refine And.intro ?_ ?_)
      | (intro hx; have hprop := (show ∀ (p : Prop), p → True from fun _ _ => True.intro) _ hx; clear hprop; first | (cases hx; done) | (exfalso; revert hx; simp (disch := omega) only [decide_eq_true_eq, decide_eq_false_iff_not, Bool.not_eq_true', Bool.not_eq_false', Bool.and_eq_true, Bool.and_eq_false_iff, Int.not_lt, Int.not_le, ne_eq, not_false_eq_true, not_true_eq_false, reduceCtorEq, Bool.true_eq_false, Bool.false_eq_true, beq_iff_eq, bne_iff_ne, beq_eq_false_iff_ne, false_or, or_false, true_and, and_true, hX.lenT, hY.lenT, List.length_map]; done) | (simp (disch := omega) only [decide_eq_true_eq, decide_eq_false_iff_not, Bool.not_eq_true', Bool.not_eq_false', Bool.and_eq_true, Bool.and_eq_false_iff, Int.not_lt, Int.not_le, ne_eq, not_false_eq_true, not_true_eq_false, reduceCtorEq, Bool.true_eq_false, Bool.false_eq_true, beq_iff_eq, bne_iff_ne, beq_eq_false_iff_ne, false_or, or_false, true_and, and_true, hX.lenT, hY.lenT, List.length_map] at hx; first | (exfalso; omega) | skip) | skip)
      | trivial
      | exact fit_ofL _ _
      | (simp (disch := omega) only [notAgg_v, notAgg_sl, plain_v, fits, fitsOne, fitsCells, xsOf, cell_zero, cell_succ, List.range, List.range.loop, List.map, cond_true, cond_false, D.v.injEq, exists_eq', exists_eq, and_self, and_true, true_and, D.agg.injEq, List.length, exists_eq_left', D.sl.injEq, reduceCtorEq, false_or, true_or, or_true, or_false, cell_zero, cell_succ, cell_v, cells_v, cells_agg, List.length_cons, List.length_nil, hX.lenT, hY.lenT, List.length_map]; done))
    all_goals first
      | (exfalso; omega)
      | omega
      | (simp only [leftG]; omega)
      | (rw [h2e]; exact Nat.le_refl _)
      | exact notAgg_fn _ _
      | exact hX.notAgg
      | (refine cb (hy ?_ ?_); all_goals assumption)
      | (refine cb ?_; assumption)
      | (refine nh (.inl ?_); omega)
      | (refine nh (.inr ?_); omega)
      | (refine n1 ?_ ?_; all_goals assumption)
      | (refine n0 (.inl ?_); assumption)
      | (refine n0 (.inr ?_); assumption)
      | assumption
      | (refine cb (n0 ?_); revert hx; cases (p == p2 && q == q2) <;> simp; done)
      | (revert hx; cases (p == p2 && q == q2) <;> simp; done)
      | (simp_all; done)
      | exact hY.notAgg
      | (simp only [hx]; done)
      | (rw [Bool.eq_iff_iff]; simp [rgd, emp]; omega)
      | (simp_all [inI, rgd, emp]; done)
      | (simp_all [inI, rgd, emp]; omega)
      | fail
  · have hh : ivB a b = false := by unfold ivB; rw [decide_eq_false_iff_not]; intro e; exact hl (by rw [e])
    repeat' (first
      | (refine ex_some (by simp (disch := omega) only [bin_shr, bin_shl, bin_and, bin_or, bin_xor, len_str, toStr_ofL, bin_add, bin_sub, bin_mul, bin_quo, bin_rem, bin_lss, bin_leq, bin_gtr, bin_geq, bin_eql, bin_neq, eqs_cn, eqs_ci, eqs_cb, eqs_cs, Option.map_some, lenT_ofL, lst_ofL, lstSz_ofL, chunk_one, lst_nil, lst_sl, lstSz_sl, lstSz_nil, Bool.and_true, Bool.true_and, Bool.and_false, Bool.false_and, beq_self_eq_true, beq_bb, bne_bb, un_not, un_neg, conv_int, min2_int, max2_int, w64, w32, wu8, wu16, wu32, wu64, tdiv_nn, tmod_nn, cell_zero, cell_succ, cell_v, cells_v, cells_agg, Bool.not_true, Bool.not_false, Int.reduceLT, Int.reduceLE, Int.reduceEq, Int.reduceNeg, Int.reduceAdd, Int.reduceSub, Int.reduceMul, intOf_v, decide_true, decide_false]; rfl) ?_)
      | (refine ex_bool ?_)
      | (refine And.intro ?_ ?_)
      | (intro hx; have hprop := (show ∀ (p : Prop), p → True from fun _ _ => True.intro) _ hx; clear hprop; first | (cases hx; done) | (exfalso; revert hx; simp (disch := omega) only [decide_eq_true_eq, decide_eq_false_iff_not, Bool.not_eq_true', Bool.not_eq_false', Bool.and_eq_true, Bool.and_eq_false_iff, Int.not_lt, Int.not_le, ne_eq, not_false_eq_true, not_true_eq_false, reduceCtorEq, Bool.true_eq_false, Bool.false_eq_true, beq_iff_eq, bne_iff_ne, beq_eq_false_iff_ne, false_or, or_false, true_and, and_true]; done) | (simp (disch := omega) only [decide_eq_true_eq, decide_eq_false_iff_not, Bool.not_eq_true', Bool.not_eq_false', Bool.and_eq_true, Bool.and_eq_false_iff, Int.not_lt, Int.not_le, ne_eq, not_false_eq_true, not_true_eq_false, reduceCtorEq, Bool.true_eq_false, Bool.false_eq_true, beq_iff_eq, bne_iff_ne, beq_eq_false_iff_ne, false_or, or_false, true_and, and_true] at hx; first | (exfalso; omega) | skip) | skip)
      | trivial
      | exact fit_ofL _ _
      | (simp (disch := omega) only [notAgg_v, notAgg_sl, plain_v, fits, fitsOne, fitsCells, xsOf, cell_zero, cell_succ, List.range, List.range.loop, List.map, cond_true, cond_false, D.v.injEq, exists_eq', exists_eq, and_self, and_true, true_and, D.agg.injEq, List.length, exists_eq_left', D.sl.injEq, reduceCtorEq, false_or, true_or, or_true, or_false, cell_zero, cell_succ, cell_v, cells_v, cells_agg, List.length_cons, List.length_nil]; done))
    all_goals first
      | (exfalso; omega)
      | omega
      | (simp only [leftG]; omega)
      | (rw [h2e]; exact Nat.le_refl _)
      | exact notAgg_fn _ _
      | exact hX.notAgg
      | (refine cb (hy ?_ ?_); all_goals assumption)
      | (refine cb ?_; assumption)
      | (refine nh (.inl ?_); omega)
      | (refine nh (.inr ?_); omega)
      | (refine n1 ?_ ?_; all_goals assumption)
      | (refine n0 (.inl ?_); assumption)
      | (refine n0 (.inr ?_); assumption)
      | assumption
      | exact hY.notAgg
      | (simp only [hx]; done)
      | (rw [Bool.eq_iff_iff]; simp [rgd, emp]; omega)
      | (simp_all [inI, rgd, emp]; done)
      | (simp_all [inI, rgd, emp]; omega)
      | fail

theorem vc_same (x y : D) (a b : List (Int × Int)) : Cond Try.prog (fun _ => none) Try.f23 [x, y] [.v (.bool (ivB a b))] = ((NotAgg x ∧ NotAgg y ∧ True) ∧ ∃ (r : D), PureD Try.prog 39 [x, y] [r] ∧ fits [(false, [none])] [r] ∧ ((∃ (y : Value), r = D.v y) ∧ True) ∧ [r] = [D.v (Value.bool (ivB a b))]) := by kernel_rfl
theorem same (x y : D) (a b : List (Int × Int)) (hX : IsL 2 (a.map iv) x) (hY : IsL 2 (b.map iv) y) (ha : a.length ≤ 100000) (hb : b.length ≤ 100000) : PureD Try.prog 23 [x, y] [.v (.bool (ivB a b))] := by
  refine pure_cond (Lp := (fun _ => none)) (by kernel_rfl) Try.func23 (by kernel_rfl) (by kernel_rfl) ?_
  rw [vc_same x y a b]
  have E := equal x y a b hX hY ha hb
  repeat' (first
    | (refine ex_some (by simp (disch := omega) only [bin_shr, bin_shl, bin_and, bin_or, bin_xor, len_str, toStr_ofL, bin_add, bin_sub, bin_mul, bin_quo, bin_rem, bin_lss, bin_leq, bin_gtr, bin_geq, bin_eql, bin_neq, eqs_cn, eqs_ci, eqs_cb, eqs_cs, Option.map_some, lenT_ofL, lst_ofL, lstSz_ofL, chunk_one, lst_nil, lst_sl, lstSz_sl, lstSz_nil, Bool.and_true, Bool.true_and, Bool.and_false, Bool.false_and, beq_self_eq_true, beq_bb, bne_bb, un_not, un_neg, conv_int, min2_int, max2_int, w64, w32, wu8, wu16, wu32, wu64, tdiv_nn, tmod_nn, cell_zero, cell_succ, cell_v, cells_v, cells_agg, Bool.not_true, Bool.not_false, Int.reduceLT, Int.reduceLE, Int.reduceEq, Int.reduceNeg, Int.reduceAdd, Int.reduceSub, Int.reduceMul, intOf_v, decide_true, decide_false]; rfl) ?_)
    | (refine ex_bool ?_)
    | (refine ⟨_, E, ?_⟩)
    | (refine And.intro ?_ ?_)
    | (intro hx; have hprop := (show ∀ (p : Prop), p → True from fun _ _ => True.intro) _ hx; clear hprop; first | (cases hx; done) | (exfalso; revert hx; simp (disch := omega) only [decide_eq_true_eq, decide_eq_false_iff_not, Bool.not_eq_true', Bool.not_eq_false', Bool.and_eq_true, Bool.and_eq_false_iff, Int.not_lt, Int.not_le, ne_eq, not_false_eq_true, not_true_eq_false, reduceCtorEq, Bool.true_eq_false, Bool.false_eq_true, beq_iff_eq, bne_iff_ne, beq_eq_false_iff_ne, false_or, or_false, true_and, and_true]; done) | (simp (disch := omega) only [decide_eq_true_eq, decide_eq_false_iff_not, Bool.not_eq_true', Bool.not_eq_false', Bool.and_eq_true, Bool.and_eq_false_iff, Int.not_lt, Int.not_le, ne_eq, not_false_eq_true, not_true_eq_false, reduceCtorEq, Bool.true_eq_false, Bool.false_eq_true, beq_iff_eq, bne_iff_ne, beq_eq_false_iff_ne, false_or, or_false, true_and, and_true] at hx; first | (exfalso; omega) | skip) | skip)
    | trivial
    | exact fit_ofL _ _
    | (simp (disch := omega) only [notAgg_v, notAgg_sl, plain_v, fits, fitsOne, fitsCells, xsOf, cell_zero, cell_succ, List.range, List.range.loop, List.map, cond_true, cond_false, D.v.injEq, exists_eq', exists_eq, and_self, and_true, true_and, D.agg.injEq, List.length, exists_eq_left', D.sl.injEq, reduceCtorEq, false_or, true_or, or_true, or_false, cell_zero, cell_succ, cell_v, cells_v, cells_agg, List.length_cons, List.length_nil]; done))
  all_goals first
    | (exfalso; omega)
    | omega
    | (simp only [leftG]; omega)
    | (rw [h2e]; exact Nat.le_refl _)
    | exact notAgg_fn _ _
    | exact hX.notAgg
    | (refine cb (hy ?_ ?_); all_goals assumption)
    | (refine cb ?_; assumption)
    | (refine nh (.inl ?_); omega)
    | (refine nh (.inr ?_); omega)
    | (refine n1 ?_ ?_; all_goals assumption)
    | (refine n0 (.inl ?_); assumption)
    | (refine n0 (.inr ?_); assumption)
    | assumption
    | exact hY.notAgg
    | (simp only [hx]; done)
    | (rw [Bool.eq_iff_iff]; simp [rgd, emp]; omega)
    | (simp_all [inI, rgd, emp]; done)
    | (simp_all [inI, rgd, emp]; omega)
    | fail

theorem vc_clone (x : D) (zs : List (Int × Int)) : Cond Try.prog (fun _ => none) Try.f32 [x] [x] = ((NotAgg x ∧ True) ∧ ∃ (r : Bool), x.isNil = some r ∧ ∃ (b : Bool), D.v (Value.bool r) = D.v (Value.bool b) ∧ (b = true → (PlainD (D.v nilS) ∧ True) ∧ [D.v nilS] = [x]) ∧ (b = false → ∃ (ls : List D), (D.sl 2 (chunks true 2 0 [])).lst = some ls ∧ ∃ (lx : List D), D.lstSz 2 x = some lx ∧ (ls.length + lx.length) * 16 ≤ 1099511627776 ∧ (PlainD (D.app 2 (D.sl 2 (chunks true 2 0 [])) lx) ∧ True) ∧ [D.app 2 (D.sl 2 (chunks true 2 0 [])) lx] = [x])) := by kernel_rfl
theorem clone (x : D) (zs : List (Int × Int)) (hX : IsL 2 (zs.map iv) x) (hm : zs.length ≤ 100000)  : PureD Try.prog 32 [x] [x] := by
  refine pure_cond (Lp := (fun _ => none)) (by kernel_rfl) Try.func32 (by kernel_rfl) (by kernel_rfl) ?_
  rw [vc_clone x zs]
  rcases hX with rfl | ⟨rfl, h0⟩
  · repeat' (first
      | (refine ex_some (by simp (disch := omega) only [bin_shr, bin_shl, bin_and, bin_or, bin_xor, len_str, toStr_ofL, bin_add, bin_sub, bin_mul, bin_quo, bin_rem, bin_lss, bin_leq, bin_gtr, bin_geq, bin_eql, bin_neq, eqs_cn, eqs_ci, eqs_cb, eqs_cs, Option.map_some, lenT_ofL, lst_ofL, lstSz_ofL, chunk_one, lst_nil, lst_sl, lstSz_sl, lstSz_nil, Bool.and_true, Bool.true_and, Bool.and_false, Bool.false_and, beq_self_eq_true, beq_bb, bne_bb, un_not, un_neg, conv_int, min2_int, max2_int, w64, w32, wu8, wu16, wu32, wu64, tdiv_nn, tmod_nn, cell_zero, cell_succ, cell_v, cells_v, cells_agg, Bool.not_true, Bool.not_false, Int.reduceLT, Int.reduceLE, Int.reduceEq, Int.reduceNeg, Int.reduceAdd, Int.reduceSub, Int.reduceMul, intOf_v, decide_true, decide_false]; rfl) ?_)
      | (refine ex_bool ?_)
      | (refine ex_some rfl ?_)
      | (refine And.intro ?_ ?_)
      | (intro hx; have hprop := (show ∀ (p : Prop), p → True from fun _ _ => True.intro) _ hx; clear hprop; first | (cases hx; done) | (exfalso; revert hx; simp (disch := omega) only [decide_eq_true_eq, decide_eq_false_iff_not, Bool.not_eq_true', Bool.not_eq_false', Bool.and_eq_true, Bool.and_eq_false_iff, Int.not_lt, Int.not_le, ne_eq, not_false_eq_true, not_true_eq_false, reduceCtorEq, Bool.true_eq_false, Bool.false_eq_true, beq_iff_eq, bne_iff_ne, beq_eq_false_iff_ne, false_or, or_false, true_and, and_true]; done) | (simp (disch := omega) only [decide_eq_true_eq, decide_eq_false_iff_not, Bool.not_eq_true', Bool.not_eq_false', Bool.and_eq_true, Bool.and_eq_false_iff, Int.not_lt, Int.not_le, ne_eq, not_false_eq_true, not_true_eq_false, reduceCtorEq, Bool.true_eq_false, Bool.false_eq_true, beq_iff_eq, bne_iff_ne, beq_eq_false_iff_ne, false_or, or_false, true_and, and_true] at hx; first | (exfalso; omega) | skip) | skip)
      | trivial
      | exact fit_ofL _ _
      | (simp (disch := omega) only [notAgg_v, notAgg_sl, plain_v, fits, fitsOne, fitsCells, xsOf, cell_zero, cell_succ, List.range, List.range.loop, List.map, cond_true, cond_false, D.v.injEq, exists_eq', exists_eq, and_self, and_true, true_and, D.agg.injEq, List.length, exists_eq_left', D.sl.injEq, reduceCtorEq, false_or, true_or, or_true, or_false, cell_zero, cell_succ, cell_v, cells_v, cells_agg, List.length_cons, List.length_nil]; done))
    all_goals first
      | (exfalso; omega)
      | omega
      | exact plain_sl (ivs_plain _)
      | exact .inr ⟨_, rfl⟩
      | (rw [List.length_map]; show (0 + zs.length) * 16 ≤ _; omega)
      | rfl
      | (simp only [leftG]; omega)
      | (rw [h2e]; exact Nat.le_refl _)
      | exact notAgg_fn _ _
      | exact hX.notAgg
      | (refine cb (hy ?_ ?_); all_goals assumption)
      | (refine cb ?_; assumption)
      | (refine nh (.inl ?_); omega)
      | (refine nh (.inr ?_); omega)
      | (refine n1 ?_ ?_; all_goals assumption)
      | (refine n0 (.inl ?_); assumption)
      | (refine n0 (.inr ?_); assumption)
      | assumption
      | (simp only [hx]; done)
      | (rw [Bool.eq_iff_iff]; simp [rgd, emp]; omega)
      | (simp_all [inI, rgd, emp]; done)
      | (simp_all [inI, rgd, emp]; omega)
      | fail
  · repeat' (first
      | (refine ex_some (by simp (disch := omega) only [bin_shr, bin_shl, bin_and, bin_or, bin_xor, len_str, toStr_ofL, bin_add, bin_sub, bin_mul, bin_quo, bin_rem, bin_lss, bin_leq, bin_gtr, bin_geq, bin_eql, bin_neq, eqs_cn, eqs_ci, eqs_cb, eqs_cs, Option.map_some, lenT_ofL, lst_ofL, lstSz_ofL, chunk_one, lst_nil, lst_sl, lstSz_sl, lstSz_nil, Bool.and_true, Bool.true_and, Bool.and_false, Bool.false_and, beq_self_eq_true, beq_bb, bne_bb, un_not, un_neg, conv_int, min2_int, max2_int, w64, w32, wu8, wu16, wu32, wu64, tdiv_nn, tmod_nn, cell_zero, cell_succ, cell_v, cells_v, cells_agg, Bool.not_true, Bool.not_false, Int.reduceLT, Int.reduceLE, Int.reduceEq, Int.reduceNeg, Int.reduceAdd, Int.reduceSub, Int.reduceMul, intOf_v, decide_true, decide_false]; rfl) ?_)
      | (refine ex_bool ?_)
      | (refine ex_some rfl ?_)
      | (refine And.intro ?_ ?_)
      | (intro hx; have hprop := (show ∀ (p : Prop), p → True from fun _ _ => True.intro) _ hx; clear hprop; first | (cases hx; done) | (exfalso; revert hx; simp (disch := omega) only [decide_eq_true_eq, decide_eq_false_iff_not, Bool.not_eq_true', Bool.not_eq_false', Bool.and_eq_true, Bool.and_eq_false_iff, Int.not_lt, Int.not_le, ne_eq, not_false_eq_true, not_true_eq_false, reduceCtorEq, Bool.true_eq_false, Bool.false_eq_true, beq_iff_eq, bne_iff_ne, beq_eq_false_iff_ne, false_or, or_false, true_and, and_true]; done) | (simp (disch := omega) only [decide_eq_true_eq, decide_eq_false_iff_not, Bool.not_eq_true', Bool.not_eq_false', Bool.and_eq_true, Bool.and_eq_false_iff, Int.not_lt, Int.not_le, ne_eq, not_false_eq_true, not_true_eq_false, reduceCtorEq, Bool.true_eq_false, Bool.false_eq_true, beq_iff_eq, bne_iff_ne, beq_eq_false_iff_ne, false_or, or_false, true_and, and_true] at hx; first | (exfalso; omega) | skip) | skip)
      | trivial
      | exact fit_ofL _ _
      | (simp (disch := omega) only [notAgg_v, notAgg_sl, plain_v, fits, fitsOne, fitsCells, xsOf, cell_zero, cell_succ, List.range, List.range.loop, List.map, cond_true, cond_false, D.v.injEq, exists_eq', exists_eq, and_self, and_true, true_and, D.agg.injEq, List.length, exists_eq_left', D.sl.injEq, reduceCtorEq, false_or, true_or, or_true, or_false, cell_zero, cell_succ, cell_v, cells_v, cells_agg, List.length_cons, List.length_nil]; done))
    all_goals first
      | (exfalso; omega)
      | omega
      | exact .inl rfl
      | exact plain_v _
      | rfl
      | (simp only [leftG]; omega)
      | (rw [h2e]; exact Nat.le_refl _)
      | exact notAgg_fn _ _
      | exact hX.notAgg
      | (refine cb (hy ?_ ?_); all_goals assumption)
      | (refine cb ?_; assumption)
      | (refine nh (.inl ?_); omega)
      | (refine nh (.inr ?_); omega)
      | (refine n1 ?_ ?_; all_goals assumption)
      | (refine n0 (.inl ?_); assumption)
      | (refine n0 (.inr ?_); assumption)
      | assumption
      | (simp only [hx]; done)
      | (rw [Bool.eq_iff_iff]; simp [rgd, emp]; omega)
      | (simp_all [inI, rgd, emp]; done)
      | (simp_all [inI, rgd, emp]; omega)
      | fail

end Go.Proofs.Ytpbmlllffmkkdaa