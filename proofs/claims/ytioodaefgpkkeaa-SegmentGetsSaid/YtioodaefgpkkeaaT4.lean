/-
  Layer 7: cursors of the document.
-/
import Derived.Test.YtioodaefgpkkeaaT1
import Derived.Test.YtioodaefgpkkeaaT2
import Derived.Test.YtioodaefgpkkeaaT3
namespace Go.Proofs.Ytioodaefgpkkeaa
open Go.RowKit
set_option linter.unusedSimpArgs false
set_option linter.unusedVariables false


theorem cu_neg (l : List Int) (a e n : Int) : cuF l a e n false = if e ≠ 0 then ((a, e), []) else if wiF l a = false then ((a, 8), []) else ((a, 2), []) := by unfold cuF; simp
theorem be_last (n : Int) (w : Nat) : ∀ i, i < w → (be n w).drop (w - (i + 1)) = (n / 256 ^ i % 256) :: (be n w).drop (w - i) := by
  intro i hi
  rw [List.drop_eq_getElem_cons (by rw [be_len]; omega)]
  congr 1
  · simp only [be, List.getElem_map, List.getElem_range]
    rw [show w - 1 - (w - (i + 1)) = i by omega]
  · congr 1; omega
theorem div_pow (n : Int) (i : Nat) : n / 256 ^ i / 256 = n / 256 ^ (i + 1) := by rw [Int.pow_succ, Int.ediv_ediv_of_nonneg (Int.pow_nonneg (by decide))]
theorem pow8 (w : Nat) : (2 : Int) ^ (8 * w) = 256 ^ w := by rw [Int.pow_mul]; rfl
theorem fi_div {n : Int} {w : Nat} (h0 : 0 ≤ n) (h1 : 1 ≤ w) (h2 : w ≤ 7) : fiF n (w : Nat) = decide (n / 256 ^ w = 0) := by
  unfold fiF
  rw [decide_eq_decide]
  have e : (8 * ((w : Nat) : Int)).toNat = 8 * w := by omega
  rw [e, pow8]
  constructor
  · exact fun h => h.2.2.2
  · exact fun h => ⟨by omega, by omega, h0, h⟩
theorem nn_div {n : Int} (h : 0 ≤ n) (i : Nat) : 0 ≤ n / 256 ^ i := Int.ediv_nonneg h (Int.pow_nonneg (by decide))
theorem le_div {n : Int} (h : 0 ≤ n) (i : Nat) : n / 256 ^ i ≤ n := by
  have h1 : (0 : Int) < 256 ^ i := Int.pow_pos (by decide)
  exact Int.ediv_le_self _ h

theorem vc_rin (l : List Int) (a e : Int) : Cond Try.prog (fun _ => none) Try.f50 [.agg [str (l), .v (.int .i64 (a)), .v (.int .i64 (e))]] [.v (.bool (wiF l a))] = (((∃ (cs : List D), D.agg [str l, D.v (Value.int IntKind.i64 a), D.v (Value.int IntKind.i64 e)] = D.agg cs ∧ cs.length = 3) ∧ True) ∧ ∃ (r : D), D.bin BinOp.geq (D.v (Value.int IntKind.i64 a)) (D.v (Value.int IntKind.i64 0)) = some r ∧ ∃ (b : Bool), r = D.v (Value.bool b) ∧ (b = true → ∃ (r : D), D.lenT TypeDesc.string (str l) = some r ∧ ∃ (r_1 : D), D.bin BinOp.leq (D.v (Value.int IntKind.i64 a)) r = some r_1 ∧ ((∃ (y : Value), r_1 = D.v y) ∧ True) ∧ [r_1] = [D.v (Value.bool (wiF l a))]) ∧ (b = false → (True ∧ True) ∧ [D.v (Value.bool false)] = [D.v (Value.bool (wiF l a))])) := by kernel_rfl
theorem rin (l : List Int) (a e : Int)  : PureD Try.prog 50 [.agg [str (l), .v (.int .i64 (a)), .v (.int .i64 (e))]] [.v (.bool (wiF l a))] := by
  refine pure_cond (Lp := (fun _ => none)) (by kernel_rfl) Try.func50 (by kernel_rfl) (by kernel_rfl) ?_
  rw [vc_rin l a e]
  repeat' (first
    | (refine ex_some (by simp (disch := omega) only [bin_shr, bin_shl, bin_and, bin_or, bin_xor, len_str, toStr_ofL, bin_add, bin_sub, bin_mul, bin_quo, bin_rem, bin_lss, bin_leq, bin_gtr, bin_geq, bin_eql, bin_neq, eqs_cn, eqs_ci, eqs_cb, eqs_cs, Option.map_some, lenT_ofL, lst_ofL, lstSz_ofL, chunk_one, lst_nil, lst_sl, lstSz_sl, lstSz_nil, Bool.and_true, Bool.true_and, Bool.and_false, Bool.false_and, beq_self_eq_true, beq_bb, bne_bb, un_not, un_neg, conv_int, min2_int, max2_int, w64, w32, wu8, wu16, wu32, wu64, tdiv_nn, tmod_nn, cell_zero, cell_succ, cell_v, cells_v, cells_agg, Bool.not_true, Bool.not_false, Int.reduceLT, Int.reduceLE, Int.reduceEq, Int.reduceNeg, Int.reduceAdd, Int.reduceSub, Int.reduceMul, intOf_v, decide_true, decide_false]; rfl) ?_)
    | (refine ex_bool ?_)
    | (refine And.intro ?_ ?_)
    | (intro hx; have hprop := (show ∀ (p : Prop), p → True from fun _ _ => True.intro) _ hx; clear hprop; first | (cases hx; done) | (exfalso; revert hx; simp (disch := omega) only [decide_eq_true_eq, decide_eq_false_iff_not, Bool.not_eq_true', Bool.not_eq_false', Bool.and_eq_true, Bool.and_eq_false_iff, Int.not_lt, Int.not_le, ne_eq, not_false_eq_true, not_true_eq_false, reduceCtorEq, Bool.true_eq_false, Bool.false_eq_true, beq_iff_eq, bne_iff_ne, beq_eq_false_iff_ne, false_or, or_false, true_and, and_true]; done) | (simp (disch := omega) only [decide_eq_true_eq, decide_eq_false_iff_not, Bool.not_eq_true', Bool.not_eq_false', Bool.and_eq_true, Bool.and_eq_false_iff, Int.not_lt, Int.not_le, ne_eq, not_false_eq_true, not_true_eq_false, reduceCtorEq, Bool.true_eq_false, Bool.false_eq_true, beq_iff_eq, bne_iff_ne, beq_eq_false_iff_ne, false_or, or_false, true_and, and_true] at hx; first | (exfalso; omega) | skip) | skip)
    | trivial
    | exact fit_ofL _ _
    | (simp (disch := omega) only [notAgg_v, notAgg_sl, plain_v, fits, fitsOne, fitsCells, xsOf, cell_zero, cell_succ, List.range, List.range.loop, List.map, cond_true, cond_false, D.v.injEq, exists_eq', exists_eq, and_self, and_true, true_and, D.agg.injEq, List.length, exists_eq_left', D.sl.injEq, reduceCtorEq, false_or, true_or, or_true, or_false, cell_zero, cell_succ, cell_v, cells_v, cells_agg, List.length_cons, List.length_nil]; done))
  all_goals first | (unfold wiF; congr 4; rw [eq_comm, decide_eq_true_eq]; omega) | (unfold wiF; congr 4; rw [eq_comm, decide_eq_false_iff_not]; omega) | (by_cases h : a ≤ (l.length : Nat) <;> simp [wiF, h] <;> omega) | (simp [wiF]; omega) | fail

theorem vc_rleft (l : List Int) (a e : Int) : Cond Try.prog (fun _ => none) Try.f51 [.agg [str (l), .v (.int .i64 (a)), .v (.int .i64 (e))]] [.v (.int .i64 (leF l a e))] = (((∃ (cs : List D), D.agg [str l, D.v (Value.int IntKind.i64 a), D.v (Value.int IntKind.i64 e)] = D.agg cs ∧ cs.length = 3) ∧ True) ∧ ∃ (r : D), D.bin BinOp.neq (D.v (Value.int IntKind.i64 e)) (D.v (Value.int IntKind.i64 0)) = some r ∧ ∃ (b : Bool), r = D.v (Value.bool b) ∧ (b = false → ∃ (r : D), PureD Try.prog 50 [D.agg [str l, D.v (Value.int IntKind.i64 a), D.v (Value.int IntKind.i64 e)]] [r] ∧ fits [(false, [none])] [r] ∧ ∃ (r_1 : D), D.un UnOp.not r = some r_1 ∧ ∃ (b : Bool), r_1 = D.v (Value.bool b) ∧ (b = true → (True ∧ True) ∧ [D.v (Value.int IntKind.i64 0)] = [D.v (Value.int IntKind.i64 (leF l a e))]) ∧ (b = false → ∃ (r : D), D.lenT TypeDesc.string (str l) = some r ∧ ∃ (r_2 : D), D.bin BinOp.sub r (D.v (Value.int IntKind.i64 a)) = some r_2 ∧ ((∃ (y : Value), r_2 = D.v y) ∧ True) ∧ [r_2] = [D.v (Value.int IntKind.i64 (leF l a e))])) ∧ (b = true → (True ∧ True) ∧ [D.v (Value.int IntKind.i64 0)] = [D.v (Value.int IntKind.i64 (leF l a e))])) := by kernel_rfl
theorem rleft (l : List Int) (a e : Int) (a0 : -9223372036854775808 ≤ a) (a1 : a ≤ 9223372036854775807) (hB : Bytes l) (hl : l.length ≤ 9223372036854775807) : PureD Try.prog 51 [.agg [str (l), .v (.int .i64 (a)), .v (.int .i64 (e))]] [.v (.int .i64 (leF l a e))] := by
  refine pure_cond (Lp := (fun _ => none)) (by kernel_rfl) Try.func51 (by kernel_rfl) (by kernel_rfl) ?_
  rw [vc_rleft l a e]
  by_cases he : e = 0
  · cases hw : wiF l a
    · have L : leF l a e = 0 := by unfold leF; rw [if_neg (by rw [hw]; simp)]
      have W := rin l a e
      rw [hw] at W
      repeat' (first
        | (refine ex_some (by simp (disch := omega) only [bin_shr, bin_shl, bin_and, bin_or, bin_xor, len_str, toStr_ofL, bin_add, bin_sub, bin_mul, bin_quo, bin_rem, bin_lss, bin_leq, bin_gtr, bin_geq, bin_eql, bin_neq, eqs_cn, eqs_ci, eqs_cb, eqs_cs, Option.map_some, lenT_ofL, lst_ofL, lstSz_ofL, chunk_one, lst_nil, lst_sl, lstSz_sl, lstSz_nil, Bool.and_true, Bool.true_and, Bool.and_false, Bool.false_and, beq_self_eq_true, beq_bb, bne_bb, un_not, un_neg, conv_int, min2_int, max2_int, w64, w32, wu8, wu16, wu32, wu64, tdiv_nn, tmod_nn, cell_zero, cell_succ, cell_v, cells_v, cells_agg, Bool.not_true, Bool.not_false, Int.reduceLT, Int.reduceLE, Int.reduceEq, Int.reduceNeg, Int.reduceAdd, Int.reduceSub, Int.reduceMul, intOf_v, decide_true, decide_false]; rfl) ?_)
        | (refine ex_bool ?_)
        | (refine ⟨_, W, ?_⟩)
        | (refine And.intro ?_ ?_)
        | (intro hx; have hprop := (show ∀ (p : Prop), p → True from fun _ _ => True.intro) _ hx; clear hprop; first | (cases hx; done) | (exfalso; revert hx; simp (disch := omega) only [decide_eq_true_eq, decide_eq_false_iff_not, Bool.not_eq_true', Bool.not_eq_false', Bool.and_eq_true, Bool.and_eq_false_iff, Int.not_lt, Int.not_le, ne_eq, not_false_eq_true, not_true_eq_false, reduceCtorEq, Bool.true_eq_false, Bool.false_eq_true, beq_iff_eq, bne_iff_ne, beq_eq_false_iff_ne, false_or, or_false, true_and, and_true]; done) | (simp (disch := omega) only [decide_eq_true_eq, decide_eq_false_iff_not, Bool.not_eq_true', Bool.not_eq_false', Bool.and_eq_true, Bool.and_eq_false_iff, Int.not_lt, Int.not_le, ne_eq, not_false_eq_true, not_true_eq_false, reduceCtorEq, Bool.true_eq_false, Bool.false_eq_true, beq_iff_eq, bne_iff_ne, beq_eq_false_iff_ne, false_or, or_false, true_and, and_true] at hx; first | (exfalso; omega) | skip) | skip)
        | trivial
        | exact fit_ofL _ _
        | (simp (disch := omega) only [notAgg_v, notAgg_sl, plain_v, fits, fitsOne, fitsCells, xsOf, cell_zero, cell_succ, List.range, List.range.loop, List.map, cond_true, cond_false, D.v.injEq, exists_eq', exists_eq, and_self, and_true, true_and, D.agg.injEq, List.length, exists_eq_left', D.sl.injEq, reduceCtorEq, false_or, true_or, or_true, or_false, cell_zero, cell_succ, cell_v, cells_v, cells_agg, List.length_cons, List.length_nil]; done))
      all_goals first | (exfalso; omega) | (rw [L]; done) | (simp [L]; done) | fail
    · have L : leF l a e = (l.length : Nat) - a := by unfold leF; rw [if_pos ⟨he, hw⟩]
      have W := rin l a e
      rw [hw] at W
      have hw2 : 0 ≤ a ∧ a ≤ (l.length : Nat) := by simpa [wiF] using hw
      repeat' (first
        | (refine ex_some (by simp (disch := omega) only [bin_shr, bin_shl, bin_and, bin_or, bin_xor, len_str, toStr_ofL, bin_add, bin_sub, bin_mul, bin_quo, bin_rem, bin_lss, bin_leq, bin_gtr, bin_geq, bin_eql, bin_neq, eqs_cn, eqs_ci, eqs_cb, eqs_cs, Option.map_some, lenT_ofL, lst_ofL, lstSz_ofL, chunk_one, lst_nil, lst_sl, lstSz_sl, lstSz_nil, Bool.and_true, Bool.true_and, Bool.and_false, Bool.false_and, beq_self_eq_true, beq_bb, bne_bb, un_not, un_neg, conv_int, min2_int, max2_int, w64, w32, wu8, wu16, wu32, wu64, tdiv_nn, tmod_nn, cell_zero, cell_succ, cell_v, cells_v, cells_agg, Bool.not_true, Bool.not_false, Int.reduceLT, Int.reduceLE, Int.reduceEq, Int.reduceNeg, Int.reduceAdd, Int.reduceSub, Int.reduceMul, intOf_v, decide_true, decide_false]; rfl) ?_)
        | (refine ex_bool ?_)
        | (refine ⟨_, W, ?_⟩)
        | (refine And.intro ?_ ?_)
        | (intro hx; have hprop := (show ∀ (p : Prop), p → True from fun _ _ => True.intro) _ hx; clear hprop; first | (cases hx; done) | (exfalso; revert hx; simp (disch := omega) only [decide_eq_true_eq, decide_eq_false_iff_not, Bool.not_eq_true', Bool.not_eq_false', Bool.and_eq_true, Bool.and_eq_false_iff, Int.not_lt, Int.not_le, ne_eq, not_false_eq_true, not_true_eq_false, reduceCtorEq, Bool.true_eq_false, Bool.false_eq_true, beq_iff_eq, bne_iff_ne, beq_eq_false_iff_ne, false_or, or_false, true_and, and_true]; done) | (simp (disch := omega) only [decide_eq_true_eq, decide_eq_false_iff_not, Bool.not_eq_true', Bool.not_eq_false', Bool.and_eq_true, Bool.and_eq_false_iff, Int.not_lt, Int.not_le, ne_eq, not_false_eq_true, not_true_eq_false, reduceCtorEq, Bool.true_eq_false, Bool.false_eq_true, beq_iff_eq, bne_iff_ne, beq_eq_false_iff_ne, false_or, or_false, true_and, and_true] at hx; first | (exfalso; omega) | skip) | skip)
        | trivial
        | exact fit_ofL _ _
        | (simp (disch := omega) only [notAgg_v, notAgg_sl, plain_v, fits, fitsOne, fitsCells, xsOf, cell_zero, cell_succ, List.range, List.range.loop, List.map, cond_true, cond_false, D.v.injEq, exists_eq', exists_eq, and_self, and_true, true_and, D.agg.injEq, List.length, exists_eq_left', D.sl.injEq, reduceCtorEq, false_or, true_or, or_true, or_false, cell_zero, cell_succ, cell_v, cells_v, cells_agg, List.length_cons, List.length_nil]; done))
      all_goals first | (exfalso; omega) | (rw [L]; done) | (simp [L]; done) | fail
  · have L : leF l a e = 0 := by unfold leF; rw [if_neg (by omega)]
    repeat' (first
      | (refine ex_some (by simp (disch := omega) only [bin_shr, bin_shl, bin_and, bin_or, bin_xor, len_str, toStr_ofL, bin_add, bin_sub, bin_mul, bin_quo, bin_rem, bin_lss, bin_leq, bin_gtr, bin_geq, bin_eql, bin_neq, eqs_cn, eqs_ci, eqs_cb, eqs_cs, Option.map_some, lenT_ofL, lst_ofL, lstSz_ofL, chunk_one, lst_nil, lst_sl, lstSz_sl, lstSz_nil, Bool.and_true, Bool.true_and, Bool.and_false, Bool.false_and, beq_self_eq_true, beq_bb, bne_bb, un_not, un_neg, conv_int, min2_int, max2_int, w64, w32, wu8, wu16, wu32, wu64, tdiv_nn, tmod_nn, cell_zero, cell_succ, cell_v, cells_v, cells_agg, Bool.not_true, Bool.not_false, Int.reduceLT, Int.reduceLE, Int.reduceEq, Int.reduceNeg, Int.reduceAdd, Int.reduceSub, Int.reduceMul, intOf_v, decide_true, decide_false]; rfl) ?_)
      | (refine ex_bool ?_)
      | (refine ⟨_, W, ?_⟩)
      | (refine And.intro ?_ ?_)
      | (intro hx; have hprop := (show ∀ (p : Prop), p → True from fun _ _ => True.intro) _ hx; clear hprop; first | (cases hx; done) | (exfalso; revert hx; simp (disch := omega) only [decide_eq_true_eq, decide_eq_false_iff_not, Bool.not_eq_true', Bool.not_eq_false', Bool.and_eq_true, Bool.and_eq_false_iff, Int.not_lt, Int.not_le, ne_eq, not_false_eq_true, not_true_eq_false, reduceCtorEq, Bool.true_eq_false, Bool.false_eq_true, beq_iff_eq, bne_iff_ne, beq_eq_false_iff_ne, false_or, or_false, true_and, and_true]; done) | (simp (disch := omega) only [decide_eq_true_eq, decide_eq_false_iff_not, Bool.not_eq_true', Bool.not_eq_false', Bool.and_eq_true, Bool.and_eq_false_iff, Int.not_lt, Int.not_le, ne_eq, not_false_eq_true, not_true_eq_false, reduceCtorEq, Bool.true_eq_false, Bool.false_eq_true, beq_iff_eq, bne_iff_ne, beq_eq_false_iff_ne, false_or, or_false, true_and, and_true] at hx; first | (exfalso; omega) | skip) | skip)
      | trivial
      | exact fit_ofL _ _
      | (simp (disch := omega) only [notAgg_v, notAgg_sl, plain_v, fits, fitsOne, fitsCells, xsOf, cell_zero, cell_succ, List.range, List.range.loop, List.map, cond_true, cond_false, D.v.injEq, exists_eq', exists_eq, and_self, and_true, true_and, D.agg.injEq, List.length, exists_eq_left', D.sl.injEq, reduceCtorEq, false_or, true_or, or_true, or_false, cell_zero, cell_succ, cell_v, cells_v, cells_agg, List.length_cons, List.length_nil]; done))
    all_goals first | (exfalso; omega) | (rw [L]; done) | (simp [L]; done) | fail

theorem vc_rdone (l : List Int) (a e : Int) : Cond Try.prog (fun _ => none) Try.f40 [.agg [str (l), .v (.int .i64 (a)), .v (.int .i64 (e))]] [.v (.int .i64 (doF l a e))] = (((∃ (cs : List D), D.agg [str l, D.v (Value.int IntKind.i64 a), D.v (Value.int IntKind.i64 e)] = D.agg cs ∧ cs.length = 3) ∧ True) ∧ ∃ (r : D), D.bin BinOp.neq (D.v (Value.int IntKind.i64 e)) (D.v (Value.int IntKind.i64 0)) = some r ∧ ∃ (b : Bool), r = D.v (Value.bool b) ∧ (b = true → ((∃ (y : Value), D.v (Value.int IntKind.i64 e) = D.v y) ∧ True) ∧ [D.v (Value.int IntKind.i64 e)] = [D.v (Value.int IntKind.i64 (doF l a e))]) ∧ (b = false → ∃ (r : D), PureD Try.prog 50 [D.agg [str l, D.v (Value.int IntKind.i64 a), D.v (Value.int IntKind.i64 e)]] [r] ∧ fits [(false, [none])] [r] ∧ ∃ (r_1 : D), D.un UnOp.not r = some r_1 ∧ ∃ (b : Bool), r_1 = D.v (Value.bool b) ∧ (b = true → (True ∧ True) ∧ [D.v (Value.int IntKind.i64 8)] = [D.v (Value.int IntKind.i64 (doF l a e))]) ∧ (b = false → ∃ (r : D), PureD Try.prog 51 [D.agg [str l, D.v (Value.int IntKind.i64 a), D.v (Value.int IntKind.i64 e)]] [r] ∧ fits [(false, [none])] [r] ∧ ∃ (r_2 : D), D.bin BinOp.gtr r (D.v (Value.int IntKind.i64 0)) = some r_2 ∧ ∃ (b : Bool), r_2 = D.v (Value.bool b) ∧ (b = true → (True ∧ True) ∧ [D.v (Value.int IntKind.i64 4)] = [D.v (Value.int IntKind.i64 (doF l a e))]) ∧ (b = false → (True ∧ True) ∧ [D.v (Value.int IntKind.i64 0)] = [D.v (Value.int IntKind.i64 (doF l a e))])))) := by kernel_rfl
theorem rdone (l : List Int) (a e : Int) (a0 : -9223372036854775808 ≤ a) (a1 : a ≤ 9223372036854775807) (hB : Bytes l) (hl : l.length ≤ 9223372036854775807) : PureD Try.prog 40 [.agg [str (l), .v (.int .i64 (a)), .v (.int .i64 (e))]] [.v (.int .i64 (doF l a e))] := by
  refine pure_cond (Lp := (fun _ => none)) (by kernel_rfl) Try.func40 (by kernel_rfl) (by kernel_rfl) ?_
  rw [vc_rdone l a e]
  have LL := rleft l a e a0 a1 hB hl
  have W := rin l a e
  by_cases he : e = 0
  · cases hw : wiF l a
    · have L : doF l a e = 8 := by unfold doF; rw [if_neg (by omega), if_pos hw]
      rw [hw] at W
      repeat' (first
        | (refine ex_some (by simp (disch := omega) only [bin_shr, bin_shl, bin_and, bin_or, bin_xor, len_str, toStr_ofL, bin_add, bin_sub, bin_mul, bin_quo, bin_rem, bin_lss, bin_leq, bin_gtr, bin_geq, bin_eql, bin_neq, eqs_cn, eqs_ci, eqs_cb, eqs_cs, Option.map_some, lenT_ofL, lst_ofL, lstSz_ofL, chunk_one, lst_nil, lst_sl, lstSz_sl, lstSz_nil, Bool.and_true, Bool.true_and, Bool.and_false, Bool.false_and, beq_self_eq_true, beq_bb, bne_bb, un_not, un_neg, conv_int, min2_int, max2_int, w64, w32, wu8, wu16, wu32, wu64, tdiv_nn, tmod_nn, cell_zero, cell_succ, cell_v, cells_v, cells_agg, Bool.not_true, Bool.not_false, Int.reduceLT, Int.reduceLE, Int.reduceEq, Int.reduceNeg, Int.reduceAdd, Int.reduceSub, Int.reduceMul, intOf_v, decide_true, decide_false]; rfl) ?_)
        | (refine ex_bool ?_)
        | (refine ⟨_, W, ?_⟩)
        | (refine ⟨_, LL, ?_⟩)
        | (refine And.intro ?_ ?_)
        | (intro hx; have hprop := (show ∀ (p : Prop), p → True from fun _ _ => True.intro) _ hx; clear hprop; first | (cases hx; done) | (exfalso; revert hx; simp (disch := omega) only [decide_eq_true_eq, decide_eq_false_iff_not, Bool.not_eq_true', Bool.not_eq_false', Bool.and_eq_true, Bool.and_eq_false_iff, Int.not_lt, Int.not_le, ne_eq, not_false_eq_true, not_true_eq_false, reduceCtorEq, Bool.true_eq_false, Bool.false_eq_true, beq_iff_eq, bne_iff_ne, beq_eq_false_iff_ne, false_or, or_false, true_and, and_true]; done) | (simp (disch := omega) only [decide_eq_true_eq, decide_eq_false_iff_not, Bool.not_eq_true', Bool.not_eq_false', Bool.and_eq_true, Bool.and_eq_false_iff, Int.not_lt, Int.not_le, ne_eq, not_false_eq_true, not_true_eq_false, reduceCtorEq, Bool.true_eq_false, Bool.false_eq_true, beq_iff_eq, bne_iff_ne, beq_eq_false_iff_ne, false_or, or_false, true_and, and_true] at hx; first | (exfalso; omega) | skip) | skip)
        | trivial
        | exact fit_ofL _ _
        | (simp (disch := omega) only [notAgg_v, notAgg_sl, plain_v, fits, fitsOne, fitsCells, xsOf, cell_zero, cell_succ, List.range, List.range.loop, List.map, cond_true, cond_false, D.v.injEq, exists_eq', exists_eq, and_self, and_true, true_and, D.agg.injEq, List.length, exists_eq_left', D.sl.injEq, reduceCtorEq, false_or, true_or, or_true, or_false, cell_zero, cell_succ, cell_v, cells_v, cells_agg, List.length_cons, List.length_nil]; done))
      all_goals first | (exfalso; omega) | (rw [L]; done) | (rw [if_pos (by omega)]; done) | (rw [if_neg (by omega)]; done) | (simp [L]; done) | fail
    · have hw2 : 0 ≤ a ∧ a ≤ (l.length : Nat) := by simpa [wiF] using hw
      have L2 : leF l a e = (l.length : Nat) - a := by unfold leF; rw [if_pos ⟨he, hw⟩]
      rw [hw] at W
      rw [L2] at LL
      have L : doF l a e = if (l.length : Nat) - a > 0 then 4 else 0 := by unfold doF; rw [if_neg (by omega), if_neg (by rw [hw]; simp)]
      rw [L]
      repeat' (first
        | (refine ex_some (by simp (disch := omega) only [bin_shr, bin_shl, bin_and, bin_or, bin_xor, len_str, toStr_ofL, bin_add, bin_sub, bin_mul, bin_quo, bin_rem, bin_lss, bin_leq, bin_gtr, bin_geq, bin_eql, bin_neq, eqs_cn, eqs_ci, eqs_cb, eqs_cs, Option.map_some, lenT_ofL, lst_ofL, lstSz_ofL, chunk_one, lst_nil, lst_sl, lstSz_sl, lstSz_nil, Bool.and_true, Bool.true_and, Bool.and_false, Bool.false_and, beq_self_eq_true, beq_bb, bne_bb, un_not, un_neg, conv_int, min2_int, max2_int, w64, w32, wu8, wu16, wu32, wu64, tdiv_nn, tmod_nn, cell_zero, cell_succ, cell_v, cells_v, cells_agg, Bool.not_true, Bool.not_false, Int.reduceLT, Int.reduceLE, Int.reduceEq, Int.reduceNeg, Int.reduceAdd, Int.reduceSub, Int.reduceMul, intOf_v, decide_true, decide_false]; rfl) ?_)
        | (refine ex_bool ?_)
        | (refine ⟨_, W, ?_⟩)
        | (refine ⟨_, LL, ?_⟩)
        | (refine And.intro ?_ ?_)
        | (intro hx; have hprop := (show ∀ (p : Prop), p → True from fun _ _ => True.intro) _ hx; clear hprop; first | (cases hx; done) | (exfalso; revert hx; simp (disch := omega) only [decide_eq_true_eq, decide_eq_false_iff_not, Bool.not_eq_true', Bool.not_eq_false', Bool.and_eq_true, Bool.and_eq_false_iff, Int.not_lt, Int.not_le, ne_eq, not_false_eq_true, not_true_eq_false, reduceCtorEq, Bool.true_eq_false, Bool.false_eq_true, beq_iff_eq, bne_iff_ne, beq_eq_false_iff_ne, false_or, or_false, true_and, and_true]; done) | (simp (disch := omega) only [decide_eq_true_eq, decide_eq_false_iff_not, Bool.not_eq_true', Bool.not_eq_false', Bool.and_eq_true, Bool.and_eq_false_iff, Int.not_lt, Int.not_le, ne_eq, not_false_eq_true, not_true_eq_false, reduceCtorEq, Bool.true_eq_false, Bool.false_eq_true, beq_iff_eq, bne_iff_ne, beq_eq_false_iff_ne, false_or, or_false, true_and, and_true] at hx; first | (exfalso; omega) | skip) | skip)
        | trivial
        | exact fit_ofL _ _
        | (simp (disch := omega) only [notAgg_v, notAgg_sl, plain_v, fits, fitsOne, fitsCells, xsOf, cell_zero, cell_succ, List.range, List.range.loop, List.map, cond_true, cond_false, D.v.injEq, exists_eq', exists_eq, and_self, and_true, true_and, D.agg.injEq, List.length, exists_eq_left', D.sl.injEq, reduceCtorEq, false_or, true_or, or_true, or_false, cell_zero, cell_succ, cell_v, cells_v, cells_agg, List.length_cons, List.length_nil]; done))
      all_goals first | (exfalso; omega) | (rw [L]; done) | (rw [if_pos (by omega)]; done) | (rw [if_neg (by omega)]; done) | (simp [L]; done) | fail
  · have L : doF l a e = e := by unfold doF; rw [if_pos he]
    repeat' (first
      | (refine ex_some (by simp (disch := omega) only [bin_shr, bin_shl, bin_and, bin_or, bin_xor, len_str, toStr_ofL, bin_add, bin_sub, bin_mul, bin_quo, bin_rem, bin_lss, bin_leq, bin_gtr, bin_geq, bin_eql, bin_neq, eqs_cn, eqs_ci, eqs_cb, eqs_cs, Option.map_some, lenT_ofL, lst_ofL, lstSz_ofL, chunk_one, lst_nil, lst_sl, lstSz_sl, lstSz_nil, Bool.and_true, Bool.true_and, Bool.and_false, Bool.false_and, beq_self_eq_true, beq_bb, bne_bb, un_not, un_neg, conv_int, min2_int, max2_int, w64, w32, wu8, wu16, wu32, wu64, tdiv_nn, tmod_nn, cell_zero, cell_succ, cell_v, cells_v, cells_agg, Bool.not_true, Bool.not_false, Int.reduceLT, Int.reduceLE, Int.reduceEq, Int.reduceNeg, Int.reduceAdd, Int.reduceSub, Int.reduceMul, intOf_v, decide_true, decide_false]; rfl) ?_)
      | (refine ex_bool ?_)
      | (refine ⟨_, W, ?_⟩)
      | (refine ⟨_, LL, ?_⟩)
      | (refine And.intro ?_ ?_)
      | (intro hx; have hprop := (show ∀ (p : Prop), p → True from fun _ _ => True.intro) _ hx; clear hprop; first | (cases hx; done) | (exfalso; revert hx; simp (disch := omega) only [decide_eq_true_eq, decide_eq_false_iff_not, Bool.not_eq_true', Bool.not_eq_false', Bool.and_eq_true, Bool.and_eq_false_iff, Int.not_lt, Int.not_le, ne_eq, not_false_eq_true, not_true_eq_false, reduceCtorEq, Bool.true_eq_false, Bool.false_eq_true, beq_iff_eq, bne_iff_ne, beq_eq_false_iff_ne, false_or, or_false, true_and, and_true]; done) | (simp (disch := omega) only [decide_eq_true_eq, decide_eq_false_iff_not, Bool.not_eq_true', Bool.not_eq_false', Bool.and_eq_true, Bool.and_eq_false_iff, Int.not_lt, Int.not_le, ne_eq, not_false_eq_true, not_true_eq_false, reduceCtorEq, Bool.true_eq_false, Bool.false_eq_true, beq_iff_eq, bne_iff_ne, beq_eq_false_iff_ne, false_or, or_false, true_and, and_true] at hx; first | (exfalso; omega) | skip) | skip)
      | trivial
      | exact fit_ofL _ _
      | (simp (disch := omega) only [notAgg_v, notAgg_sl, plain_v, fits, fitsOne, fitsCells, xsOf, cell_zero, cell_succ, List.range, List.range.loop, List.map, cond_true, cond_false, D.v.injEq, exists_eq', exists_eq, and_self, and_true, true_and, D.agg.injEq, List.length, exists_eq_left', D.sl.injEq, reduceCtorEq, false_or, true_or, or_true, or_false, cell_zero, cell_succ, cell_v, cells_v, cells_agg, List.length_cons, List.length_nil]; done))
    all_goals first | (exfalso; omega) | (rw [L]; done) | (rw [if_pos (by omega)]; done) | (rw [if_neg (by omega)]; done) | (simp [L]; done) | fail

theorem vc_ropn (l : List Int) : Cond Try.prog (fun _ => none) Try.f37 [str l] [.agg [str (l), .v (.int .i64 (0)), .v (.int .i64 (0))]] = ((NotAgg (str l) ∧ True) ∧ ((∃ (y : Value), str l = D.v y) ∧ True ∧ True ∧ True) ∧ [D.agg [str l, D.v (Value.int IntKind.i64 0), D.v (Value.int IntKind.i64 0)]] = [D.agg [str l, D.v (Value.int IntKind.i64 0), D.v (Value.int IntKind.i64 0)]]) := by kernel_rfl
theorem ropn (l : List Int)  : PureD Try.prog 37 [str l] [.agg [str (l), .v (.int .i64 (0)), .v (.int .i64 (0))]] := by
  refine pure_cond (Lp := (fun _ => none)) (by kernel_rfl) Try.func37 (by kernel_rfl) (by kernel_rfl) ?_
  rw [vc_ropn l]
  repeat' (first
    | (refine ex_some (by simp (disch := omega) only [bin_shr, bin_shl, bin_and, bin_or, bin_xor, len_str, toStr_ofL, bin_add, bin_sub, bin_mul, bin_quo, bin_rem, bin_lss, bin_leq, bin_gtr, bin_geq, bin_eql, bin_neq, eqs_cn, eqs_ci, eqs_cb, eqs_cs, Option.map_some, lenT_ofL, lst_ofL, lstSz_ofL, chunk_one, lst_nil, lst_sl, lstSz_sl, lstSz_nil, Bool.and_true, Bool.true_and, Bool.and_false, Bool.false_and, beq_self_eq_true, beq_bb, bne_bb, un_not, un_neg, conv_int, min2_int, max2_int, w64, w32, wu8, wu16, wu32, wu64, tdiv_nn, tmod_nn, cell_zero, cell_succ, cell_v, cells_v, cells_agg, Bool.not_true, Bool.not_false, Int.reduceLT, Int.reduceLE, Int.reduceEq, Int.reduceNeg, Int.reduceAdd, Int.reduceSub, Int.reduceMul, intOf_v, decide_true, decide_false]; rfl) ?_)
    | (refine ex_bool ?_)
    | (exact notAgg_v _)
    | (refine And.intro ?_ ?_)
    | (intro hx; have hprop := (show ∀ (p : Prop), p → True from fun _ _ => True.intro) _ hx; clear hprop; first | (cases hx; done) | (exfalso; revert hx; simp (disch := omega) only [decide_eq_true_eq, decide_eq_false_iff_not, Bool.not_eq_true', Bool.not_eq_false', Bool.and_eq_true, Bool.and_eq_false_iff, Int.not_lt, Int.not_le, ne_eq, not_false_eq_true, not_true_eq_false, reduceCtorEq, Bool.true_eq_false, Bool.false_eq_true, beq_iff_eq, bne_iff_ne, beq_eq_false_iff_ne, false_or, or_false, true_and, and_true]; done) | (simp (disch := omega) only [decide_eq_true_eq, decide_eq_false_iff_not, Bool.not_eq_true', Bool.not_eq_false', Bool.and_eq_true, Bool.and_eq_false_iff, Int.not_lt, Int.not_le, ne_eq, not_false_eq_true, not_true_eq_false, reduceCtorEq, Bool.true_eq_false, Bool.false_eq_true, beq_iff_eq, bne_iff_ne, beq_eq_false_iff_ne, false_or, or_false, true_and, and_true] at hx; first | (exfalso; omega) | skip) | skip)
    | trivial
    | exact fit_ofL _ _
    | (simp (disch := omega) only [notAgg_v, notAgg_sl, plain_v, fits, fitsOne, fitsCells, xsOf, cell_zero, cell_succ, List.range, List.range.loop, List.map, cond_true, cond_false, D.v.injEq, exists_eq', exists_eq, and_self, and_true, true_and, D.agg.injEq, List.length, exists_eq_left', D.sl.injEq, reduceCtorEq, false_or, true_or, or_true, or_false, cell_zero, cell_succ, cell_v, cells_v, cells_agg, List.length_cons, List.length_nil]; done))
  all_goals first | rfl | exact ⟨_, rfl⟩ | fail

theorem vc_rtake (l : List Int) (a e : Int) (n : Int) : Cond Try.prog (fun _ => none) Try.f39 [.agg [str (l), .v (.int .i64 (a)), .v (.int .i64 (e))], .v (.int .i64 n)] [.agg [str (l), .v (.int .i64 ((cuF l a e n (decide (0 ≤ n))).1.1)), .v (.int .i64 ((cuF l a e n (decide (0 ≤ n))).1.2))], str (cuF l a e n (decide (0 ≤ n))).2] = (((∃ (cs : List D), D.agg [str l, D.v (Value.int IntKind.i64 a), D.v (Value.int IntKind.i64 e)] = D.agg cs ∧ cs.length = 3) ∧ NotAgg (D.v (Value.int IntKind.i64 n)) ∧ True) ∧ ∃ (r : D), D.bin BinOp.neq (D.v (Value.int IntKind.i64 e)) (D.v (Value.int IntKind.i64 0)) = some r ∧ ∃ (b : Bool), r = D.v (Value.bool b) ∧ (b = true → ((∃ (y : Value), str l = D.v y) ∧ (∃ (y : Value), D.v (Value.int IntKind.i64 a) = D.v y) ∧ (∃ (y : Value), D.v (Value.int IntKind.i64 e) = D.v y) ∧ True ∧ True) ∧ [D.agg [str l, D.v (Value.int IntKind.i64 a), D.v (Value.int IntKind.i64 e)], D.v (Value.string { data := { toList := [] } })] = [D.agg [str l, D.v (Value.int IntKind.i64 (cuF l a e n (decide (0 ≤ n))).fst.fst), D.v (Value.int IntKind.i64 (cuF l a e n (decide (0 ≤ n))).fst.snd)], str (cuF l a e n (decide (0 ≤ n))).2]) ∧ (b = false → ∃ (r : D), PureD Try.prog 50 [D.agg [str l, D.v (Value.int IntKind.i64 a), D.v (Value.int IntKind.i64 e)]] [r] ∧ fits [(false, [none])] [r] ∧ ∃ (r_1 : D), D.un UnOp.not r = some r_1 ∧ ∃ (b : Bool), r_1 = D.v (Value.bool b) ∧ (b = true → ((∃ (y : Value), str l = D.v y) ∧ (∃ (y : Value), D.v (Value.int IntKind.i64 a) = D.v y) ∧ True ∧ True ∧ True) ∧ [D.agg [str l, D.v (Value.int IntKind.i64 a), D.v (Value.int IntKind.i64 8)], D.v (Value.string { data := { toList := [] } })] = [D.agg [str l, D.v (Value.int IntKind.i64 (cuF l a e n (decide (0 ≤ n))).fst.fst), D.v (Value.int IntKind.i64 (cuF l a e n (decide (0 ≤ n))).fst.snd)], str (cuF l a e n (decide (0 ≤ n))).2]) ∧ (b = false → ∃ (r : D), D.bin BinOp.lss (D.v (Value.int IntKind.i64 n)) (D.v (Value.int IntKind.i64 0)) = some r ∧ ∃ (b : Bool), r = D.v (Value.bool b) ∧ (b = true → ((∃ (y : Value), str l = D.v y) ∧ (∃ (y : Value), D.v (Value.int IntKind.i64 a) = D.v y) ∧ True ∧ True ∧ True) ∧ [D.agg [str l, D.v (Value.int IntKind.i64 a), D.v (Value.int IntKind.i64 2)], D.v (Value.string { data := { toList := [] } })] = [D.agg [str l, D.v (Value.int IntKind.i64 (cuF l a e n (decide (0 ≤ n))).fst.fst), D.v (Value.int IntKind.i64 (cuF l a e n (decide (0 ≤ n))).fst.snd)], str (cuF l a e n (decide (0 ≤ n))).2]) ∧ (b = false → ∃ (r : D), PureD Try.prog 51 [D.agg [str l, D.v (Value.int IntKind.i64 a), D.v (Value.int IntKind.i64 e)]] [r] ∧ fits [(false, [none])] [r] ∧ ∃ (r_2 : D), D.bin BinOp.gtr (D.v (Value.int IntKind.i64 n)) r = some r_2 ∧ ∃ (b : Bool), r_2 = D.v (Value.bool b) ∧ (b = true → ((∃ (y : Value), str l = D.v y) ∧ (∃ (y : Value), D.v (Value.int IntKind.i64 a) = D.v y) ∧ True ∧ True ∧ True) ∧ [D.agg [str l, D.v (Value.int IntKind.i64 a), D.v (Value.int IntKind.i64 3)], D.v (Value.string { data := { toList := [] } })] = [D.agg [str l, D.v (Value.int IntKind.i64 (cuF l a e n (decide (0 ≤ n))).fst.fst), D.v (Value.int IntKind.i64 (cuF l a e n (decide (0 ≤ n))).fst.snd)], str (cuF l a e n (decide (0 ≤ n))).2]) ∧ (b = false → ∃ (r : D), D.bin BinOp.add (D.v (Value.int IntKind.i64 a)) (D.v (Value.int IntKind.i64 n)) = some r ∧ ∃ (r_3 : D), (str l).cutS (some (D.v (Value.int IntKind.i64 a))) (some r) = some r_3 ∧ ∃ (r : D), D.bin BinOp.add (D.v (Value.int IntKind.i64 a)) (D.v (Value.int IntKind.i64 n)) = some r ∧ ((∃ (y : Value), str l = D.v y) ∧ (∃ (y : Value), r = D.v y) ∧ (∃ (y : Value), D.v (Value.int IntKind.i64 e) = D.v y) ∧ (∃ (y : Value), r_3 = D.v y) ∧ True) ∧ [D.agg [str l, r, D.v (Value.int IntKind.i64 e)], r_3] = [D.agg [str l, D.v (Value.int IntKind.i64 (cuF l a e n (decide (0 ≤ n))).fst.fst), D.v (Value.int IntKind.i64 (cuF l a e n (decide (0 ≤ n))).fst.snd)], str (cuF l a e n (decide (0 ≤ n))).2]))))) := by kernel_rfl
set_option maxHeartbeats 4000000 in
theorem rtake (l : List Int) (a e : Int) (n : Int) (a0 : -9223372036854775808 ≤ a) (a1 : a ≤ 9223372036854775807) (hB : Bytes l) (hl : l.length ≤ 9223372036854775807) (n1 : n ≤ 9223372036854775807) : PureD Try.prog 39 [.agg [str (l), .v (.int .i64 (a)), .v (.int .i64 (e))], .v (.int .i64 n)] [.agg [str (l), .v (.int .i64 ((cuF l a e n (decide (0 ≤ n))).1.1)), .v (.int .i64 ((cuF l a e n (decide (0 ≤ n))).1.2))], str (cuF l a e n (decide (0 ≤ n))).2] := by
  refine pure_cond (Lp := (fun _ => none)) (by kernel_rfl) Try.func39 (by kernel_rfl) (by kernel_rfl) ?_
  rw [vc_rtake l a e n]
  have W := rin l a e
  have LF := rleft l a e a0 a1 hB hl
  by_cases he : e = 0
  · cases hw : wiF l a
    · have L : ∀ f, cuF l a e n f = ((a, 8), []) := fun f => by unfold cuF; rw [if_neg (by omega), if_pos hw]
      rw [hw] at W
      rw [L]
      repeat' (first
        | (refine ex_some (by simp (disch := omega) only [bin_shr, bin_shl, bin_and, bin_or, bin_xor, len_str, toStr_ofL, bin_add, bin_sub, bin_mul, bin_quo, bin_rem, bin_lss, bin_leq, bin_gtr, bin_geq, bin_eql, bin_neq, eqs_cn, eqs_ci, eqs_cb, eqs_cs, Option.map_some, lenT_ofL, lst_ofL, lstSz_ofL, chunk_one, lst_nil, lst_sl, lstSz_sl, lstSz_nil, Bool.and_true, Bool.true_and, Bool.and_false, Bool.false_and, beq_self_eq_true, beq_bb, bne_bb, un_not, un_neg, conv_int, min2_int, max2_int, w64, w32, wu8, wu16, wu32, wu64, tdiv_nn, tmod_nn, cell_zero, cell_succ, cell_v, cells_v, cells_agg, Bool.not_true, Bool.not_false, Int.reduceLT, Int.reduceLE, Int.reduceEq, Int.reduceNeg, Int.reduceAdd, Int.reduceSub, Int.reduceMul, intOf_v, decide_true, decide_false]; rfl) ?_)
        | (refine ex_bool ?_)
        | (exact notAgg_v _)
        | (refine ex_some K ?_)
        | (refine ⟨_, W, ?_⟩)
        | (refine ⟨_, LF, ?_⟩)
        | (refine And.intro ?_ ?_)
        | (intro hx; have hprop := (show ∀ (p : Prop), p → True from fun _ _ => True.intro) _ hx; clear hprop; first | (cases hx; done) | (exfalso; revert hx; simp (disch := omega) only [decide_eq_true_eq, decide_eq_false_iff_not, Bool.not_eq_true', Bool.not_eq_false', Bool.and_eq_true, Bool.and_eq_false_iff, Int.not_lt, Int.not_le, ne_eq, not_false_eq_true, not_true_eq_false, reduceCtorEq, Bool.true_eq_false, Bool.false_eq_true, beq_iff_eq, bne_iff_ne, beq_eq_false_iff_ne, false_or, or_false, true_and, and_true]; done) | (simp (disch := omega) only [decide_eq_true_eq, decide_eq_false_iff_not, Bool.not_eq_true', Bool.not_eq_false', Bool.and_eq_true, Bool.and_eq_false_iff, Int.not_lt, Int.not_le, ne_eq, not_false_eq_true, not_true_eq_false, reduceCtorEq, Bool.true_eq_false, Bool.false_eq_true, beq_iff_eq, bne_iff_ne, beq_eq_false_iff_ne, false_or, or_false, true_and, and_true] at hx; first | (exfalso; omega) | skip) | skip)
        | trivial
        | exact fit_ofL _ _
        | (simp (disch := omega) only [notAgg_v, notAgg_sl, plain_v, fits, fitsOne, fitsCells, xsOf, cell_zero, cell_succ, List.range, List.range.loop, List.map, cond_true, cond_false, D.v.injEq, exists_eq', exists_eq, and_self, and_true, true_and, D.agg.injEq, List.length, exists_eq_left', D.sl.injEq, reduceCtorEq, false_or, true_or, or_true, or_false, cell_zero, cell_succ, cell_v, cells_v, cells_agg, List.length_cons, List.length_nil]; done))
      all_goals first | (exfalso; omega) | exact ⟨_, rfl⟩ | rfl | (simp; done) | fail
    · have hw2 : 0 ≤ a ∧ a ≤ (l.length : Nat) := by simpa [wiF] using hw
      rw [hw] at W
      rw [show leF l a e = (l.length : Nat) - a from if_pos ⟨he, hw⟩] at LF
      by_cases hn : 0 ≤ n
      · rw [decide_eq_true hn]
        by_cases hc : n > (l.length : Nat) - a
        · have L : cuF l a e n true = ((a, 3), []) := by unfold cuF; rw [if_neg (by omega), if_neg (by rw [hw]; simp), if_neg (by simp), if_pos hc]
          rw [L]
          repeat' (first
            | (refine ex_some (by simp (disch := omega) only [bin_shr, bin_shl, bin_and, bin_or, bin_xor, len_str, toStr_ofL, bin_add, bin_sub, bin_mul, bin_quo, bin_rem, bin_lss, bin_leq, bin_gtr, bin_geq, bin_eql, bin_neq, eqs_cn, eqs_ci, eqs_cb, eqs_cs, Option.map_some, lenT_ofL, lst_ofL, lstSz_ofL, chunk_one, lst_nil, lst_sl, lstSz_sl, lstSz_nil, Bool.and_true, Bool.true_and, Bool.and_false, Bool.false_and, beq_self_eq_true, beq_bb, bne_bb, un_not, un_neg, conv_int, min2_int, max2_int, w64, w32, wu8, wu16, wu32, wu64, tdiv_nn, tmod_nn, cell_zero, cell_succ, cell_v, cells_v, cells_agg, Bool.not_true, Bool.not_false, Int.reduceLT, Int.reduceLE, Int.reduceEq, Int.reduceNeg, Int.reduceAdd, Int.reduceSub, Int.reduceMul, intOf_v, decide_true, decide_false]; rfl) ?_)
            | (refine ex_bool ?_)
            | (exact notAgg_v _)
            | (refine ex_some K ?_)
            | (refine ⟨_, W, ?_⟩)
            | (refine ⟨_, LF, ?_⟩)
            | (refine And.intro ?_ ?_)
            | (intro hx; have hprop := (show ∀ (p : Prop), p → True from fun _ _ => True.intro) _ hx; clear hprop; first | (cases hx; done) | (exfalso; revert hx; simp (disch := omega) only [decide_eq_true_eq, decide_eq_false_iff_not, Bool.not_eq_true', Bool.not_eq_false', Bool.and_eq_true, Bool.and_eq_false_iff, Int.not_lt, Int.not_le, ne_eq, not_false_eq_true, not_true_eq_false, reduceCtorEq, Bool.true_eq_false, Bool.false_eq_true, beq_iff_eq, bne_iff_ne, beq_eq_false_iff_ne, false_or, or_false, true_and, and_true]; done) | (simp (disch := omega) only [decide_eq_true_eq, decide_eq_false_iff_not, Bool.not_eq_true', Bool.not_eq_false', Bool.and_eq_true, Bool.and_eq_false_iff, Int.not_lt, Int.not_le, ne_eq, not_false_eq_true, not_true_eq_false, reduceCtorEq, Bool.true_eq_false, Bool.false_eq_true, beq_iff_eq, bne_iff_ne, beq_eq_false_iff_ne, false_or, or_false, true_and, and_true] at hx; first | (exfalso; omega) | skip) | skip)
            | trivial
            | exact fit_ofL _ _
            | (simp (disch := omega) only [notAgg_v, notAgg_sl, plain_v, fits, fitsOne, fitsCells, xsOf, cell_zero, cell_succ, List.range, List.range.loop, List.map, cond_true, cond_false, D.v.injEq, exists_eq', exists_eq, and_self, and_true, true_and, D.agg.injEq, List.length, exists_eq_left', D.sl.injEq, reduceCtorEq, false_or, true_or, or_true, or_false, cell_zero, cell_succ, cell_v, cells_v, cells_agg, List.length_cons, List.length_nil]; done))
          all_goals first | (exfalso; omega) | exact ⟨_, rfl⟩ | rfl | (simp; done) | fail
        · have L : cuF l a e n true = ((a + n, e), (l.drop a.toNat).take n.toNat) := by unfold cuF; rw [if_neg (by omega), if_neg (by rw [hw]; simp), if_neg (by simp), if_neg hc]
          have K := cutS_str l (dl := some (.v (.int .i64 a))) (dh := some (.v (.int .i64 (a + n)))) (a := a) (b := a + n) rfl rfl (by omega) (by omega) (by omega)
          rw [show (a + n).toNat - a.toNat = n.toNat by omega] at K
          rw [L]
          repeat' (first
            | (refine ex_some (by simp (disch := omega) only [bin_shr, bin_shl, bin_and, bin_or, bin_xor, len_str, toStr_ofL, bin_add, bin_sub, bin_mul, bin_quo, bin_rem, bin_lss, bin_leq, bin_gtr, bin_geq, bin_eql, bin_neq, eqs_cn, eqs_ci, eqs_cb, eqs_cs, Option.map_some, lenT_ofL, lst_ofL, lstSz_ofL, chunk_one, lst_nil, lst_sl, lstSz_sl, lstSz_nil, Bool.and_true, Bool.true_and, Bool.and_false, Bool.false_and, beq_self_eq_true, beq_bb, bne_bb, un_not, un_neg, conv_int, min2_int, max2_int, w64, w32, wu8, wu16, wu32, wu64, tdiv_nn, tmod_nn, cell_zero, cell_succ, cell_v, cells_v, cells_agg, Bool.not_true, Bool.not_false, Int.reduceLT, Int.reduceLE, Int.reduceEq, Int.reduceNeg, Int.reduceAdd, Int.reduceSub, Int.reduceMul, intOf_v, decide_true, decide_false]; rfl) ?_)
            | (refine ex_bool ?_)
            | (exact notAgg_v _)
            | (refine ex_some K ?_)
            | (refine ⟨_, W, ?_⟩)
            | (refine ⟨_, LF, ?_⟩)
            | (refine And.intro ?_ ?_)
            | (intro hx; have hprop := (show ∀ (p : Prop), p → True from fun _ _ => True.intro) _ hx; clear hprop; first | (cases hx; done) | (exfalso; revert hx; simp (disch := omega) only [decide_eq_true_eq, decide_eq_false_iff_not, Bool.not_eq_true', Bool.not_eq_false', Bool.and_eq_true, Bool.and_eq_false_iff, Int.not_lt, Int.not_le, ne_eq, not_false_eq_true, not_true_eq_false, reduceCtorEq, Bool.true_eq_false, Bool.false_eq_true, beq_iff_eq, bne_iff_ne, beq_eq_false_iff_ne, false_or, or_false, true_and, and_true]; done) | (simp (disch := omega) only [decide_eq_true_eq, decide_eq_false_iff_not, Bool.not_eq_true', Bool.not_eq_false', Bool.and_eq_true, Bool.and_eq_false_iff, Int.not_lt, Int.not_le, ne_eq, not_false_eq_true, not_true_eq_false, reduceCtorEq, Bool.true_eq_false, Bool.false_eq_true, beq_iff_eq, bne_iff_ne, beq_eq_false_iff_ne, false_or, or_false, true_and, and_true] at hx; first | (exfalso; omega) | skip) | skip)
            | trivial
            | exact fit_ofL _ _
            | (simp (disch := omega) only [notAgg_v, notAgg_sl, plain_v, fits, fitsOne, fitsCells, xsOf, cell_zero, cell_succ, List.range, List.range.loop, List.map, cond_true, cond_false, D.v.injEq, exists_eq', exists_eq, and_self, and_true, true_and, D.agg.injEq, List.length, exists_eq_left', D.sl.injEq, reduceCtorEq, false_or, true_or, or_true, or_false, cell_zero, cell_succ, cell_v, cells_v, cells_agg, List.length_cons, List.length_nil]; done))
          all_goals first | (exfalso; omega) | exact ⟨_, rfl⟩ | rfl | (simp; done) | fail
      · rw [decide_eq_false hn]
        have L : cuF l a e n false = ((a, 2), []) := by unfold cuF; rw [if_neg (by omega), if_neg (by rw [hw]; simp), if_pos rfl]
        rw [L]
        repeat' (first
          | (refine ex_some (by simp (disch := omega) only [bin_shr, bin_shl, bin_and, bin_or, bin_xor, len_str, toStr_ofL, bin_add, bin_sub, bin_mul, bin_quo, bin_rem, bin_lss, bin_leq, bin_gtr, bin_geq, bin_eql, bin_neq, eqs_cn, eqs_ci, eqs_cb, eqs_cs, Option.map_some, lenT_ofL, lst_ofL, lstSz_ofL, chunk_one, lst_nil, lst_sl, lstSz_sl, lstSz_nil, Bool.and_true, Bool.true_and, Bool.and_false, Bool.false_and, beq_self_eq_true, beq_bb, bne_bb, un_not, un_neg, conv_int, min2_int, max2_int, w64, w32, wu8, wu16, wu32, wu64, tdiv_nn, tmod_nn, cell_zero, cell_succ, cell_v, cells_v, cells_agg, Bool.not_true, Bool.not_false, Int.reduceLT, Int.reduceLE, Int.reduceEq, Int.reduceNeg, Int.reduceAdd, Int.reduceSub, Int.reduceMul, intOf_v, decide_true, decide_false]; rfl) ?_)
          | (refine ex_bool ?_)
          | (exact notAgg_v _)
          | (refine ex_some K ?_)
          | (refine ⟨_, W, ?_⟩)
          | (refine ⟨_, LF, ?_⟩)
          | (refine And.intro ?_ ?_)
          | (intro hx; have hprop := (show ∀ (p : Prop), p → True from fun _ _ => True.intro) _ hx; clear hprop; first | (cases hx; done) | (exfalso; revert hx; simp (disch := omega) only [decide_eq_true_eq, decide_eq_false_iff_not, Bool.not_eq_true', Bool.not_eq_false', Bool.and_eq_true, Bool.and_eq_false_iff, Int.not_lt, Int.not_le, ne_eq, not_false_eq_true, not_true_eq_false, reduceCtorEq, Bool.true_eq_false, Bool.false_eq_true, beq_iff_eq, bne_iff_ne, beq_eq_false_iff_ne, false_or, or_false, true_and, and_true]; done) | (simp (disch := omega) only [decide_eq_true_eq, decide_eq_false_iff_not, Bool.not_eq_true', Bool.not_eq_false', Bool.and_eq_true, Bool.and_eq_false_iff, Int.not_lt, Int.not_le, ne_eq, not_false_eq_true, not_true_eq_false, reduceCtorEq, Bool.true_eq_false, Bool.false_eq_true, beq_iff_eq, bne_iff_ne, beq_eq_false_iff_ne, false_or, or_false, true_and, and_true] at hx; first | (exfalso; omega) | skip) | skip)
          | trivial
          | exact fit_ofL _ _
          | (simp (disch := omega) only [notAgg_v, notAgg_sl, plain_v, fits, fitsOne, fitsCells, xsOf, cell_zero, cell_succ, List.range, List.range.loop, List.map, cond_true, cond_false, D.v.injEq, exists_eq', exists_eq, and_self, and_true, true_and, D.agg.injEq, List.length, exists_eq_left', D.sl.injEq, reduceCtorEq, false_or, true_or, or_true, or_false, cell_zero, cell_succ, cell_v, cells_v, cells_agg, List.length_cons, List.length_nil]; done))
        all_goals first | (exfalso; omega) | exact ⟨_, rfl⟩ | rfl | (simp; done) | fail
  · have L : ∀ f, cuF l a e n f = ((a, e), []) := fun f => by unfold cuF; rw [if_pos he]
    rw [L]
    repeat' (first
      | (refine ex_some (by simp (disch := omega) only [bin_shr, bin_shl, bin_and, bin_or, bin_xor, len_str, toStr_ofL, bin_add, bin_sub, bin_mul, bin_quo, bin_rem, bin_lss, bin_leq, bin_gtr, bin_geq, bin_eql, bin_neq, eqs_cn, eqs_ci, eqs_cb, eqs_cs, Option.map_some, lenT_ofL, lst_ofL, lstSz_ofL, chunk_one, lst_nil, lst_sl, lstSz_sl, lstSz_nil, Bool.and_true, Bool.true_and, Bool.and_false, Bool.false_and, beq_self_eq_true, beq_bb, bne_bb, un_not, un_neg, conv_int, min2_int, max2_int, w64, w32, wu8, wu16, wu32, wu64, tdiv_nn, tmod_nn, cell_zero, cell_succ, cell_v, cells_v, cells_agg, Bool.not_true, Bool.not_false, Int.reduceLT, Int.reduceLE, Int.reduceEq, Int.reduceNeg, Int.reduceAdd, Int.reduceSub, Int.reduceMul, intOf_v, decide_true, decide_false]; rfl) ?_)
      | (refine ex_bool ?_)
      | (exact notAgg_v _)
      | (refine ex_some K ?_)
      | (refine ⟨_, W, ?_⟩)
      | (refine ⟨_, LF, ?_⟩)
      | (refine And.intro ?_ ?_)
      | (intro hx; have hprop := (show ∀ (p : Prop), p → True from fun _ _ => True.intro) _ hx; clear hprop; first | (cases hx; done) | (exfalso; revert hx; simp (disch := omega) only [decide_eq_true_eq, decide_eq_false_iff_not, Bool.not_eq_true', Bool.not_eq_false', Bool.and_eq_true, Bool.and_eq_false_iff, Int.not_lt, Int.not_le, ne_eq, not_false_eq_true, not_true_eq_false, reduceCtorEq, Bool.true_eq_false, Bool.false_eq_true, beq_iff_eq, bne_iff_ne, beq_eq_false_iff_ne, false_or, or_false, true_and, and_true]; done) | (simp (disch := omega) only [decide_eq_true_eq, decide_eq_false_iff_not, Bool.not_eq_true', Bool.not_eq_false', Bool.and_eq_true, Bool.and_eq_false_iff, Int.not_lt, Int.not_le, ne_eq, not_false_eq_true, not_true_eq_false, reduceCtorEq, Bool.true_eq_false, Bool.false_eq_true, beq_iff_eq, bne_iff_ne, beq_eq_false_iff_ne, false_or, or_false, true_and, and_true] at hx; first | (exfalso; omega) | skip) | skip)
      | trivial
      | exact fit_ofL _ _
      | (simp (disch := omega) only [notAgg_v, notAgg_sl, plain_v, fits, fitsOne, fitsCells, xsOf, cell_zero, cell_succ, List.range, List.range.loop, List.map, cond_true, cond_false, D.v.injEq, exists_eq', exists_eq, and_self, and_true, true_and, D.agg.injEq, List.length, exists_eq_left', D.sl.injEq, reduceCtorEq, false_or, true_or, or_true, or_false, cell_zero, cell_succ, cell_v, cells_v, cells_agg, List.length_cons, List.length_nil]; done))
    all_goals first | (exfalso; omega) | exact ⟨_, rfl⟩ | rfl | (simp; done) | fail

theorem vc_rfits (n : Int) (w : Nat) : Cond Try.prog (fun k => if k = 4 then some ⟨[5, 0], [], [1], []⟩ else none) Try.f43 [.v (.int .i64 n), .v (.int .i64 (w : Nat))] [.v (.bool (decide (n / 256 ^ w = 0)))] = ((NotAgg (D.v (Value.int IntKind.i64 n)) ∧ NotAgg (D.v (Value.int IntKind.i64 ↑w)) ∧ True) ∧ ∃ (r : D), D.bin BinOp.lss (D.v (Value.int IntKind.i64 n)) (D.v (Value.int IntKind.i64 0)) = some r ∧ ∃ (b : Bool), r = D.v (Value.bool b) ∧ (b = false → ∃ (r : D), D.bin BinOp.lss (D.v (Value.int IntKind.i64 ↑w)) (D.v (Value.int IntKind.i64 1)) = some r ∧ ∃ (b : Bool), r = D.v (Value.bool b) ∧ (b = false → ∃ (r : D), D.bin BinOp.gtr (D.v (Value.int IntKind.i64 ↑w)) (D.v (Value.int IntKind.i64 7)) = some r ∧ ∃ (b : Bool), r = D.v (Value.bool b) ∧ (b = true → (True ∧ True) ∧ [D.v (Value.bool false)] = [D.v (Value.bool (Decidable.rec (fun (h : ¬n / 256 ^ w = 0) ↦ (fun (x : ¬n / 256 ^ w = 0) ↦ false) h) (fun (h : n / 256 ^ w = 0) ↦ (fun (x : n / 256 ^ w = 0) ↦ true) h) ((n / 256 ^ w).instDecidableEq 0)))]) ∧ (b = false → ∃ (I : List D → Prop), ∃ (μ : List D → Nat), ((D.v (Value.int IntKind.i64 0) = D.v (Value.int IntKind.i64 0) ∧ D.v (Value.int IntKind.i64 n) = D.v (Value.int IntKind.i64 n) ∧ D.v (Value.int IntKind.i64 ↑w) = D.v (Value.int IntKind.i64 ↑w) ∧ True) ∧ True ∧ I [D.v (Value.int IntKind.i64 0), D.v (Value.int IntKind.i64 n)]) ∧ ∀ (r r_1 : D), I [r, r_1] → ∃ (r_2 : D), D.bin BinOp.lss r (D.v (Value.int IntKind.i64 ↑w)) = some r_2 ∧ ∃ (b : Bool), r_2 = D.v (Value.bool b) ∧ (b = true → ∃ (r_3 : D), D.bin BinOp.quo r_1 (D.v (Value.int IntKind.i64 256)) = some r_3 ∧ ∃ (r_4 : D), D.bin BinOp.add r (D.v (Value.int IntKind.i64 1)) = some r_4 ∧ (r_4 = r_4 ∧ r_3 = r_3 ∧ D.v (Value.int IntKind.i64 ↑w) = D.v (Value.int IntKind.i64 ↑w) ∧ True) ∧ True ∧ I [r_4, r_3] ∧ μ [r_4, r_3] < μ [r, r_1]) ∧ (b = false → ∃ (r : D), D.bin BinOp.eql r_1 (D.v (Value.int IntKind.i64 0)) = some r ∧ ((∃ (y : Value), r = D.v y) ∧ True) ∧ [r] = [D.v (Value.bool (Decidable.rec (fun (h : ¬n / 256 ^ w = 0) ↦ (fun (x : ¬n / 256 ^ w = 0) ↦ false) h) (fun (h : n / 256 ^ w = 0) ↦ (fun (x : n / 256 ^ w = 0) ↦ true) h) ((n / 256 ^ w).instDecidableEq 0)))]))) ∧ (b = true → (True ∧ True) ∧ [D.v (Value.bool false)] = [D.v (Value.bool (Decidable.rec (fun (h : ¬n / 256 ^ w = 0) ↦ (fun (x : ¬n / 256 ^ w = 0) ↦ false) h) (fun (h : n / 256 ^ w = 0) ↦ (fun (x : n / 256 ^ w = 0) ↦ true) h) ((n / 256 ^ w).instDecidableEq 0)))])) ∧ (b = true → (True ∧ True) ∧ [D.v (Value.bool false)] = [D.v (Value.bool (Decidable.rec (fun (h : ¬n / 256 ^ w = 0) ↦ (fun (x : ¬n / 256 ^ w = 0) ↦ false) h) (fun (h : n / 256 ^ w = 0) ↦ (fun (x : n / 256 ^ w = 0) ↦ true) h) ((n / 256 ^ w).instDecidableEq 0)))])) := by kernel_rfl
set_option maxHeartbeats 4000000 in
theorem rfits (n : Int) (w : Nat) (n0 : 0 ≤ n) (nb : n < 9223372036854775808) (w1 : 1 ≤ w) (w2 : w ≤ 7) : PureD Try.prog 43 [.v (.int .i64 n), .v (.int .i64 (w : Nat))] [.v (.bool (decide (n / 256 ^ w = 0)))] := by
  refine pure_cond (Lp := (fun k => if k = 4 then some ⟨[5, 0], [], [1], []⟩ else none)) (by kernel_rfl) Try.func43 (by kernel_rfl) (by kernel_rfl) ?_
  rw [vc_rfits n w]
  repeat' (first
    | (refine ex_some (by simp (disch := omega) only [bin_shr, bin_shl, bin_and, bin_or, bin_xor, len_str, toStr_ofL, bin_add, bin_sub, bin_mul, bin_quo, bin_rem, bin_lss, bin_leq, bin_gtr, bin_geq, bin_eql, bin_neq, eqs_cn, eqs_ci, eqs_cb, eqs_cs, Option.map_some, lenT_ofL, lst_ofL, lstSz_ofL, chunk_one, lst_nil, lst_sl, lstSz_sl, lstSz_nil, Bool.and_true, Bool.true_and, Bool.and_false, Bool.false_and, beq_self_eq_true, beq_bb, bne_bb, un_not, un_neg, conv_int, min2_int, max2_int, w64, w32, wu8, wu16, wu32, wu64, tdiv_nn, tmod_nn, cell_zero, cell_succ, cell_v, cells_v, cells_agg, Bool.not_true, Bool.not_false, Int.reduceLT, Int.reduceLE, Int.reduceEq, Int.reduceNeg, Int.reduceAdd, Int.reduceSub, Int.reduceMul, intOf_v, decide_true, decide_false]; rfl) ?_)
    | (refine ex_bool ?_)
    | (refine ⟨(fun r => ∃ k : Nat, k ≤ w ∧ r = [.v (.int .i64 (k : Nat)), .v (.int .i64 (n / 256 ^ k))]), leftG w, ?_⟩)
    | (refine fun (r2 r3 : D) (hI : (fun r => ∃ k : Nat, k ≤ w ∧ r = [.v (.int .i64 (k : Nat)), .v (.int .i64 (n / 256 ^ k))]) [r2, r3]) => ?_; obtain ⟨k, hk, hl0⟩ := hI; simp only [List.cons.injEq, and_true] at hl0; obtain ⟨rfl, rfl⟩ := hl0; by_cases hlt : k < w <;> first | (have hk1 : k < w := (by omega); have hd := div_pow n k; have hnn := nn_div n0 k; have hle := le_div n0 k; generalize n / 256 ^ k = q at hd hnn hle; have inl : True := trivial) | (have hkk : k = w := (by omega); subst hkk; have hnn := nn_div n0 k; have hle := le_div n0 k; have inl2 : True := trivial))
    | (have := inl; refine ⟨k + 1, by omega, ?_⟩)
    | (refine ⟨0, Nat.zero_le _, by simp⟩)
    | (refine And.intro ?_ ?_)
    | (intro hx; have hprop := (show ∀ (p : Prop), p → True from fun _ _ => True.intro) _ hx; clear hprop; first | (cases hx; done) | (exfalso; revert hx; simp (disch := omega) only [decide_eq_true_eq, decide_eq_false_iff_not, Bool.not_eq_true', Bool.not_eq_false', Bool.and_eq_true, Bool.and_eq_false_iff, Int.not_lt, Int.not_le, ne_eq, not_false_eq_true, not_true_eq_false, reduceCtorEq, Bool.true_eq_false, Bool.false_eq_true, beq_iff_eq, bne_iff_ne, beq_eq_false_iff_ne, false_or, or_false, true_and, and_true]; done) | (simp (disch := omega) only [decide_eq_true_eq, decide_eq_false_iff_not, Bool.not_eq_true', Bool.not_eq_false', Bool.and_eq_true, Bool.and_eq_false_iff, Int.not_lt, Int.not_le, ne_eq, not_false_eq_true, not_true_eq_false, reduceCtorEq, Bool.true_eq_false, Bool.false_eq_true, beq_iff_eq, bne_iff_ne, beq_eq_false_iff_ne, false_or, or_false, true_and, and_true] at hx; first | (exfalso; omega) | skip) | skip)
    | trivial
    | exact fit_ofL _ _
    | (simp (disch := omega) only [notAgg_v, notAgg_sl, plain_v, fits, fitsOne, fitsCells, xsOf, cell_zero, cell_succ, List.range, List.range.loop, List.map, cond_true, cond_false, D.v.injEq, exists_eq', exists_eq, and_self, and_true, true_and, D.agg.injEq, List.length, exists_eq_left', D.sl.injEq, reduceCtorEq, false_or, true_or, or_true, or_false, cell_zero, cell_succ, cell_v, cells_v, cells_agg, List.length_cons, List.length_nil]; done))
  all_goals first
    | (exfalso; omega)
    | exact ⟨_, rfl⟩
    | omega
    | exact fit_ofL _ _
    | exact .inr ⟨_, rfl⟩
    | exact plain_ofL (ints_plain _ _)
    | exact plain_sl (ints_plain _ _)
    | (simp only [leftG]; omega)
    | rfl
    | (rw [← hd]; done)
    | (rw [← hd]; rfl)
    | (congr 4; done)
    | (simp; done)
    | fail

theorem vc_rlay (y : D) (bs : List Int) (n : Int) (w : Nat) : Cond Try.prog (fun k => if k = 5 then some ⟨[8, 1], [7], [0, 2], []⟩ else none) Try.f26 [y, .v (.int .i64 n), .v (.int .i64 (w : Nat))] [ofL 1 (ints .u8 (bs ++ be n w))] = ((NotAgg y ∧ NotAgg (D.v (Value.int IntKind.i64 n)) ∧ NotAgg (D.v (Value.int IntKind.i64 ↑w)) ∧ True) ∧ ∃ (r : D), PureD Try.prog 43 [D.v (Value.int IntKind.i64 n), D.v (Value.int IntKind.i64 ↑w)] [r] ∧ fits [(false, [none])] [r] ∧ ∃ (r_1 : D), D.un UnOp.not r = some r_1 ∧ ∃ (b : Bool), r_1 = D.v (Value.bool b) ∧ (b = true → ((∃ (y_1 : Value), y = D.v y_1) ∧ True) ∧ [y] = [ofL 1 (ints IntKind.u8 (bs.append (be n w)))]) ∧ (b = false → ∃ (I : List D → Prop), ∃ (μ : List D → Nat), ((D.v (Value.int IntKind.i64 0) = D.v (Value.int IntKind.i64 0) ∧ D.v (Value.int IntKind.i64 n) = D.v (Value.int IntKind.i64 n) ∧ true = true ∧ y = y ∧ D.v (Value.int IntKind.i64 ↑w) = D.v (Value.int IntKind.i64 ↑w) ∧ True) ∧ ((true = true ∧ D.v nilS = D.v nilS) ∧ True) ∧ I [D.v (Value.int IntKind.i64 0), D.v (Value.int IntKind.i64 n), D.v nilS]) ∧ ∀ (r r_2 r_3 : D), I [r, r_2, r_3] → ∃ (r_4 : D), D.bin BinOp.lss r (D.v (Value.int IntKind.i64 ↑w)) = some r_4 ∧ ∃ (b : Bool), r_4 = D.v (Value.bool b) ∧ (b = true → ∃ (r_5 : D), D.bin BinOp.rem r_2 (D.v (Value.int IntKind.i64 256)) = some r_5 ∧ ∃ (r_6 : D), D.conv IntKind.u8 r_5 = some r_6 ∧ ∃ (ls : List D), (D.sl 1 (chunks false 1 1 [r_6])).lst = some ls ∧ ∃ (lx : List D), D.lstSz 1 r_3 = some lx ∧ (ls.length + lx.length) * 1 ≤ 1099511627776 ∧ ∃ (r_7 : D), D.bin BinOp.quo r_2 (D.v (Value.int IntKind.i64 256)) = some r_7 ∧ ∃ (r_8 : D), D.bin BinOp.add r (D.v (Value.int IntKind.i64 1)) = some r_8 ∧ (r_8 = r_8 ∧ r_7 = r_7 ∧ true = true ∧ y = y ∧ D.v (Value.int IntKind.i64 ↑w) = D.v (Value.int IntKind.i64 ↑w) ∧ True) ∧ ((true = true ∧ D.app 1 (D.sl 1 (chunks false 1 1 [r_6])) lx = D.app 1 (D.sl 1 (chunks false 1 1 [r_6])) lx) ∧ True) ∧ I [r_8, r_7, D.app 1 (D.sl 1 (chunks false 1 1 [r_6])) lx] ∧ μ [r_8, r_7, D.app 1 (D.sl 1 (chunks false 1 1 [r_6])) lx] < μ [r, r_2, r_3]) ∧ (b = false → ∃ (ls : List D), (D.v nilS).lst = some ls ∧ ∃ (lx : List D), D.lstSz 1 y = some lx ∧ (ls.length + lx.length) * 1 ≤ 1099511627776 ∧ ∃ (ls : List D), (D.app 1 (D.v nilS) lx).lst = some ls ∧ ∃ (lx_1 : List D), D.lstSz 1 r_3 = some lx_1 ∧ (ls.length + lx_1.length) * 1 ≤ 1099511627776 ∧ (PlainD (D.app 1 (D.app 1 (D.v nilS) lx) lx_1) ∧ True) ∧ [D.app 1 (D.app 1 (D.v nilS) lx) lx_1] = [ofL 1 (ints IntKind.u8 (bs.append (be n w)))]))) := by kernel_rfl
set_option maxHeartbeats 4000000 in
theorem rlay (y : D) (bs : List Int) (n : Int) (w : Nat) (hY : IsL 1 (ints .u8 bs) y) (hbl : bs.length ≤ 100000) (n0 : 0 ≤ n) (nb : n < 9223372036854775808) (w1 : 1 ≤ w) (w2 : w ≤ 7) (hf : n / 256 ^ w = 0) : PureD Try.prog 26 [y, .v (.int .i64 n), .v (.int .i64 (w : Nat))] [ofL 1 (ints .u8 (bs ++ be n w))] := by
  refine pure_cond (Lp := (fun k => if k = 5 then some ⟨[8, 1], [7], [0, 2], []⟩ else none)) (by kernel_rfl) Try.func26 (by kernel_rfl) (by kernel_rfl) ?_
  rw [vc_rlay y bs n w]
  have C1 := rfits n w n0 nb w1 w2
  rw [decide_eq_true hf] at C1
  have hZ := hY.lstSz
  have hA : D.app 1 (.v nilS) (ints .u8 bs) = ofL 1 (ints .u8 bs) := app_nil _ _
  have hB : ∀ w, D.app 1 (D.app 1 (.v nilS) (ints .u8 bs)) (ints .u8 (be n w)) = ofL 1 (ints .u8 (bs ++ be n w)) := fun w => by rw [hA, app_ofL]; simp [ints]
  simp only [hY.notAgg, hZ, Option.some.injEq, exists_eq_left']
  repeat' (first
    | (refine ex_some (by simp (disch := omega) only [bin_shr, bin_shl, bin_and, bin_or, bin_xor, len_str, toStr_ofL, bin_add, bin_sub, bin_mul, bin_quo, bin_rem, bin_lss, bin_leq, bin_gtr, bin_geq, bin_eql, bin_neq, eqs_cn, eqs_ci, eqs_cb, eqs_cs, Option.map_some, lenT_ofL, lst_ofL, lstSz_ofL, chunk_one, lst_nil, lst_sl, lstSz_sl, lstSz_nil, Bool.and_true, Bool.true_and, Bool.and_false, Bool.false_and, beq_self_eq_true, beq_bb, bne_bb, un_not, un_neg, conv_int, min2_int, max2_int, w64, w32, wu8, wu16, wu32, wu64, tdiv_nn, tmod_nn, cell_zero, cell_succ, cell_v, cells_v, cells_agg, Bool.not_true, Bool.not_false, Int.reduceLT, Int.reduceLE, Int.reduceEq, Int.reduceNeg, Int.reduceAdd, Int.reduceSub, Int.reduceMul, intOf_v, decide_true, decide_false, lst_ofL, lstSz_ofL, app_ofL, app_nil, wrap8]; rfl) ?_)
    | (refine ex_bool ?_)
    | (refine ⟨_, C1, ?_⟩)
    | (refine ⟨(fun r => ∃ k : Nat, k ≤ w ∧ r = [.v (.int .i64 (k : Nat)), .v (.int .i64 (n / 256 ^ k)), ofL 1 (ints .u8 ((be n w).drop (w - k)))]), leftG w, ?_⟩)
    | (refine fun (r2 r3 r4 : D) (hI : (fun r => ∃ k : Nat, k ≤ w ∧ r = [.v (.int .i64 (k : Nat)), .v (.int .i64 (n / 256 ^ k)), ofL 1 (ints .u8 ((be n w).drop (w - k)))]) [r2, r3, r4]) => ?_; obtain ⟨k, hk, hl0⟩ := hI; simp only [List.cons.injEq, and_true] at hl0; obtain ⟨rfl, rfl, rfl⟩ := hl0; by_cases hlt : k < w <;> first | (have hk1 : k < w := (by omega); have hd := div_pow n k; have hnn := nn_div n0 k; have hle := le_div n0 k; have hb := be_last n w k hk1; generalize n / 256 ^ k = q at hd hnn hle hb; have hll : ((be n w).drop (w - k)).length ≤ 8 := (by rw [List.length_drop, be_len]; omega); have inl : True := trivial) | (have hkk : k = w := (by omega); subst hkk; rw [Nat.sub_self, List.drop_zero]; have inl2 : True := trivial))
    | (have := inl; refine ⟨k + 1, by omega, ?_⟩)
    | (refine ⟨0, Nat.zero_le _, ?_⟩)
    | (refine And.intro ?_ ?_)
    | (intro hx; have hprop := (show ∀ (p : Prop), p → True from fun _ _ => True.intro) _ hx; clear hprop; first | (cases hx; done) | (exfalso; revert hx; simp (disch := omega) only [decide_eq_true_eq, decide_eq_false_iff_not, Bool.not_eq_true', Bool.not_eq_false', Bool.and_eq_true, Bool.and_eq_false_iff, Int.not_lt, Int.not_le, ne_eq, not_false_eq_true, not_true_eq_false, reduceCtorEq, Bool.true_eq_false, Bool.false_eq_true, beq_iff_eq, bne_iff_ne, beq_eq_false_iff_ne, false_or, or_false, true_and, and_true, lst_ofL, lstSz_ofL, app_ofL, app_nil, wrap8]; done) | (simp (disch := omega) only [decide_eq_true_eq, decide_eq_false_iff_not, Bool.not_eq_true', Bool.not_eq_false', Bool.and_eq_true, Bool.and_eq_false_iff, Int.not_lt, Int.not_le, ne_eq, not_false_eq_true, not_true_eq_false, reduceCtorEq, Bool.true_eq_false, Bool.false_eq_true, beq_iff_eq, bne_iff_ne, beq_eq_false_iff_ne, false_or, or_false, true_and, and_true, lst_ofL, lstSz_ofL, app_ofL, app_nil, wrap8] at hx; first | (exfalso; omega) | skip) | skip)
    | trivial
    | exact fit_ofL _ _
    | (simp (disch := omega) only [notAgg_v, notAgg_sl, plain_v, fits, fitsOne, fitsCells, xsOf, cell_zero, cell_succ, List.range, List.range.loop, List.map, cond_true, cond_false, D.v.injEq, exists_eq', exists_eq, and_self, and_true, true_and, D.agg.injEq, List.length, exists_eq_left', D.sl.injEq, reduceCtorEq, false_or, true_or, or_true, or_false, cell_zero, cell_succ, cell_v, cells_v, cells_agg, List.length_cons, List.length_nil, lst_ofL, lstSz_ofL, app_ofL, app_nil, wrap8]; done))
  all_goals first
    | (exfalso; omega)
    | exact ⟨_, rfl⟩
    | omega
    | exact fit_ofL _ _
    | exact .inr ⟨_, rfl⟩
    | exact plain_ofL (ints_plain _ _)
    | exact plain_sl (ints_plain _ _)
    | (simp only [leftG]; omega)
    | rfl
    | (simp only [ints_length, List.length_append, List.length_cons, List.length_nil, be_len]; omega)
    | (rw [hb, ← hd]; rfl)
    | (rw [hB]; exact plain_ofL (ints_plain _ _))
    | (rw [hB]; rfl)
    | (rw [show w - 0 = w from rfl, List.drop_of_length_le (by rw [be_len]; exact Nat.le_refl _)]; simp [ints, ofL]; done)
    | (simp; done)
    | fail

end Go.Proofs.Ytioodaefgpkkeaa