/-
  Layer 1: cursors.
-/
import Derived.Test.YtfjmfimalibhfaaAm19
namespace Go.Proofs.Ytfjmfimalibhfaa
open Go.RowKit
set_option linter.unusedSimpArgs false
set_option linter.unusedVariables false


def wiF (l : List Int) (a : Int) : Bool := decide (0 ≤ a ∧ a ≤ (l.length : Nat))
def leF (l : List Int) (a e : Int) : Int := if e = 0 ∧ wiF l a = true then (l.length : Nat) - a else 0
def doF (l : List Int) (a e : Int) : Int := if e ≠ 0 then e else if wiF l a = false then 8 else if (l.length : Nat) - a > 0 then 4 else 0
def cuF (l : List Int) (a e n : Int) (f : Bool) : (Int × Int) × List Int :=
  if e ≠ 0 then ((a, e), []) else if wiF l a = false then ((a, 8), []) else if f = false then ((a, 2), []) else if n > (l.length : Nat) - a then ((a, 3), []) else ((a + n, e), (l.drop a.toNat).take n.toNat)
def fiF (n b : Int) : Bool := decide (1 ≤ b ∧ b ≤ 7 ∧ 0 ≤ n ∧ n / 2 ^ (8 * b).toNat = 0)

theorem vc_within (l : List Int) (a e : Int) : Cond Try.prog (fun _ => none) Try.f28 [.agg [str (l), .v (.int .i64 (a)), .v (.int .i64 (e))]] [.v (.bool (wiF l a))] = (((∃ (cs : List D), D.agg [str l, D.v (Value.int IntKind.i64 a), D.v (Value.int IntKind.i64 e)] = D.agg cs ∧ cs.length = 3) ∧ True) ∧ ∃ (r : D), D.bin BinOp.geq (D.v (Value.int IntKind.i64 a)) (D.v (Value.int IntKind.i64 0)) = some r ∧ ∃ (b : Bool), r = D.v (Value.bool b) ∧ (b = true → ∃ (r : D), D.lenT TypeDesc.string (str l) = some r ∧ ∃ (r_1 : D), D.bin BinOp.leq (D.v (Value.int IntKind.i64 a)) r = some r_1 ∧ ((∃ (y : Value), r_1 = D.v y) ∧ True) ∧ [r_1] = [D.v (Value.bool (wiF l a))]) ∧ (b = false → (True ∧ True) ∧ [D.v (Value.bool false)] = [D.v (Value.bool (wiF l a))])) := by kernel_rfl
theorem within (l : List Int) (a e : Int)  : PureD Try.prog 28 [.agg [str (l), .v (.int .i64 (a)), .v (.int .i64 (e))]] [.v (.bool (wiF l a))] := by
  refine pure_cond (Lp := (fun _ => none)) (by kernel_rfl) Try.func28 (by kernel_rfl) (by kernel_rfl) ?_
  rw [vc_within l a e]
  repeat' (first
    | (refine ex_some (by simp (disch := omega) only [bin_shr, bin_shl, bin_and, bin_or, bin_xor, len_str, toStr_ofL, bin_add, bin_sub, bin_mul, bin_quo, bin_rem, bin_lss, bin_leq, bin_gtr, bin_geq, bin_eql, bin_neq, eqs_cn, eqs_ci, eqs_cb, eqs_cs, Option.map_some, lenT_ofL, lst_ofL, lstSz_ofL, chunk_one, lst_nil, lst_sl, lstSz_sl, lstSz_nil, Bool.and_true, Bool.true_and, Bool.and_false, Bool.false_and, beq_self_eq_true, beq_bb, bne_bb, un_not, un_neg, conv_int, min2_int, max2_int, w64, w32, wu8, wu16, wu32, wu64, tdiv_nn, tmod_nn, cell_zero, cell_succ, cell_v, cells_v, cells_agg, Bool.not_true, Bool.not_false, Int.reduceLT, Int.reduceLE, Int.reduceEq, Int.reduceNeg, Int.reduceAdd, Int.reduceSub, Int.reduceMul, intOf_v, decide_true, decide_false]; rfl) ?_)
    | (refine ex_bool ?_)
    | (refine And.intro ?_ ?_)
    | (intro hx; first | (cases hx; done) | (exfalso; revert hx; simp (disch := omega) only [decide_eq_true_eq, decide_eq_false_iff_not, Bool.not_eq_true', Bool.not_eq_false', Bool.and_eq_true, Bool.and_eq_false_iff, Int.not_lt, Int.not_le, ne_eq, not_false_eq_true, not_true_eq_false, reduceCtorEq, Bool.true_eq_false, Bool.false_eq_true, beq_iff_eq, bne_iff_ne, beq_eq_false_iff_ne, false_or, or_false, true_and, and_true]; done) | (simp (disch := omega) only [decide_eq_true_eq, decide_eq_false_iff_not, Bool.not_eq_true', Bool.not_eq_false', Bool.and_eq_true, Bool.and_eq_false_iff, Int.not_lt, Int.not_le, ne_eq, not_false_eq_true, not_true_eq_false, reduceCtorEq, Bool.true_eq_false, Bool.false_eq_true, beq_iff_eq, bne_iff_ne, beq_eq_false_iff_ne, false_or, or_false, true_and, and_true] at hx; first | (exfalso; omega) | skip) | skip)
    | trivial
    | exact fit_ofL _ _
    | (simp (disch := omega) only [notAgg_v, notAgg_sl, plain_v, fits, fitsOne, fitsCells, xsOf, cell_zero, cell_succ, List.range, List.range.loop, List.map, cond_true, cond_false, D.v.injEq, exists_eq', exists_eq, and_self, and_true, true_and, D.agg.injEq, List.length, exists_eq_left', D.sl.injEq, reduceCtorEq, false_or, true_or, or_true, or_false, cell_zero, cell_succ, cell_v, cells_v, cells_agg, List.length_cons, List.length_nil]; done))
  all_goals first | (unfold wiF; congr 4; rw [eq_comm, decide_eq_true_eq]; omega) | (unfold wiF; congr 4; rw [eq_comm, decide_eq_false_iff_not]; omega) | (by_cases h : a ≤ (l.length : Nat) <;> simp [wiF, h] <;> omega) | (simp [wiF]; omega) | fail

theorem vc_left (l : List Int) (a e : Int) : Cond Try.prog (fun _ => none) Try.f16 [.agg [str (l), .v (.int .i64 (a)), .v (.int .i64 (e))]] [.v (.int .i64 (leF l a e))] = (((∃ (cs : List D), D.agg [str l, D.v (Value.int IntKind.i64 a), D.v (Value.int IntKind.i64 e)] = D.agg cs ∧ cs.length = 3) ∧ True) ∧ ∃ (r : D), D.bin BinOp.neq (D.v (Value.int IntKind.i64 e)) (D.v (Value.int IntKind.i64 0)) = some r ∧ ∃ (b : Bool), r = D.v (Value.bool b) ∧ (b = false → ∃ (r : D), PureD Try.prog 28 [D.agg [str l, D.v (Value.int IntKind.i64 a), D.v (Value.int IntKind.i64 e)]] [r] ∧ fits [(false, [none])] [r] ∧ ∃ (r_1 : D), D.un UnOp.not r = some r_1 ∧ ∃ (b : Bool), r_1 = D.v (Value.bool b) ∧ (b = true → (True ∧ True) ∧ [D.v (Value.int IntKind.i64 0)] = [D.v (Value.int IntKind.i64 (leF l a e))]) ∧ (b = false → ∃ (r : D), D.lenT TypeDesc.string (str l) = some r ∧ ∃ (r_2 : D), D.bin BinOp.sub r (D.v (Value.int IntKind.i64 a)) = some r_2 ∧ ((∃ (y : Value), r_2 = D.v y) ∧ True) ∧ [r_2] = [D.v (Value.int IntKind.i64 (leF l a e))])) ∧ (b = true → (True ∧ True) ∧ [D.v (Value.int IntKind.i64 0)] = [D.v (Value.int IntKind.i64 (leF l a e))])) := by kernel_rfl
theorem left (l : List Int) (a e : Int) (a0 : -9223372036854775808 ≤ a) (a1 : a ≤ 9223372036854775807) (hB : Bytes l) (hl : l.length ≤ 9223372036854775807) : PureD Try.prog 16 [.agg [str (l), .v (.int .i64 (a)), .v (.int .i64 (e))]] [.v (.int .i64 (leF l a e))] := by
  refine pure_cond (Lp := (fun _ => none)) (by kernel_rfl) Try.func16 (by kernel_rfl) (by kernel_rfl) ?_
  rw [vc_left l a e]
  by_cases he : e = 0
  · cases hw : wiF l a
    · have L : leF l a e = 0 := by unfold leF; rw [if_neg (by rw [hw]; simp)]
      have W := within l a e
      rw [hw] at W
      repeat' (first
        | (refine ex_some (by simp (disch := omega) only [bin_shr, bin_shl, bin_and, bin_or, bin_xor, len_str, toStr_ofL, bin_add, bin_sub, bin_mul, bin_quo, bin_rem, bin_lss, bin_leq, bin_gtr, bin_geq, bin_eql, bin_neq, eqs_cn, eqs_ci, eqs_cb, eqs_cs, Option.map_some, lenT_ofL, lst_ofL, lstSz_ofL, chunk_one, lst_nil, lst_sl, lstSz_sl, lstSz_nil, Bool.and_true, Bool.true_and, Bool.and_false, Bool.false_and, beq_self_eq_true, beq_bb, bne_bb, un_not, un_neg, conv_int, min2_int, max2_int, w64, w32, wu8, wu16, wu32, wu64, tdiv_nn, tmod_nn, cell_zero, cell_succ, cell_v, cells_v, cells_agg, Bool.not_true, Bool.not_false, Int.reduceLT, Int.reduceLE, Int.reduceEq, Int.reduceNeg, Int.reduceAdd, Int.reduceSub, Int.reduceMul, intOf_v, decide_true, decide_false]; rfl) ?_)
        | (refine ex_bool ?_)
        | (refine ⟨_, W, ?_⟩)
        | (refine And.intro ?_ ?_)
        | (intro hx; first | (cases hx; done) | (exfalso; revert hx; simp (disch := omega) only [decide_eq_true_eq, decide_eq_false_iff_not, Bool.not_eq_true', Bool.not_eq_false', Bool.and_eq_true, Bool.and_eq_false_iff, Int.not_lt, Int.not_le, ne_eq, not_false_eq_true, not_true_eq_false, reduceCtorEq, Bool.true_eq_false, Bool.false_eq_true, beq_iff_eq, bne_iff_ne, beq_eq_false_iff_ne, false_or, or_false, true_and, and_true]; done) | (simp (disch := omega) only [decide_eq_true_eq, decide_eq_false_iff_not, Bool.not_eq_true', Bool.not_eq_false', Bool.and_eq_true, Bool.and_eq_false_iff, Int.not_lt, Int.not_le, ne_eq, not_false_eq_true, not_true_eq_false, reduceCtorEq, Bool.true_eq_false, Bool.false_eq_true, beq_iff_eq, bne_iff_ne, beq_eq_false_iff_ne, false_or, or_false, true_and, and_true] at hx; first | (exfalso; omega) | skip) | skip)
        | trivial
        | exact fit_ofL _ _
        | (simp (disch := omega) only [notAgg_v, notAgg_sl, plain_v, fits, fitsOne, fitsCells, xsOf, cell_zero, cell_succ, List.range, List.range.loop, List.map, cond_true, cond_false, D.v.injEq, exists_eq', exists_eq, and_self, and_true, true_and, D.agg.injEq, List.length, exists_eq_left', D.sl.injEq, reduceCtorEq, false_or, true_or, or_true, or_false, cell_zero, cell_succ, cell_v, cells_v, cells_agg, List.length_cons, List.length_nil]; done))
      all_goals first | (exfalso; omega) | (rw [L]; done) | (simp [L]; done) | fail
    · have L : leF l a e = (l.length : Nat) - a := by unfold leF; rw [if_pos ⟨he, hw⟩]
      have W := within l a e
      rw [hw] at W
      have hw2 : 0 ≤ a ∧ a ≤ (l.length : Nat) := by simpa [wiF] using hw
      repeat' (first
        | (refine ex_some (by simp (disch := omega) only [bin_shr, bin_shl, bin_and, bin_or, bin_xor, len_str, toStr_ofL, bin_add, bin_sub, bin_mul, bin_quo, bin_rem, bin_lss, bin_leq, bin_gtr, bin_geq, bin_eql, bin_neq, eqs_cn, eqs_ci, eqs_cb, eqs_cs, Option.map_some, lenT_ofL, lst_ofL, lstSz_ofL, chunk_one, lst_nil, lst_sl, lstSz_sl, lstSz_nil, Bool.and_true, Bool.true_and, Bool.and_false, Bool.false_and, beq_self_eq_true, beq_bb, bne_bb, un_not, un_neg, conv_int, min2_int, max2_int, w64, w32, wu8, wu16, wu32, wu64, tdiv_nn, tmod_nn, cell_zero, cell_succ, cell_v, cells_v, cells_agg, Bool.not_true, Bool.not_false, Int.reduceLT, Int.reduceLE, Int.reduceEq, Int.reduceNeg, Int.reduceAdd, Int.reduceSub, Int.reduceMul, intOf_v, decide_true, decide_false]; rfl) ?_)
        | (refine ex_bool ?_)
        | (refine ⟨_, W, ?_⟩)
        | (refine And.intro ?_ ?_)
        | (intro hx; first | (cases hx; done) | (exfalso; revert hx; simp (disch := omega) only [decide_eq_true_eq, decide_eq_false_iff_not, Bool.not_eq_true', Bool.not_eq_false', Bool.and_eq_true, Bool.and_eq_false_iff, Int.not_lt, Int.not_le, ne_eq, not_false_eq_true, not_true_eq_false, reduceCtorEq, Bool.true_eq_false, Bool.false_eq_true, beq_iff_eq, bne_iff_ne, beq_eq_false_iff_ne, false_or, or_false, true_and, and_true]; done) | (simp (disch := omega) only [decide_eq_true_eq, decide_eq_false_iff_not, Bool.not_eq_true', Bool.not_eq_false', Bool.and_eq_true, Bool.and_eq_false_iff, Int.not_lt, Int.not_le, ne_eq, not_false_eq_true, not_true_eq_false, reduceCtorEq, Bool.true_eq_false, Bool.false_eq_true, beq_iff_eq, bne_iff_ne, beq_eq_false_iff_ne, false_or, or_false, true_and, and_true] at hx; first | (exfalso; omega) | skip) | skip)
        | trivial
        | exact fit_ofL _ _
        | (simp (disch := omega) only [notAgg_v, notAgg_sl, plain_v, fits, fitsOne, fitsCells, xsOf, cell_zero, cell_succ, List.range, List.range.loop, List.map, cond_true, cond_false, D.v.injEq, exists_eq', exists_eq, and_self, and_true, true_and, D.agg.injEq, List.length, exists_eq_left', D.sl.injEq, reduceCtorEq, false_or, true_or, or_true, or_false, cell_zero, cell_succ, cell_v, cells_v, cells_agg, List.length_cons, List.length_nil]; done))
      all_goals first | (exfalso; omega) | (rw [L]; done) | (simp [L]; done) | fail
  · have L : leF l a e = 0 := by unfold leF; rw [if_neg (by omega)]
    repeat' (first
      | (refine ex_some (by simp (disch := omega) only [bin_shr, bin_shl, bin_and, bin_or, bin_xor, len_str, toStr_ofL, bin_add, bin_sub, bin_mul, bin_quo, bin_rem, bin_lss, bin_leq, bin_gtr, bin_geq, bin_eql, bin_neq, eqs_cn, eqs_ci, eqs_cb, eqs_cs, Option.map_some, lenT_ofL, lst_ofL, lstSz_ofL, chunk_one, lst_nil, lst_sl, lstSz_sl, lstSz_nil, Bool.and_true, Bool.true_and, Bool.and_false, Bool.false_and, beq_self_eq_true, beq_bb, bne_bb, un_not, un_neg, conv_int, min2_int, max2_int, w64, w32, wu8, wu16, wu32, wu64, tdiv_nn, tmod_nn, cell_zero, cell_succ, cell_v, cells_v, cells_agg, Bool.not_true, Bool.not_false, Int.reduceLT, Int.reduceLE, Int.reduceEq, Int.reduceNeg, Int.reduceAdd, Int.reduceSub, Int.reduceMul, intOf_v, decide_true, decide_false]; rfl) ?_)
      | (refine ex_bool ?_)
      | (refine ⟨_, W, ?_⟩)
      | (refine And.intro ?_ ?_)
      | (intro hx; first | (cases hx; done) | (exfalso; revert hx; simp (disch := omega) only [decide_eq_true_eq, decide_eq_false_iff_not, Bool.not_eq_true', Bool.not_eq_false', Bool.and_eq_true, Bool.and_eq_false_iff, Int.not_lt, Int.not_le, ne_eq, not_false_eq_true, not_true_eq_false, reduceCtorEq, Bool.true_eq_false, Bool.false_eq_true, beq_iff_eq, bne_iff_ne, beq_eq_false_iff_ne, false_or, or_false, true_and, and_true]; done) | (simp (disch := omega) only [decide_eq_true_eq, decide_eq_false_iff_not, Bool.not_eq_true', Bool.not_eq_false', Bool.and_eq_true, Bool.and_eq_false_iff, Int.not_lt, Int.not_le, ne_eq, not_false_eq_true, not_true_eq_false, reduceCtorEq, Bool.true_eq_false, Bool.false_eq_true, beq_iff_eq, bne_iff_ne, beq_eq_false_iff_ne, false_or, or_false, true_and, and_true] at hx; first | (exfalso; omega) | skip) | skip)
      | trivial
      | exact fit_ofL _ _
      | (simp (disch := omega) only [notAgg_v, notAgg_sl, plain_v, fits, fitsOne, fitsCells, xsOf, cell_zero, cell_succ, List.range, List.range.loop, List.map, cond_true, cond_false, D.v.injEq, exists_eq', exists_eq, and_self, and_true, true_and, D.agg.injEq, List.length, exists_eq_left', D.sl.injEq, reduceCtorEq, false_or, true_or, or_true, or_false, cell_zero, cell_succ, cell_v, cells_v, cells_agg, List.length_cons, List.length_nil]; done))
    all_goals first | (exfalso; omega) | (rw [L]; done) | (simp [L]; done) | fail

theorem vc_done (l : List Int) (a e : Int) : Cond Try.prog (fun _ => none) Try.f18 [.agg [str (l), .v (.int .i64 (a)), .v (.int .i64 (e))]] [.v (.int .i64 (doF l a e))] = (((∃ (cs : List D), D.agg [str l, D.v (Value.int IntKind.i64 a), D.v (Value.int IntKind.i64 e)] = D.agg cs ∧ cs.length = 3) ∧ True) ∧ ∃ (r : D), D.bin BinOp.neq (D.v (Value.int IntKind.i64 e)) (D.v (Value.int IntKind.i64 0)) = some r ∧ ∃ (b : Bool), r = D.v (Value.bool b) ∧ (b = true → ((∃ (y : Value), D.v (Value.int IntKind.i64 e) = D.v y) ∧ True) ∧ [D.v (Value.int IntKind.i64 e)] = [D.v (Value.int IntKind.i64 (doF l a e))]) ∧ (b = false → ∃ (r : D), PureD Try.prog 28 [D.agg [str l, D.v (Value.int IntKind.i64 a), D.v (Value.int IntKind.i64 e)]] [r] ∧ fits [(false, [none])] [r] ∧ ∃ (r_1 : D), D.un UnOp.not r = some r_1 ∧ ∃ (b : Bool), r_1 = D.v (Value.bool b) ∧ (b = true → (True ∧ True) ∧ [D.v (Value.int IntKind.i64 8)] = [D.v (Value.int IntKind.i64 (doF l a e))]) ∧ (b = false → ∃ (r : D), PureD Try.prog 16 [D.agg [str l, D.v (Value.int IntKind.i64 a), D.v (Value.int IntKind.i64 e)]] [r] ∧ fits [(false, [none])] [r] ∧ ∃ (r_2 : D), D.bin BinOp.gtr r (D.v (Value.int IntKind.i64 0)) = some r_2 ∧ ∃ (b : Bool), r_2 = D.v (Value.bool b) ∧ (b = true → (True ∧ True) ∧ [D.v (Value.int IntKind.i64 4)] = [D.v (Value.int IntKind.i64 (doF l a e))]) ∧ (b = false → (True ∧ True) ∧ [D.v (Value.int IntKind.i64 0)] = [D.v (Value.int IntKind.i64 (doF l a e))])))) := by kernel_rfl
theorem done (l : List Int) (a e : Int) (a0 : -9223372036854775808 ≤ a) (a1 : a ≤ 9223372036854775807) (hB : Bytes l) (hl : l.length ≤ 9223372036854775807) : PureD Try.prog 18 [.agg [str (l), .v (.int .i64 (a)), .v (.int .i64 (e))]] [.v (.int .i64 (doF l a e))] := by
  refine pure_cond (Lp := (fun _ => none)) (by kernel_rfl) Try.func18 (by kernel_rfl) (by kernel_rfl) ?_
  rw [vc_done l a e]
  have LL := left l a e a0 a1 hB hl
  have W := within l a e
  by_cases he : e = 0
  · cases hw : wiF l a
    · have L : doF l a e = 8 := by unfold doF; rw [if_neg (by omega), if_pos hw]
      rw [hw] at W
      repeat' (first
        | (refine ex_some (by simp (disch := omega) only [bin_shr, bin_shl, bin_and, bin_or, bin_xor, len_str, toStr_ofL, bin_add, bin_sub, bin_mul, bin_quo, bin_rem, bin_lss, bin_leq, bin_gtr, bin_geq, bin_eql, bin_neq, eqs_cn, eqs_ci, eqs_cb, eqs_cs, Option.map_some, lenT_ofL, lst_ofL, lstSz_ofL, chunk_one, lst_nil, lst_sl, lstSz_sl, lstSz_nil, Bool.and_true, Bool.true_and, Bool.and_false, Bool.false_and, beq_self_eq_true, beq_bb, bne_bb, un_not, un_neg, conv_int, min2_int, max2_int, w64, w32, wu8, wu16, wu32, wu64, tdiv_nn, tmod_nn, cell_zero, cell_succ, cell_v, cells_v, cells_agg, Bool.not_true, Bool.not_false, Int.reduceLT, Int.reduceLE, Int.reduceEq, Int.reduceNeg, Int.reduceAdd, Int.reduceSub, Int.reduceMul, intOf_v, decide_true, decide_false]; rfl) ?_)
        | (refine ex_bool ?_)
        | (refine ⟨_, W, ?_⟩)
        | (refine ⟨_, LL, ?_⟩)
        | (refine And.intro ?_ ?_)
        | (intro hx; first | (cases hx; done) | (exfalso; revert hx; simp (disch := omega) only [decide_eq_true_eq, decide_eq_false_iff_not, Bool.not_eq_true', Bool.not_eq_false', Bool.and_eq_true, Bool.and_eq_false_iff, Int.not_lt, Int.not_le, ne_eq, not_false_eq_true, not_true_eq_false, reduceCtorEq, Bool.true_eq_false, Bool.false_eq_true, beq_iff_eq, bne_iff_ne, beq_eq_false_iff_ne, false_or, or_false, true_and, and_true]; done) | (simp (disch := omega) only [decide_eq_true_eq, decide_eq_false_iff_not, Bool.not_eq_true', Bool.not_eq_false', Bool.and_eq_true, Bool.and_eq_false_iff, Int.not_lt, Int.not_le, ne_eq, not_false_eq_true, not_true_eq_false, reduceCtorEq, Bool.true_eq_false, Bool.false_eq_true, beq_iff_eq, bne_iff_ne, beq_eq_false_iff_ne, false_or, or_false, true_and, and_true] at hx; first | (exfalso; omega) | skip) | skip)
        | trivial
        | exact fit_ofL _ _
        | (simp (disch := omega) only [notAgg_v, notAgg_sl, plain_v, fits, fitsOne, fitsCells, xsOf, cell_zero, cell_succ, List.range, List.range.loop, List.map, cond_true, cond_false, D.v.injEq, exists_eq', exists_eq, and_self, and_true, true_and, D.agg.injEq, List.length, exists_eq_left', D.sl.injEq, reduceCtorEq, false_or, true_or, or_true, or_false, cell_zero, cell_succ, cell_v, cells_v, cells_agg, List.length_cons, List.length_nil]; done))
      all_goals first | (exfalso; omega) | (rw [L]; done) | (rw [if_pos (by omega)]; done) | (rw [if_neg (by omega)]; done) | (simp [L]; done) | fail
    · have hw2 : 0 ≤ a ∧ a ≤ (l.length : Nat) := by simpa [wiF] using hw
      have L2 : leF l a e = (l.length : Nat) - a := by unfold leF; rw [if_pos ⟨he, hw⟩]
      rw [hw] at W
      rw [L2] at LL
      have L : doF l a e = if (l.length : Nat) - a > 0 then 4 else 0 := by unfold doF; rw [if_neg (by omega), if_neg (by rw [hw]; simp)]
      rw [L]
      repeat' (first
        | (refine ex_some (by simp (disch := omega) only [bin_shr, bin_shl, bin_and, bin_or, bin_xor, len_str, toStr_ofL, bin_add, bin_sub, bin_mul, bin_quo, bin_rem, bin_lss, bin_leq, bin_gtr, bin_geq, bin_eql, bin_neq, eqs_cn, eqs_ci, eqs_cb, eqs_cs, Option.map_some, lenT_ofL, lst_ofL, lstSz_ofL, chunk_one, lst_nil, lst_sl, lstSz_sl, lstSz_nil, Bool.and_true, Bool.true_and, Bool.and_false, Bool.false_and, beq_self_eq_true, beq_bb, bne_bb, un_not, un_neg, conv_int, min2_int, max2_int, w64, w32, wu8, wu16, wu32, wu64, tdiv_nn, tmod_nn, cell_zero, cell_succ, cell_v, cells_v, cells_agg, Bool.not_true, Bool.not_false, Int.reduceLT, Int.reduceLE, Int.reduceEq, Int.reduceNeg, Int.reduceAdd, Int.reduceSub, Int.reduceMul, intOf_v, decide_true, decide_false]; rfl) ?_)
        | (refine ex_bool ?_)
        | (refine ⟨_, W, ?_⟩)
        | (refine ⟨_, LL, ?_⟩)
        | (refine And.intro ?_ ?_)
        | (intro hx; first | (cases hx; done) | (exfalso; revert hx; simp (disch := omega) only [decide_eq_true_eq, decide_eq_false_iff_not, Bool.not_eq_true', Bool.not_eq_false', Bool.and_eq_true, Bool.and_eq_false_iff, Int.not_lt, Int.not_le, ne_eq, not_false_eq_true, not_true_eq_false, reduceCtorEq, Bool.true_eq_false, Bool.false_eq_true, beq_iff_eq, bne_iff_ne, beq_eq_false_iff_ne, false_or, or_false, true_and, and_true]; done) | (simp (disch := omega) only [decide_eq_true_eq, decide_eq_false_iff_not, Bool.not_eq_true', Bool.not_eq_false', Bool.and_eq_true, Bool.and_eq_false_iff, Int.not_lt, Int.not_le, ne_eq, not_false_eq_true, not_true_eq_false, reduceCtorEq, Bool.true_eq_false, Bool.false_eq_true, beq_iff_eq, bne_iff_ne, beq_eq_false_iff_ne, false_or, or_false, true_and, and_true] at hx; first | (exfalso; omega) | skip) | skip)
        | trivial
        | exact fit_ofL _ _
        | (simp (disch := omega) only [notAgg_v, notAgg_sl, plain_v, fits, fitsOne, fitsCells, xsOf, cell_zero, cell_succ, List.range, List.range.loop, List.map, cond_true, cond_false, D.v.injEq, exists_eq', exists_eq, and_self, and_true, true_and, D.agg.injEq, List.length, exists_eq_left', D.sl.injEq, reduceCtorEq, false_or, true_or, or_true, or_false, cell_zero, cell_succ, cell_v, cells_v, cells_agg, List.length_cons, List.length_nil]; done))
      all_goals first | (exfalso; omega) | (rw [L]; done) | (rw [if_pos (by omega)]; done) | (rw [if_neg (by omega)]; done) | (simp [L]; done) | fail
  · have L : doF l a e = e := by unfold doF; rw [if_pos he]
    repeat' (first
      | (refine ex_some (by simp (disch := omega) only [bin_shr, bin_shl, bin_and, bin_or, bin_xor, len_str, toStr_ofL, bin_add, bin_sub, bin_mul, bin_quo, bin_rem, bin_lss, bin_leq, bin_gtr, bin_geq, bin_eql, bin_neq, eqs_cn, eqs_ci, eqs_cb, eqs_cs, Option.map_some, lenT_ofL, lst_ofL, lstSz_ofL, chunk_one, lst_nil, lst_sl, lstSz_sl, lstSz_nil, Bool.and_true, Bool.true_and, Bool.and_false, Bool.false_and, beq_self_eq_true, beq_bb, bne_bb, un_not, un_neg, conv_int, min2_int, max2_int, w64, w32, wu8, wu16, wu32, wu64, tdiv_nn, tmod_nn, cell_zero, cell_succ, cell_v, cells_v, cells_agg, Bool.not_true, Bool.not_false, Int.reduceLT, Int.reduceLE, Int.reduceEq, Int.reduceNeg, Int.reduceAdd, Int.reduceSub, Int.reduceMul, intOf_v, decide_true, decide_false]; rfl) ?_)
      | (refine ex_bool ?_)
      | (refine ⟨_, W, ?_⟩)
      | (refine ⟨_, LL, ?_⟩)
      | (refine And.intro ?_ ?_)
      | (intro hx; first | (cases hx; done) | (exfalso; revert hx; simp (disch := omega) only [decide_eq_true_eq, decide_eq_false_iff_not, Bool.not_eq_true', Bool.not_eq_false', Bool.and_eq_true, Bool.and_eq_false_iff, Int.not_lt, Int.not_le, ne_eq, not_false_eq_true, not_true_eq_false, reduceCtorEq, Bool.true_eq_false, Bool.false_eq_true, beq_iff_eq, bne_iff_ne, beq_eq_false_iff_ne, false_or, or_false, true_and, and_true]; done) | (simp (disch := omega) only [decide_eq_true_eq, decide_eq_false_iff_not, Bool.not_eq_true', Bool.not_eq_false', Bool.and_eq_true, Bool.and_eq_false_iff, Int.not_lt, Int.not_le, ne_eq, not_false_eq_true, not_true_eq_false, reduceCtorEq, Bool.true_eq_false, Bool.false_eq_true, beq_iff_eq, bne_iff_ne, beq_eq_false_iff_ne, false_or, or_false, true_and, and_true] at hx; first | (exfalso; omega) | skip) | skip)
      | trivial
      | exact fit_ofL _ _
      | (simp (disch := omega) only [notAgg_v, notAgg_sl, plain_v, fits, fitsOne, fitsCells, xsOf, cell_zero, cell_succ, List.range, List.range.loop, List.map, cond_true, cond_false, D.v.injEq, exists_eq', exists_eq, and_self, and_true, true_and, D.agg.injEq, List.length, exists_eq_left', D.sl.injEq, reduceCtorEq, false_or, true_or, or_true, or_false, cell_zero, cell_succ, cell_v, cells_v, cells_agg, List.length_cons, List.length_nil]; done))
    all_goals first | (exfalso; omega) | (rw [L]; done) | (rw [if_pos (by omega)]; done) | (rw [if_neg (by omega)]; done) | (simp [L]; done) | fail

theorem vc_fitC (n b : Int) : Cond Try.prog (fun _ => none) Try.f24 [.v (.int .i64 n), .v (.int .i64 b)] [.v (.bool (fiF n b))] = ((NotAgg (D.v (Value.int IntKind.i64 n)) ∧ NotAgg (D.v (Value.int IntKind.i64 b)) ∧ True) ∧ ∃ (r : D), D.bin BinOp.geq (D.v (Value.int IntKind.i64 b)) (D.v (Value.int IntKind.i64 1)) = some r ∧ ∃ (b_1 : Bool), r = D.v (Value.bool b_1) ∧ (b_1 = true → ∃ (r : D), D.bin BinOp.leq (D.v (Value.int IntKind.i64 b)) (D.v (Value.int IntKind.i64 7)) = some r ∧ ∃ (b_2 : Bool), r = D.v (Value.bool b_2) ∧ (b_2 = true → ∃ (r : D), D.bin BinOp.geq (D.v (Value.int IntKind.i64 n)) (D.v (Value.int IntKind.i64 0)) = some r ∧ ∃ (b_3 : Bool), r = D.v (Value.bool b_3) ∧ (b_3 = true → ∃ (r : D), D.bin BinOp.mul (D.v (Value.int IntKind.i64 8)) (D.v (Value.int IntKind.i64 b)) = some r ∧ ∃ (r_1 : D), D.bin BinOp.shr (D.v (Value.int IntKind.i64 n)) r = some r_1 ∧ ∃ (r : D), D.bin BinOp.eql r_1 (D.v (Value.int IntKind.i64 0)) = some r ∧ ((∃ (y : Value), r = D.v y) ∧ True) ∧ [r] = [D.v (Value.bool (fiF n b))]) ∧ (b_3 = false → (True ∧ True) ∧ [D.v (Value.bool false)] = [D.v (Value.bool (fiF n b))])) ∧ (b_2 = false → (True ∧ True) ∧ [D.v (Value.bool false)] = [D.v (Value.bool (fiF n b))])) ∧ (b_1 = false → (True ∧ True) ∧ [D.v (Value.bool false)] = [D.v (Value.bool (fiF n b))])) := by kernel_rfl
theorem fitC (n b : Int)  : PureD Try.prog 24 [.v (.int .i64 n), .v (.int .i64 b)] [.v (.bool (fiF n b))] := by
  refine pure_cond (Lp := (fun _ => none)) (by kernel_rfl) Try.func24 (by kernel_rfl) (by kernel_rfl) ?_
  rw [vc_fitC n b]
  have hs : 1 ≤ b → b ≤ 7 → n.fdiv (2 ^ min (8 * b).toNat IntKind.i64.bits) = n / 2 ^ (8 * b).toNat := by
    intro h1 h2
    have e : min (8 * b).toNat IntKind.i64.bits = (8 * b).toNat := by show min _ 64 = _; omega
    rw [e, Int.fdiv_eq_ediv_of_nonneg _ (Int.pow_nonneg (by decide))]
  repeat' (first
    | (refine ex_some (by simp (disch := omega) only [bin_shr, bin_shl, bin_and, bin_or, bin_xor, len_str, toStr_ofL, bin_add, bin_sub, bin_mul, bin_quo, bin_rem, bin_lss, bin_leq, bin_gtr, bin_geq, bin_eql, bin_neq, eqs_cn, eqs_ci, eqs_cb, eqs_cs, Option.map_some, lenT_ofL, lst_ofL, lstSz_ofL, chunk_one, lst_nil, lst_sl, lstSz_sl, lstSz_nil, Bool.and_true, Bool.true_and, Bool.and_false, Bool.false_and, beq_self_eq_true, beq_bb, bne_bb, un_not, un_neg, conv_int, min2_int, max2_int, w64, w32, wu8, wu16, wu32, wu64, tdiv_nn, tmod_nn, cell_zero, cell_succ, cell_v, cells_v, cells_agg, Bool.not_true, Bool.not_false, Int.reduceLT, Int.reduceLE, Int.reduceEq, Int.reduceNeg, Int.reduceAdd, Int.reduceSub, Int.reduceMul, intOf_v, decide_true, decide_false]; rfl) ?_)
    | (refine ex_bool ?_)
    | (refine And.intro ?_ ?_)
    | (intro hx; first | (cases hx; done) | (exfalso; revert hx; simp (disch := omega) only [decide_eq_true_eq, decide_eq_false_iff_not, Bool.not_eq_true', Bool.not_eq_false', Bool.and_eq_true, Bool.and_eq_false_iff, Int.not_lt, Int.not_le, ne_eq, not_false_eq_true, not_true_eq_false, reduceCtorEq, Bool.true_eq_false, Bool.false_eq_true, beq_iff_eq, bne_iff_ne, beq_eq_false_iff_ne, false_or, or_false, true_and, and_true]; done) | (simp (disch := omega) only [decide_eq_true_eq, decide_eq_false_iff_not, Bool.not_eq_true', Bool.not_eq_false', Bool.and_eq_true, Bool.and_eq_false_iff, Int.not_lt, Int.not_le, ne_eq, not_false_eq_true, not_true_eq_false, reduceCtorEq, Bool.true_eq_false, Bool.false_eq_true, beq_iff_eq, bne_iff_ne, beq_eq_false_iff_ne, false_or, or_false, true_and, and_true] at hx; first | (exfalso; omega) | skip) | skip)
    | trivial
    | exact fit_ofL _ _
    | (simp (disch := omega) only [notAgg_v, notAgg_sl, plain_v, fits, fitsOne, fitsCells, xsOf, cell_zero, cell_succ, List.range, List.range.loop, List.map, cond_true, cond_false, D.v.injEq, exists_eq', exists_eq, and_self, and_true, true_and, D.agg.injEq, List.length, exists_eq_left', D.sl.injEq, reduceCtorEq, false_or, true_or, or_true, or_false, cell_zero, cell_succ, cell_v, cells_v, cells_agg, List.length_cons, List.length_nil]; done))
  all_goals first | (exfalso; omega) | (rw [hs (by omega) (by omega)]; unfold fiF; congr 4; simp; omega) | (unfold fiF; congr 4; rw [eq_comm, decide_eq_false_iff_not]; omega) | (simp [fiF]; omega) | fail

theorem vc_opn (l : List Int) : Cond Try.prog (fun _ => none) Try.f20 [str l] [.agg [str (l), .v (.int .i64 (0)), .v (.int .i64 (0))]] = ((NotAgg (str l) ∧ True) ∧ ((∃ (y : Value), str l = D.v y) ∧ True ∧ True ∧ True) ∧ [D.agg [str l, D.v (Value.int IntKind.i64 0), D.v (Value.int IntKind.i64 0)]] = [D.agg [str l, D.v (Value.int IntKind.i64 0), D.v (Value.int IntKind.i64 0)]]) := by kernel_rfl
theorem opn (l : List Int)  : PureD Try.prog 20 [str l] [.agg [str (l), .v (.int .i64 (0)), .v (.int .i64 (0))]] := by
  refine pure_cond (Lp := (fun _ => none)) (by kernel_rfl) Try.func20 (by kernel_rfl) (by kernel_rfl) ?_
  rw [vc_opn l]
  repeat' (first
    | (refine ex_some (by simp (disch := omega) only [bin_shr, bin_shl, bin_and, bin_or, bin_xor, len_str, toStr_ofL, bin_add, bin_sub, bin_mul, bin_quo, bin_rem, bin_lss, bin_leq, bin_gtr, bin_geq, bin_eql, bin_neq, eqs_cn, eqs_ci, eqs_cb, eqs_cs, Option.map_some, lenT_ofL, lst_ofL, lstSz_ofL, chunk_one, lst_nil, lst_sl, lstSz_sl, lstSz_nil, Bool.and_true, Bool.true_and, Bool.and_false, Bool.false_and, beq_self_eq_true, beq_bb, bne_bb, un_not, un_neg, conv_int, min2_int, max2_int, w64, w32, wu8, wu16, wu32, wu64, tdiv_nn, tmod_nn, cell_zero, cell_succ, cell_v, cells_v, cells_agg, Bool.not_true, Bool.not_false, Int.reduceLT, Int.reduceLE, Int.reduceEq, Int.reduceNeg, Int.reduceAdd, Int.reduceSub, Int.reduceMul, intOf_v, decide_true, decide_false]; rfl) ?_)
    | (refine ex_bool ?_)
    | (exact notAgg_v _)
    | (refine And.intro ?_ ?_)
    | (intro hx; first | (cases hx; done) | (exfalso; revert hx; simp (disch := omega) only [decide_eq_true_eq, decide_eq_false_iff_not, Bool.not_eq_true', Bool.not_eq_false', Bool.and_eq_true, Bool.and_eq_false_iff, Int.not_lt, Int.not_le, ne_eq, not_false_eq_true, not_true_eq_false, reduceCtorEq, Bool.true_eq_false, Bool.false_eq_true, beq_iff_eq, bne_iff_ne, beq_eq_false_iff_ne, false_or, or_false, true_and, and_true]; done) | (simp (disch := omega) only [decide_eq_true_eq, decide_eq_false_iff_not, Bool.not_eq_true', Bool.not_eq_false', Bool.and_eq_true, Bool.and_eq_false_iff, Int.not_lt, Int.not_le, ne_eq, not_false_eq_true, not_true_eq_false, reduceCtorEq, Bool.true_eq_false, Bool.false_eq_true, beq_iff_eq, bne_iff_ne, beq_eq_false_iff_ne, false_or, or_false, true_and, and_true] at hx; first | (exfalso; omega) | skip) | skip)
    | trivial
    | exact fit_ofL _ _
    | (simp (disch := omega) only [notAgg_v, notAgg_sl, plain_v, fits, fitsOne, fitsCells, xsOf, cell_zero, cell_succ, List.range, List.range.loop, List.map, cond_true, cond_false, D.v.injEq, exists_eq', exists_eq, and_self, and_true, true_and, D.agg.injEq, List.length, exists_eq_left', D.sl.injEq, reduceCtorEq, false_or, true_or, or_true, or_false, cell_zero, cell_succ, cell_v, cells_v, cells_agg, List.length_cons, List.length_nil]; done))
  all_goals first | rfl | exact ⟨_, rfl⟩ | fail

theorem vc_cut (l : List Int) (a e : Int) (n : Int) (f : Bool) : Cond Try.prog (fun _ => none) Try.f26 [.agg [str (l), .v (.int .i64 (a)), .v (.int .i64 (e))], .v (.int .i64 n), .v (.bool f)] [.agg [str (l), .v (.int .i64 ((cuF l a e n f).1.1)), .v (.int .i64 ((cuF l a e n f).1.2))], str (cuF l a e n f).2] = (((∃ (cs : List D), D.agg [str l, D.v (Value.int IntKind.i64 a), D.v (Value.int IntKind.i64 e)] = D.agg cs ∧ cs.length = 3) ∧ NotAgg (D.v (Value.int IntKind.i64 n)) ∧ NotAgg (D.v (Value.bool f)) ∧ True) ∧ ∃ (r : D), D.bin BinOp.neq (D.v (Value.int IntKind.i64 e)) (D.v (Value.int IntKind.i64 0)) = some r ∧ ∃ (b : Bool), r = D.v (Value.bool b) ∧ (b = true → ((∃ (y : Value), str l = D.v y) ∧ (∃ (y : Value), D.v (Value.int IntKind.i64 a) = D.v y) ∧ (∃ (y : Value), D.v (Value.int IntKind.i64 e) = D.v y) ∧ True ∧ True) ∧ [D.agg [str l, D.v (Value.int IntKind.i64 a), D.v (Value.int IntKind.i64 e)], D.v (Value.string { data := { toList := [] } })] = [D.agg [str l, D.v (Value.int IntKind.i64 (cuF l a e n f).fst.fst), D.v (Value.int IntKind.i64 (cuF l a e n f).fst.snd)], str (cuF l a e n f).2]) ∧ (b = false → ∃ (r : D), PureD Try.prog 28 [D.agg [str l, D.v (Value.int IntKind.i64 a), D.v (Value.int IntKind.i64 e)]] [r] ∧ fits [(false, [none])] [r] ∧ ∃ (r_1 : D), D.un UnOp.not r = some r_1 ∧ ∃ (b : Bool), r_1 = D.v (Value.bool b) ∧ (b = true → ((∃ (y : Value), str l = D.v y) ∧ (∃ (y : Value), D.v (Value.int IntKind.i64 a) = D.v y) ∧ True ∧ True ∧ True) ∧ [D.agg [str l, D.v (Value.int IntKind.i64 a), D.v (Value.int IntKind.i64 8)], D.v (Value.string { data := { toList := [] } })] = [D.agg [str l, D.v (Value.int IntKind.i64 (cuF l a e n f).fst.fst), D.v (Value.int IntKind.i64 (cuF l a e n f).fst.snd)], str (cuF l a e n f).2]) ∧ (b = false → ∃ (r : D), D.un UnOp.not (D.v (Value.bool f)) = some r ∧ ∃ (b : Bool), r = D.v (Value.bool b) ∧ (b = true → ((∃ (y : Value), str l = D.v y) ∧ (∃ (y : Value), D.v (Value.int IntKind.i64 a) = D.v y) ∧ True ∧ True ∧ True) ∧ [D.agg [str l, D.v (Value.int IntKind.i64 a), D.v (Value.int IntKind.i64 2)], D.v (Value.string { data := { toList := [] } })] = [D.agg [str l, D.v (Value.int IntKind.i64 (cuF l a e n f).fst.fst), D.v (Value.int IntKind.i64 (cuF l a e n f).fst.snd)], str (cuF l a e n f).2]) ∧ (b = false → ∃ (r : D), D.lenT TypeDesc.string (str l) = some r ∧ ∃ (r_2 : D), D.bin BinOp.sub r (D.v (Value.int IntKind.i64 a)) = some r_2 ∧ ∃ (r : D), D.bin BinOp.gtr (D.v (Value.int IntKind.i64 n)) r_2 = some r ∧ ∃ (b : Bool), r = D.v (Value.bool b) ∧ (b = true → ((∃ (y : Value), str l = D.v y) ∧ (∃ (y : Value), D.v (Value.int IntKind.i64 a) = D.v y) ∧ True ∧ True ∧ True) ∧ [D.agg [str l, D.v (Value.int IntKind.i64 a), D.v (Value.int IntKind.i64 3)], D.v (Value.string { data := { toList := [] } })] = [D.agg [str l, D.v (Value.int IntKind.i64 (cuF l a e n f).fst.fst), D.v (Value.int IntKind.i64 (cuF l a e n f).fst.snd)], str (cuF l a e n f).2]) ∧ (b = false → ∃ (r : D), D.bin BinOp.add (D.v (Value.int IntKind.i64 a)) (D.v (Value.int IntKind.i64 n)) = some r ∧ ∃ (r_3 : D), (str l).cutS (some (D.v (Value.int IntKind.i64 a))) (some r) = some r_3 ∧ ∃ (r : D), D.bin BinOp.add (D.v (Value.int IntKind.i64 a)) (D.v (Value.int IntKind.i64 n)) = some r ∧ ((∃ (y : Value), str l = D.v y) ∧ (∃ (y : Value), r = D.v y) ∧ (∃ (y : Value), D.v (Value.int IntKind.i64 e) = D.v y) ∧ (∃ (y : Value), r_3 = D.v y) ∧ True) ∧ [D.agg [str l, r, D.v (Value.int IntKind.i64 e)], r_3] = [D.agg [str l, D.v (Value.int IntKind.i64 (cuF l a e n f).fst.fst), D.v (Value.int IntKind.i64 (cuF l a e n f).fst.snd)], str (cuF l a e n f).2]))))) := by kernel_rfl
set_option maxHeartbeats 4000000 in
theorem cut (l : List Int) (a e : Int) (n : Int) (f : Bool) (a0 : -9223372036854775808 ≤ a) (a1 : a ≤ 9223372036854775807) (hB : Bytes l) (hl : l.length ≤ 9223372036854775807) (hf : f = true → 0 ≤ n) (n1 : n ≤ 9223372036854775807) : PureD Try.prog 26 [.agg [str (l), .v (.int .i64 (a)), .v (.int .i64 (e))], .v (.int .i64 n), .v (.bool f)] [.agg [str (l), .v (.int .i64 ((cuF l a e n f).1.1)), .v (.int .i64 ((cuF l a e n f).1.2))], str (cuF l a e n f).2] := by
  refine pure_cond (Lp := (fun _ => none)) (by kernel_rfl) Try.func26 (by kernel_rfl) (by kernel_rfl) ?_
  rw [vc_cut l a e n f]
  have W := within l a e
  by_cases he : e = 0
  · cases hw : wiF l a
    · have L : cuF l a e n f = ((a, 8), []) := by unfold cuF; rw [if_neg (by omega), if_pos hw]
      rw [hw] at W
      rw [L]
      repeat' (first
        | (refine ex_some (by simp (disch := omega) only [bin_shr, bin_shl, bin_and, bin_or, bin_xor, len_str, toStr_ofL, bin_add, bin_sub, bin_mul, bin_quo, bin_rem, bin_lss, bin_leq, bin_gtr, bin_geq, bin_eql, bin_neq, eqs_cn, eqs_ci, eqs_cb, eqs_cs, Option.map_some, lenT_ofL, lst_ofL, lstSz_ofL, chunk_one, lst_nil, lst_sl, lstSz_sl, lstSz_nil, Bool.and_true, Bool.true_and, Bool.and_false, Bool.false_and, beq_self_eq_true, beq_bb, bne_bb, un_not, un_neg, conv_int, min2_int, max2_int, w64, w32, wu8, wu16, wu32, wu64, tdiv_nn, tmod_nn, cell_zero, cell_succ, cell_v, cells_v, cells_agg, Bool.not_true, Bool.not_false, Int.reduceLT, Int.reduceLE, Int.reduceEq, Int.reduceNeg, Int.reduceAdd, Int.reduceSub, Int.reduceMul, intOf_v, decide_true, decide_false]; rfl) ?_)
        | (refine ex_bool ?_)
        | (exact notAgg_v _)
        | (refine ex_some K ?_)
        | (refine ⟨_, W, ?_⟩)
        | (refine And.intro ?_ ?_)
        | (intro hx; first | (cases hx; done) | (exfalso; revert hx; simp (disch := omega) only [decide_eq_true_eq, decide_eq_false_iff_not, Bool.not_eq_true', Bool.not_eq_false', Bool.and_eq_true, Bool.and_eq_false_iff, Int.not_lt, Int.not_le, ne_eq, not_false_eq_true, not_true_eq_false, reduceCtorEq, Bool.true_eq_false, Bool.false_eq_true, beq_iff_eq, bne_iff_ne, beq_eq_false_iff_ne, false_or, or_false, true_and, and_true]; done) | (simp (disch := omega) only [decide_eq_true_eq, decide_eq_false_iff_not, Bool.not_eq_true', Bool.not_eq_false', Bool.and_eq_true, Bool.and_eq_false_iff, Int.not_lt, Int.not_le, ne_eq, not_false_eq_true, not_true_eq_false, reduceCtorEq, Bool.true_eq_false, Bool.false_eq_true, beq_iff_eq, bne_iff_ne, beq_eq_false_iff_ne, false_or, or_false, true_and, and_true] at hx; first | (exfalso; omega) | skip) | skip)
        | trivial
        | exact fit_ofL _ _
        | (simp (disch := omega) only [notAgg_v, notAgg_sl, plain_v, fits, fitsOne, fitsCells, xsOf, cell_zero, cell_succ, List.range, List.range.loop, List.map, cond_true, cond_false, D.v.injEq, exists_eq', exists_eq, and_self, and_true, true_and, D.agg.injEq, List.length, exists_eq_left', D.sl.injEq, reduceCtorEq, false_or, true_or, or_true, or_false, cell_zero, cell_succ, cell_v, cells_v, cells_agg, List.length_cons, List.length_nil]; done))
      all_goals first | (exfalso; omega) | exact ⟨_, rfl⟩ | rfl | (simp; done) | fail
    · have hw2 : 0 ≤ a ∧ a ≤ (l.length : Nat) := by simpa [wiF] using hw
      rw [hw] at W
      cases f
      · have L : cuF l a e n false = ((a, 2), []) := by unfold cuF; rw [if_neg (by omega), if_neg (by rw [hw]; simp), if_pos rfl]
        rw [L]
        repeat' (first
          | (refine ex_some (by simp (disch := omega) only [bin_shr, bin_shl, bin_and, bin_or, bin_xor, len_str, toStr_ofL, bin_add, bin_sub, bin_mul, bin_quo, bin_rem, bin_lss, bin_leq, bin_gtr, bin_geq, bin_eql, bin_neq, eqs_cn, eqs_ci, eqs_cb, eqs_cs, Option.map_some, lenT_ofL, lst_ofL, lstSz_ofL, chunk_one, lst_nil, lst_sl, lstSz_sl, lstSz_nil, Bool.and_true, Bool.true_and, Bool.and_false, Bool.false_and, beq_self_eq_true, beq_bb, bne_bb, un_not, un_neg, conv_int, min2_int, max2_int, w64, w32, wu8, wu16, wu32, wu64, tdiv_nn, tmod_nn, cell_zero, cell_succ, cell_v, cells_v, cells_agg, Bool.not_true, Bool.not_false, Int.reduceLT, Int.reduceLE, Int.reduceEq, Int.reduceNeg, Int.reduceAdd, Int.reduceSub, Int.reduceMul, intOf_v, decide_true, decide_false]; rfl) ?_)
          | (refine ex_bool ?_)
          | (exact notAgg_v _)
          | (refine ex_some K ?_)
          | (refine ⟨_, W, ?_⟩)
          | (refine And.intro ?_ ?_)
          | (intro hx; first | (cases hx; done) | (exfalso; revert hx; simp (disch := omega) only [decide_eq_true_eq, decide_eq_false_iff_not, Bool.not_eq_true', Bool.not_eq_false', Bool.and_eq_true, Bool.and_eq_false_iff, Int.not_lt, Int.not_le, ne_eq, not_false_eq_true, not_true_eq_false, reduceCtorEq, Bool.true_eq_false, Bool.false_eq_true, beq_iff_eq, bne_iff_ne, beq_eq_false_iff_ne, false_or, or_false, true_and, and_true]; done) | (simp (disch := omega) only [decide_eq_true_eq, decide_eq_false_iff_not, Bool.not_eq_true', Bool.not_eq_false', Bool.and_eq_true, Bool.and_eq_false_iff, Int.not_lt, Int.not_le, ne_eq, not_false_eq_true, not_true_eq_false, reduceCtorEq, Bool.true_eq_false, Bool.false_eq_true, beq_iff_eq, bne_iff_ne, beq_eq_false_iff_ne, false_or, or_false, true_and, and_true] at hx; first | (exfalso; omega) | skip) | skip)
          | trivial
          | exact fit_ofL _ _
          | (simp (disch := omega) only [notAgg_v, notAgg_sl, plain_v, fits, fitsOne, fitsCells, xsOf, cell_zero, cell_succ, List.range, List.range.loop, List.map, cond_true, cond_false, D.v.injEq, exists_eq', exists_eq, and_self, and_true, true_and, D.agg.injEq, List.length, exists_eq_left', D.sl.injEq, reduceCtorEq, false_or, true_or, or_true, or_false, cell_zero, cell_succ, cell_v, cells_v, cells_agg, List.length_cons, List.length_nil]; done))
        all_goals first | (exfalso; omega) | exact ⟨_, rfl⟩ | rfl | (simp; done) | fail
      · have hn := hf rfl
        by_cases hc : n > (l.length : Nat) - a
        · have L : cuF l a e n true = ((a, 3), []) := by unfold cuF; rw [if_neg (by omega), if_neg (by rw [hw]; simp), if_neg (by simp), if_pos hc]
          rw [L]
          repeat' (first
            | (refine ex_some (by simp (disch := omega) only [bin_shr, bin_shl, bin_and, bin_or, bin_xor, len_str, toStr_ofL, bin_add, bin_sub, bin_mul, bin_quo, bin_rem, bin_lss, bin_leq, bin_gtr, bin_geq, bin_eql, bin_neq, eqs_cn, eqs_ci, eqs_cb, eqs_cs, Option.map_some, lenT_ofL, lst_ofL, lstSz_ofL, chunk_one, lst_nil, lst_sl, lstSz_sl, lstSz_nil, Bool.and_true, Bool.true_and, Bool.and_false, Bool.false_and, beq_self_eq_true, beq_bb, bne_bb, un_not, un_neg, conv_int, min2_int, max2_int, w64, w32, wu8, wu16, wu32, wu64, tdiv_nn, tmod_nn, cell_zero, cell_succ, cell_v, cells_v, cells_agg, Bool.not_true, Bool.not_false, Int.reduceLT, Int.reduceLE, Int.reduceEq, Int.reduceNeg, Int.reduceAdd, Int.reduceSub, Int.reduceMul, intOf_v, decide_true, decide_false]; rfl) ?_)
            | (refine ex_bool ?_)
            | (exact notAgg_v _)
            | (refine ex_some K ?_)
            | (refine ⟨_, W, ?_⟩)
            | (refine And.intro ?_ ?_)
            | (intro hx; first | (cases hx; done) | (exfalso; revert hx; simp (disch := omega) only [decide_eq_true_eq, decide_eq_false_iff_not, Bool.not_eq_true', Bool.not_eq_false', Bool.and_eq_true, Bool.and_eq_false_iff, Int.not_lt, Int.not_le, ne_eq, not_false_eq_true, not_true_eq_false, reduceCtorEq, Bool.true_eq_false, Bool.false_eq_true, beq_iff_eq, bne_iff_ne, beq_eq_false_iff_ne, false_or, or_false, true_and, and_true]; done) | (simp (disch := omega) only [decide_eq_true_eq, decide_eq_false_iff_not, Bool.not_eq_true', Bool.not_eq_false', Bool.and_eq_true, Bool.and_eq_false_iff, Int.not_lt, Int.not_le, ne_eq, not_false_eq_true, not_true_eq_false, reduceCtorEq, Bool.true_eq_false, Bool.false_eq_true, beq_iff_eq, bne_iff_ne, beq_eq_false_iff_ne, false_or, or_false, true_and, and_true] at hx; first | (exfalso; omega) | skip) | skip)
            | trivial
            | exact fit_ofL _ _
            | (simp (disch := omega) only [notAgg_v, notAgg_sl, plain_v, fits, fitsOne, fitsCells, xsOf, cell_zero, cell_succ, List.range, List.range.loop, List.map, cond_true, cond_false, D.v.injEq, exists_eq', exists_eq, and_self, and_true, true_and, D.agg.injEq, List.length, exists_eq_left', D.sl.injEq, reduceCtorEq, false_or, true_or, or_true, or_false, cell_zero, cell_succ, cell_v, cells_v, cells_agg, List.length_cons, List.length_nil]; done))
          all_goals first | (exfalso; omega) | exact ⟨_, rfl⟩ | rfl | (simp; done) | fail
        · have L : cuF l a e n true = ((a + n, e), (l.drop a.toNat).take n.toNat) := by unfold cuF; rw [if_neg (by omega), if_neg (by rw [hw]; simp), if_neg (by simp), if_neg hc]
          have K := cutS_str l (dl := some (.v (.int .i64 a))) (dh := some (.v (.int .i64 (a + n)))) (a := a) (b := a + n) rfl rfl (by omega) (by omega) (by omega)
          rw [show (a + n).toNat - a.toNat = n.toNat by omega] at K
          rw [L]
          repeat' (first
            | (refine ex_some (by simp (disch := omega) only [bin_shr, bin_shl, bin_and, bin_or, bin_xor, len_str, toStr_ofL, bin_add, bin_sub, bin_mul, bin_quo, bin_rem, bin_lss, bin_leq, bin_gtr, bin_geq, bin_eql, bin_neq, eqs_cn, eqs_ci, eqs_cb, eqs_cs, Option.map_some, lenT_ofL, lst_ofL, lstSz_ofL, chunk_one, lst_nil, lst_sl, lstSz_sl, lstSz_nil, Bool.and_true, Bool.true_and, Bool.and_false, Bool.false_and, beq_self_eq_true, beq_bb, bne_bb, un_not, un_neg, conv_int, min2_int, max2_int, w64, w32, wu8, wu16, wu32, wu64, tdiv_nn, tmod_nn, cell_zero, cell_succ, cell_v, cells_v, cells_agg, Bool.not_true, Bool.not_false, Int.reduceLT, Int.reduceLE, Int.reduceEq, Int.reduceNeg, Int.reduceAdd, Int.reduceSub, Int.reduceMul, intOf_v, decide_true, decide_false]; rfl) ?_)
            | (refine ex_bool ?_)
            | (exact notAgg_v _)
            | (refine ex_some K ?_)
            | (refine ⟨_, W, ?_⟩)
            | (refine And.intro ?_ ?_)
            | (intro hx; first | (cases hx; done) | (exfalso; revert hx; simp (disch := omega) only [decide_eq_true_eq, decide_eq_false_iff_not, Bool.not_eq_true', Bool.not_eq_false', Bool.and_eq_true, Bool.and_eq_false_iff, Int.not_lt, Int.not_le, ne_eq, not_false_eq_true, not_true_eq_false, reduceCtorEq, Bool.true_eq_false, Bool.false_eq_true, beq_iff_eq, bne_iff_ne, beq_eq_false_iff_ne, false_or, or_false, true_and, and_true]; done) | (simp (disch := omega) only [decide_eq_true_eq, decide_eq_false_iff_not, Bool.not_eq_true', Bool.not_eq_false', Bool.and_eq_true, Bool.and_eq_false_iff, Int.not_lt, Int.not_le, ne_eq, not_false_eq_true, not_true_eq_false, reduceCtorEq, Bool.true_eq_false, Bool.false_eq_true, beq_iff_eq, bne_iff_ne, beq_eq_false_iff_ne, false_or, or_false, true_and, and_true] at hx; first | (exfalso; omega) | skip) | skip)
            | trivial
            | exact fit_ofL _ _
            | (simp (disch := omega) only [notAgg_v, notAgg_sl, plain_v, fits, fitsOne, fitsCells, xsOf, cell_zero, cell_succ, List.range, List.range.loop, List.map, cond_true, cond_false, D.v.injEq, exists_eq', exists_eq, and_self, and_true, true_and, D.agg.injEq, List.length, exists_eq_left', D.sl.injEq, reduceCtorEq, false_or, true_or, or_true, or_false, cell_zero, cell_succ, cell_v, cells_v, cells_agg, List.length_cons, List.length_nil]; done))
          all_goals first | (exfalso; omega) | exact ⟨_, rfl⟩ | rfl | (simp; done) | fail
  · have L : cuF l a e n f = ((a, e), []) := by unfold cuF; rw [if_pos he]
    rw [L]
    repeat' (first
      | (refine ex_some (by simp (disch := omega) only [bin_shr, bin_shl, bin_and, bin_or, bin_xor, len_str, toStr_ofL, bin_add, bin_sub, bin_mul, bin_quo, bin_rem, bin_lss, bin_leq, bin_gtr, bin_geq, bin_eql, bin_neq, eqs_cn, eqs_ci, eqs_cb, eqs_cs, Option.map_some, lenT_ofL, lst_ofL, lstSz_ofL, chunk_one, lst_nil, lst_sl, lstSz_sl, lstSz_nil, Bool.and_true, Bool.true_and, Bool.and_false, Bool.false_and, beq_self_eq_true, beq_bb, bne_bb, un_not, un_neg, conv_int, min2_int, max2_int, w64, w32, wu8, wu16, wu32, wu64, tdiv_nn, tmod_nn, cell_zero, cell_succ, cell_v, cells_v, cells_agg, Bool.not_true, Bool.not_false, Int.reduceLT, Int.reduceLE, Int.reduceEq, Int.reduceNeg, Int.reduceAdd, Int.reduceSub, Int.reduceMul, intOf_v, decide_true, decide_false]; rfl) ?_)
      | (refine ex_bool ?_)
      | (exact notAgg_v _)
      | (refine ex_some K ?_)
      | (refine ⟨_, W, ?_⟩)
      | (refine And.intro ?_ ?_)
      | (intro hx; first | (cases hx; done) | (exfalso; revert hx; simp (disch := omega) only [decide_eq_true_eq, decide_eq_false_iff_not, Bool.not_eq_true', Bool.not_eq_false', Bool.and_eq_true, Bool.and_eq_false_iff, Int.not_lt, Int.not_le, ne_eq, not_false_eq_true, not_true_eq_false, reduceCtorEq, Bool.true_eq_false, Bool.false_eq_true, beq_iff_eq, bne_iff_ne, beq_eq_false_iff_ne, false_or, or_false, true_and, and_true]; done) | (simp (disch := omega) only [decide_eq_true_eq, decide_eq_false_iff_not, Bool.not_eq_true', Bool.not_eq_false', Bool.and_eq_true, Bool.and_eq_false_iff, Int.not_lt, Int.not_le, ne_eq, not_false_eq_true, not_true_eq_false, reduceCtorEq, Bool.true_eq_false, Bool.false_eq_true, beq_iff_eq, bne_iff_ne, beq_eq_false_iff_ne, false_or, or_false, true_and, and_true] at hx; first | (exfalso; omega) | skip) | skip)
      | trivial
      | exact fit_ofL _ _
      | (simp (disch := omega) only [notAgg_v, notAgg_sl, plain_v, fits, fitsOne, fitsCells, xsOf, cell_zero, cell_succ, List.range, List.range.loop, List.map, cond_true, cond_false, D.v.injEq, exists_eq', exists_eq, and_self, and_true, true_and, D.agg.injEq, List.length, exists_eq_left', D.sl.injEq, reduceCtorEq, false_or, true_or, or_true, or_false, cell_zero, cell_succ, cell_v, cells_v, cells_agg, List.length_cons, List.length_nil]; done))
    all_goals first | (exfalso; omega) | exact ⟨_, rfl⟩ | rfl | (simp; done) | fail

end Go.Proofs.Ytfjmfimalibhfaa