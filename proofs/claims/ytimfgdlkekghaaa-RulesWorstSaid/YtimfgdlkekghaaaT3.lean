/-
  Layer 17: what every right program judges; RulesOver.
-/
import Derived.Test.YtimfgdlkekghaaaT2
namespace Go.Proofs.Ytimfgdlkekghaaa
open Go.RowKit
set_option linter.unusedSimpArgs false
set_option linter.unusedVariables false


theorem vc_awake  : Cond Try.prog (fun _ => none) Try.f6 [] [.v (.bool true)] = (True ∧ ∃ (r : D), PureD Try.prog 7 [D.v (Value.int IntKind.u8 1), D.v (Value.int IntKind.u8 4)] [r] ∧ fits [(true, [none, none])] [r] ∧ ∃ (r_1 : Bool), eqs [EqK.i, EqK.i] [r.cell 0, r.cell 1] [D.v (Value.int IntKind.i64 3), D.v (Value.int IntKind.u32 5)] = some r_1 ∧ ∃ (b : Bool), D.v (Value.bool r_1) = D.v (Value.bool b) ∧ (b = true → ∃ (r : D), PureD Try.prog 7 [D.v (Value.int IntKind.u8 0), D.v (Value.int IntKind.u8 5)] [r] ∧ fits [(true, [none, none])] [r] ∧ ∃ (r_2 : Bool), eqs [EqK.i, EqK.i] [r.cell 0, r.cell 1] [D.v (Value.int IntKind.i64 1), D.v (Value.int IntKind.u32 0)] = some r_2 ∧ ∃ (b : Bool), D.v (Value.bool r_2) = D.v (Value.bool b) ∧ (b = true → ∃ (r : D), PureD Try.prog 7 [D.v (Value.int IntKind.u8 6), D.v (Value.int IntKind.u8 0)] [r] ∧ fits [(true, [none, none])] [r] ∧ ∃ (r_3 : Bool), eqs [EqK.i, EqK.i] [r.cell 0, r.cell 1] [D.v (Value.int IntKind.i64 0), D.v (Value.int IntKind.u32 0)] = some r_3 ∧ ∃ (b : Bool), D.v (Value.bool r_3) = D.v (Value.bool b) ∧ (b = true → ∃ (r : D), PureD Try.prog 7 [D.v (Value.int IntKind.u8 5), D.v (Value.int IntKind.u8 0)] [r] ∧ fits [(true, [none, none])] [r] ∧ ∃ (r_4 : D), D.bin BinOp.eql (r.cell 1) (D.v (Value.int IntKind.u32 2)) = some r_4 ∧ ∃ (b : Bool), r_4 = D.v (Value.bool b) ∧ (b = true → ∃ (r : D), PureD Try.prog 14 [D.v (Value.int IntKind.u8 8)] [r] ∧ fits [(false, [none])] [r] ∧ ∃ (b : Bool), r = D.v (Value.bool b) ∧ (b = true → ∃ (r : D), PureD Try.prog 14 [D.v (Value.int IntKind.u8 9)] [r] ∧ fits [(false, [none])] [r] ∧ ∃ (r_5 : D), D.un UnOp.not r = some r_5 ∧ ∃ (b : Bool), r_5 = D.v (Value.bool b) ∧ (b = true → ∃ (r : D), PureD Try.prog 9 [D.v (Value.int IntKind.i64 5)] [r] ∧ fits [(true, [none, none])] [r] ∧ ∃ (r_6 : D), D.bin BinOp.eql (r.cell 1) (D.v (Value.int IntKind.u32 6)) = some r_6 ∧ ∃ (b : Bool), r_6 = D.v (Value.bool b) ∧ (b = true → ∃ (r : D), PureD Try.prog 16 [D.sl 1 (chunks false 1 3 [D.v (Value.int IntKind.u8 0), D.v (Value.int IntKind.u8 1), D.v (Value.int IntKind.u8 0)]), D.sl 1 (chunks false 1 2 [D.v (Value.int IntKind.u8 4), D.v (Value.int IntKind.u8 4)])] [r] ∧ fits [(true, [none, none])] [r] ∧ ∃ (r_7 : Bool), eqs [EqK.i, EqK.i] [r.cell 0, r.cell 1] [D.v (Value.int IntKind.i64 3), D.v (Value.int IntKind.u32 5)] = some r_7 ∧ ∃ (b : Bool), D.v (Value.bool r_7) = D.v (Value.bool b) ∧ (b = true → ∃ (r : D), PureD Try.prog 11 [D.agg [D.v (Value.int IntKind.i64 2), D.v (Value.int IntKind.u32 1)], D.agg [D.v (Value.int IntKind.i64 2), D.v (Value.int IntKind.u32 3)]] [r] ∧ fits [(true, [none, none])] [r] ∧ ∃ (r_8 : D), D.bin BinOp.eql (r.cell 1) (D.v (Value.int IntKind.u32 1)) = some r_8 ∧ ∃ (b : Bool), r_8 = D.v (Value.bool b) ∧ ∃ (b : Bool), r_8 = D.v (Value.bool b) ∧ ∃ (b : Bool), r_8 = D.v (Value.bool b) ∧ ∃ (b : Bool), r_8 = D.v (Value.bool b) ∧ ∃ (b : Bool), r_8 = D.v (Value.bool b) ∧ ((∃ (y : Value), r_8 = D.v y) ∧ True) ∧ [r_8] = [D.v (Value.bool true)]) ∧ (b = false → (True ∧ True) ∧ [D.v (Value.bool false)] = [D.v (Value.bool true)])) ∧ (b = false → (True ∧ True) ∧ [D.v (Value.bool false)] = [D.v (Value.bool true)])) ∧ (b = false → (True ∧ True) ∧ [D.v (Value.bool false)] = [D.v (Value.bool true)])) ∧ (b = false → (True ∧ True) ∧ [D.v (Value.bool false)] = [D.v (Value.bool true)])) ∧ (b = false → (True ∧ True) ∧ [D.v (Value.bool false)] = [D.v (Value.bool true)])) ∧ (b = false → (True ∧ True) ∧ [D.v (Value.bool false)] = [D.v (Value.bool true)])) ∧ (b = false → (True ∧ True) ∧ [D.v (Value.bool false)] = [D.v (Value.bool true)])) ∧ (b = false → (True ∧ True) ∧ [D.v (Value.bool false)] = [D.v (Value.bool true)])) := by kernel_rfl
set_option maxHeartbeats 4000000 in
theorem awake   : PureD Try.prog 6 [] [.v (.bool true)] := by
  refine pure_cond (Lp := (fun _ => none)) (by kernel_rfl) Try.func6 (by kernel_rfl) (by kernel_rfl) ?_
  rw [vc_awake]
  have s1 : jd 1 4 = (3, 5) := by decide
  have s2 : jd 0 5 = (1, 0) := by decide
  have s3 : jd 6 0 = (0, 0) := by decide
  have s4 : jd 5 0 = (3, 2) := by decide
  have s5 : cr 8 = true := by decide
  have s6 : cr 9 = false := by decide
  have s7 : ft 5 = (3, 6) := by decide
  have s8 : wsF (pairUp [0, 1, 0] [4, 4]) = (3, 5) := by decide
  have s9 : wo (2, 1) (2, 3) = (2, 1) := by decide
  repeat' (first
    | (refine ex_some (by simp (disch := omega) only [bin_add, bin_sub, bin_mul, bin_quo, bin_rem, bin_lss, bin_leq, bin_gtr, bin_geq, bin_eql, bin_neq, eqs_cn, eqs_ci, eqs_cb, eqs_cs, Option.map_some, lenT_ofL, lst_ofL, lstSz_ofL, chunk_one, lst_nil, lst_sl, lstSz_sl, lstSz_nil, Bool.and_true, Bool.true_and, Bool.and_false, Bool.false_and, beq_self_eq_true, beq_bb, bne_bb, un_not, un_neg, conv_int, min2_int, max2_int, w64, w32, wu8, wu16, wu32, wu64, tdiv_nn, tmod_nn, cell_zero, cell_succ, cell_v, cells_v, cells_agg, Bool.not_true, Bool.not_false, Int.reduceLT, Int.reduceLE, Int.reduceEq, Int.reduceNeg, Int.reduceAdd, Int.reduceSub, Int.reduceMul, intOf_v, decide_true, decide_false, s1, s2, s3, s4, s5, s6, s7, s8, s9]; rfl) ?_)
    | (refine ex_bool ?_)
    | (refine ⟨_, judge 1 4 (by decide) (by decide) (by decide) (by decide), ?_⟩)
    | (refine ⟨_, judge 0 5 (by decide) (by decide) (by decide) (by decide), ?_⟩)
    | (refine ⟨_, judge 6 0 (by decide) (by decide) (by decide) (by decide), ?_⟩)
    | (refine ⟨_, judge 5 0 (by decide) (by decide) (by decide) (by decide), ?_⟩)
    | (refine ⟨_, carried 8 (by decide) (by decide), ?_⟩)
    | (refine ⟨_, carried 9 (by decide) (by decide), ?_⟩)
    | (refine ⟨_, fault _, ?_⟩)
    | (refine ⟨_, worst _ _ [0, 1, 0] [4, 4] (isL_sl _ _) (isL_sl _ _) (by decide) (by decide) (by decide) (by decide), ?_⟩)
    | (refine ⟨_, worse _ _ _ _, ?_⟩)
    | (refine And.intro ?_ ?_)
    | (intro hx; first | (cases hx; done) | (exfalso; revert hx; simp (disch := omega) only [decide_eq_true_eq, decide_eq_false_iff_not, Bool.not_eq_true', Bool.not_eq_false', Bool.and_eq_true, Bool.and_eq_false_iff, Int.not_lt, Int.not_le, ne_eq, not_false_eq_true, not_true_eq_false, reduceCtorEq, Bool.true_eq_false, Bool.false_eq_true, beq_iff_eq, bne_iff_ne, beq_eq_false_iff_ne, false_or, or_false, true_and, and_true, s1, s2, s3, s4, s5, s6, s7, s8, s9]; done) | (simp (disch := omega) only [decide_eq_true_eq, decide_eq_false_iff_not, Bool.not_eq_true', Bool.not_eq_false', Bool.and_eq_true, Bool.and_eq_false_iff, Int.not_lt, Int.not_le, ne_eq, not_false_eq_true, not_true_eq_false, reduceCtorEq, Bool.true_eq_false, Bool.false_eq_true, beq_iff_eq, bne_iff_ne, beq_eq_false_iff_ne, false_or, or_false, true_and, and_true, s1, s2, s3, s4, s5, s6, s7, s8, s9] at hx; first | (exfalso; omega) | skip) | skip)
    | trivial
    | exact fit_ofL _ _
    | (simp (disch := omega) only [notAgg_v, notAgg_sl, plain_v, fits, fitsOne, fitsCells, xsOf, cell_zero, cell_succ, List.range, List.range.loop, List.map, cond_true, cond_false, D.v.injEq, exists_eq', exists_eq, and_self, and_true, true_and, D.agg.injEq, List.length, exists_eq_left', D.sl.injEq, reduceCtorEq, false_or, true_or, or_true, or_false, cell_zero, cell_succ, cell_v, cells_v, cells_agg, List.length_cons, List.length_nil, s1, s2, s3, s4, s5, s6, s7, s8, s9]; done))
  all_goals first | (simp; done) | fail

end Go.Proofs.Ytimfgdlkekghaaa