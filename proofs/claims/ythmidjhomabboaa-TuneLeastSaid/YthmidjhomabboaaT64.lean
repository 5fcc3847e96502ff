/-
  Layer 26: TuneLeast, one of its six cases.
-/
import Derived.Test.YthmidjhomabboaaT6
namespace Go.Proofs.Ythmidjhomabboaa
open Go.RowKit
set_option linter.unusedSimpArgs false
set_option linter.unusedVariables false

set_option maxHeartbeats 20000000 in
theorem least_yy (a b c d a2 b2 c2 d2 i n : Int) (e f g h r : Int) (hap0 : applyF ⟨a, b, c, d⟩ [(5, n), (0, n), (-1, n)] = (⟨a, b, c, d⟩, 0)) (hap : applyF ⟨a, b, c, d⟩ [(i, n)] = (⟨e, f, g, h⟩, r)) (hc : chkV a b c d = 0) (hc2 : chkV a2 b2 c2 d2 = 0) (hr : r = 0) (hb : chkV e f g h = 0) (ho : i < 1 ∨ 4 < i ∨ e = n ∨ f = n ∨ g = n ∨ h = n) : PureD Try.prog 4 [.agg [.v (.int .i64 a), .v (.int .i64 b), .v (.int .i64 c), .v (.int .i64 d)], .agg [.v (.int .i64 a2), .v (.int .i64 b2), .v (.int .i64 c2), .v (.int .i64 d2)], .agg [.v (.int .i64 i), .v (.int .i64 n)]] [.v (.bool true)] := by
  refine pure_cond (Lp := (fun _ => none)) (by kernel_rfl) Try.func4 (by kernel_rfl) (by kernel_rfl) ?_
  rw [vc_least_nn]
  subst hr
  have hz : chkV (min a a2) (min b b2) (min c c2) (min d d2) = 0 := by
    have h1 := chk_ok hc
    have h2 := chk_ok hc2
    exact chk_mk (by omega)
  repeat' (first
    | (refine ex_some (by simp (disch := omega) only [bin_add, bin_sub, bin_mul, bin_quo, bin_rem, bin_lss, bin_leq, bin_gtr, bin_geq, bin_eql, bin_neq, eqs_cn, eqs_ci, eqs_cb, eqs_cs, Option.map_some, lenT_ofL, lst_ofL, lstSz_ofL, chunk_one, lst_nil, lst_sl, lstSz_sl, lstSz_nil, Bool.and_true, Bool.true_and, Bool.and_false, Bool.false_and, beq_self_eq_true, beq_bb, bne_bb, un_not, un_neg, conv_int, min2_int, max2_int, w64, w32, wu8, wu16, wu32, wu64, tdiv_nn, tmod_nn, cell_zero, cell_succ, Bool.not_true, Bool.not_false, Int.reduceLT, Int.reduceLE, Int.reduceEq, Int.reduceNeg, Int.reduceAdd, Int.reduceSub, Int.reduceMul, intOf_v, decide_true, decide_false]; rfl) ?_)
    | (refine ex_bool ?_)
    | (refine ⟨_, ck_of hc, ?_⟩)
    | (refine ⟨_, ck_of hc2, ?_⟩)
    | (refine ⟨_, ck_of hz, ?_⟩)
    | (refine ⟨_, ck_of hb, ?_⟩)
    | (refine ⟨_, _, ap_of (isL_sl _ _) (by simp) hap0, ?_⟩)
    | (refine ⟨_, _, ap_of (isL_sl _ _) (by simp) hap, ?_⟩)
    | (refine ⟨_, least _ _ _ _ _ _ _ _, ?_⟩)
    | (refine ⟨_, awake, ?_⟩)
    | (refine And.intro ?_ ?_)
    | (intro hx; first | (cases hx; done) | (exfalso; revert hx; simp (disch := omega) only [decide_eq_true_eq, decide_eq_false_iff_not, Bool.not_eq_true', Bool.not_eq_false', Bool.and_eq_true, Bool.and_eq_false_iff, Int.not_lt, Int.not_le, ne_eq, not_false_eq_true, not_true_eq_false, reduceCtorEq, Bool.true_eq_false, Bool.false_eq_true, beq_iff_eq, bne_iff_ne, beq_eq_false_iff_ne, false_or, or_false, true_and, and_true]; done) | (simp (disch := omega) only [decide_eq_true_eq, decide_eq_false_iff_not, Bool.not_eq_true', Bool.not_eq_false', Bool.and_eq_true, Bool.and_eq_false_iff, Int.not_lt, Int.not_le, ne_eq, not_false_eq_true, not_true_eq_false, reduceCtorEq, Bool.true_eq_false, Bool.false_eq_true, beq_iff_eq, bne_iff_ne, beq_eq_false_iff_ne, false_or, or_false, true_and, and_true] at hx; first | (exfalso; omega) | skip) | skip)
    | trivial
    | exact fit_ofL _ _
    | (simp (disch := omega) only [notAgg_v, notAgg_sl, plain_v, fits, fitsOne, fitsCells, xsOf, cell_zero, cell_succ, List.range, List.range.loop, List.map, cond_true, cond_false, D.v.injEq, exists_eq', exists_eq, and_self, and_true, true_and, D.agg.injEq, List.length, exists_eq_left', D.sl.injEq, reduceCtorEq, false_or, true_or, or_true, or_false, cell_zero, cell_succ]; done))
  all_goals first
    | (exfalso; omega)
    | (simp_all; done)
    | fail
end Go.Proofs.Ythmidjhomabboaa
