/-
  Layer 26: what every right program settles on.
-/
import Derived.Test.YthmidjhomabboaaT3
namespace Go.Proofs.Ythmidjhomabboaa
open Go.RowKit
set_option linter.unusedSimpArgs false
set_option linter.unusedVariables false


theorem ap_of {a b c d e f g h r : Int} {x : D} {zs : List (Int × Int)} (hx : IsL 2 (prs zs) x) (hl : zs.length ≤ 100000) (hr : applyF ⟨a, b, c, d⟩ zs = (⟨e, f, g, h⟩, r)) : PureD Try.prog 8 [.agg [.v (.int .i64 a), .v (.int .i64 b), .v (.int .i64 c), .v (.int .i64 d)], x] [.agg [.v (.int .i64 e), .v (.int .i64 f), .v (.int .i64 g), .v (.int .i64 h)], .v (.int .u32 r)] := by
  have := applyO a b c d x zs hx hl
  rw [hr] at this; exact this
theorem df_of {a b c d e f g h : Int} {zs : List (Int × Int)} (hr : diffF a b c d e f g h = zs) : PureD Try.prog 6 [.agg [.v (.int .i64 a), .v (.int .i64 b), .v (.int .i64 c), .v (.int .i64 d)], .agg [.v (.int .i64 e), .v (.int .i64 f), .v (.int .i64 g), .v (.int .i64 h)]] [ofL 2 (prs zs)] := by
  have := diff a b c d e f g h
  rw [hr] at this; exact this
theorem en_of {a b c d : Int} {r : Bool} (hr : enoughF a b c d = r) : PureD Try.prog 11 [.agg [.v (.int .i64 a), .v (.int .i64 b), .v (.int .i64 c), .v (.int .i64 d)]] [.v (.bool r)] := by
  have := enough a b c d
  rw [hr] at this; exact this
theorem ck_of {a b c d r : Int} (hr : chkV a b c d = r) : PureD Try.prog 5 [.agg [.v (.int .i64 a), .v (.int .i64 b), .v (.int .i64 c), .v (.int .i64 d)]] [.v (.int .i64 r)] := by
  have := check a b c d
  rw [hr] at this; exact this
theorem le_of {a b c d e f g h m0 m1 m2 m3 : Int} (h0 : min a e = m0) (h1 : min b f = m1) (h2 : min c g = m2) (h3 : min d h = m3) : PureD Try.prog 9 [.agg [.v (.int .i64 a), .v (.int .i64 b), .v (.int .i64 c), .v (.int .i64 d)], .agg [.v (.int .i64 e), .v (.int .i64 f), .v (.int .i64 g), .v (.int .i64 h)]] [.agg [.v (.int .i64 m0), .v (.int .i64 m1), .v (.int .i64 m2), .v (.int .i64 m3)]] := by
  have := least a b c d e f g h
  rw [h0, h1, h2, h3] at this; exact this
theorem sm_of {x y : D} {zs ys : List (Int × Int)} {r : Bool} (hx : IsL 2 (prs zs) x) (hy : IsL 2 (prs ys) y) (ha : zs.length ≤ 100000) (hb : ys.length ≤ 100000) (hr : sameP zs ys = r) : PureD Try.prog 15 [x, y] [.v (.bool r)] := by
  have := same x y zs ys hx hy ha hb
  rw [hr] at this; exact this

theorem vc_awake  : Cond Try.prog (fun _ => none) Try.f7 [] [.v (.bool true)] = (True ∧ ∃ (r : D), PureD Try.prog 14 [] [r] ∧ fits [(true, [none, none, none, none])] [r] ∧ ∃ (r_1 : D), ∃ (r_2 : D), PureD Try.prog 8 [D.agg [r.cell 0, r.cell 1, r.cell 2, r.cell 3], D.sl 2 (chunks true 2 3 [D.v (Value.int IntKind.i64 2), D.v (Value.int IntKind.i64 100), D.v (Value.int IntKind.i64 9), D.v (Value.int IntKind.i64 0), D.v (Value.int IntKind.i64 1), D.v (Value.int IntKind.i64 3)])] [r_1, r_2] ∧ fits [(true, [none, none, none, none]), (false, [none])] [r_1, r_2] ∧ ∃ (r_3 : D), ∃ (r_4 : D), PureD Try.prog 8 [D.agg [r.cell 0, r.cell 1, r.cell 2, r.cell 3], D.sl 2 (chunks true 2 1 [D.v (Value.int IntKind.i64 3), D.v (Value.int IntKind.i64 0)])] [r_3, r_4] ∧ fits [(true, [none, none, none, none]), (false, [none])] [r_3, r_4] ∧ ∃ (r_5 : D), ∃ (r_6 : D), PureD Try.prog 8 [D.agg [r.cell 0, r.cell 1, r.cell 2, r.cell 3], D.sl 2 (chunks true 2 1 [D.v (Value.int IntKind.i64 4), D.v (Value.int IntKind.i64 33)])] [r_5, r_6] ∧ fits [(true, [none, none, none, none]), (false, [none])] [r_5, r_6] ∧ ∃ (r_7 : D), ∃ (r_8 : D), PureD Try.prog 8 [D.agg [D.v (Value.int IntKind.i64 0), D.v (Value.int IntKind.i64 0), D.v (Value.int IntKind.i64 0), D.v (Value.int IntKind.i64 0)], D.v (Value.slice none 0 0)] [r_7, r_8] ∧ fits [(true, [none, none, none, none]), (false, [none])] [r_7, r_8] ∧ ∃ (r_9 : Bool), eqs [EqK.i, EqK.i, EqK.i, EqK.i] [r_1.cell 0, r_1.cell 1, r_1.cell 2, r_1.cell 3] [D.v (Value.int IntKind.i64 3), D.v (Value.int IntKind.i64 100), D.v (Value.int IntKind.i64 4096), D.v (Value.int IntKind.i64 32)] = some r_9 ∧ ∃ (b : Bool), D.v (Value.bool r_9) = D.v (Value.bool b) ∧ (b = true → ∃ (r_10 : D), D.bin BinOp.eql r_2 (D.v (Value.int IntKind.u32 0)) = some r_10 ∧ ∃ (b : Bool), r_10 = D.v (Value.bool b) ∧ (b = true → ∃ (r_11 : D), D.bin BinOp.eql r_4 (D.v (Value.int IntKind.u32 3)) = some r_11 ∧ ∃ (b : Bool), r_11 = D.v (Value.bool b) ∧ (b = true → ∃ (r_12 : D), D.bin BinOp.eql r_6 (D.v (Value.int IntKind.u32 1)) = some r_12 ∧ ∃ (b : Bool), r_12 = D.v (Value.bool b) ∧ (b = true → ∃ (r_13 : D), D.bin BinOp.eql r_8 (D.v (Value.int IntKind.u32 2)) = some r_13 ∧ ∃ (b : Bool), r_13 = D.v (Value.bool b) ∧ (b = true → ∃ (r_14 : D), PureD Try.prog 6 [D.agg [r.cell 0, r.cell 1, r.cell 2, r.cell 3], D.agg [r_1.cell 0, r_1.cell 1, r_1.cell 2, r_1.cell 3]] [r_14] ∧ fits [(false, [some 2])] [r_14] ∧ ∃ (r_15 : D), PureD Try.prog 15 [r_14, D.sl 2 (chunks true 2 2 [D.v (Value.int IntKind.i64 1), D.v (Value.int IntKind.i64 3), D.v (Value.int IntKind.i64 2), D.v (Value.int IntKind.i64 100)])] [r_15] ∧ fits [(false, [none])] [r_15] ∧ ∃ (b : Bool), r_15 = D.v (Value.bool b) ∧ (b = true → ∃ (r_16 : D), PureD Try.prog 11 [D.agg [r.cell 0, r.cell 1, r.cell 2, r.cell 3]] [r_16] ∧ fits [(false, [none])] [r_16] ∧ ∃ (b : Bool), r_16 = D.v (Value.bool b) ∧ (b = true → ∃ (r_17 : D), PureD Try.prog 11 [D.agg [D.v (Value.int IntKind.i64 8), D.v (Value.int IntKind.i64 257), D.v (Value.int IntKind.i64 4096), D.v (Value.int IntKind.i64 1)]] [r_17] ∧ fits [(false, [none])] [r_17] ∧ ∃ (r_18 : D), D.un UnOp.not r_17 = some r_18 ∧ ∃ (b : Bool), r_18 = D.v (Value.bool b) ∧ (b = true → ∃ (r_19 : D), PureD Try.prog 9 [D.agg [r_1.cell 0, r_1.cell 1, r_1.cell 2, r_1.cell 3], D.agg [D.v (Value.int IntKind.i64 5), D.v (Value.int IntKind.i64 50), D.v (Value.int IntKind.i64 9000), D.v (Value.int IntKind.i64 7)]] [r_19] ∧ fits [(true, [none, none, none, none])] [r_19] ∧ ∃ (r_20 : Bool), eqs [EqK.i, EqK.i, EqK.i, EqK.i] [r_19.cell 0, r_19.cell 1, r_19.cell 2, r_19.cell 3] [D.v (Value.int IntKind.i64 3), D.v (Value.int IntKind.i64 50), D.v (Value.int IntKind.i64 4096), D.v (Value.int IntKind.i64 7)] = some r_20 ∧ ∃ (b : Bool), D.v (Value.bool r_20) = D.v (Value.bool b) ∧ (b = true → ∃ (r_21 : D), PureD Try.prog 10 [D.agg [r.cell 0, r.cell 1, r.cell 2, r.cell 3]] [r_21] ∧ fits [(false, [some 2])] [r_21] ∧ ∃ (r : D), D.lenT (TypeDesc.slice 39) r_21 = some r ∧ ∃ (r_22 : D), D.bin BinOp.eql r (D.v (Value.int IntKind.i64 4)) = some r_22 ∧ ∃ (b : Bool), r_22 = D.v (Value.bool b) ∧ (b = true → ∃ (r : D), PureD Try.prog 5 [D.agg [r_1.cell 0, r_1.cell 1, r_1.cell 2, r_1.cell 3]] [r] ∧ fits [(false, [none])] [r] ∧ ∃ (r_23 : D), D.bin BinOp.eql r (D.v (Value.int IntKind.i64 0)) = some r_23 ∧ ∃ (b : Bool), r_23 = D.v (Value.bool b) ∧ (b = true → ∃ (r : D), PureD Try.prog 5 [D.agg [D.v (Value.int IntKind.i64 0), D.v (Value.int IntKind.i64 0), D.v (Value.int IntKind.i64 0), D.v (Value.int IntKind.i64 0)]] [r] ∧ fits [(false, [none])] [r] ∧ ∃ (r_24 : D), D.bin BinOp.eql r (D.v (Value.int IntKind.i64 8)) = some r_24 ∧ ∃ (b : Bool), r_24 = D.v (Value.bool b) ∧ ∃ (b : Bool), r_24 = D.v (Value.bool b) ∧ ∃ (b : Bool), r_24 = D.v (Value.bool b) ∧ ((∃ (y : Value), r_24 = D.v y) ∧ True) ∧ [r_24] = [D.v (Value.bool true)]) ∧ (b = false → (True ∧ True) ∧ [D.v (Value.bool false)] = [D.v (Value.bool true)])) ∧ (b = false → (True ∧ True) ∧ [D.v (Value.bool false)] = [D.v (Value.bool true)])) ∧ (b = false → (True ∧ True) ∧ [D.v (Value.bool false)] = [D.v (Value.bool true)])) ∧ (b = false → (True ∧ True) ∧ [D.v (Value.bool false)] = [D.v (Value.bool true)])) ∧ (b = false → (True ∧ True) ∧ [D.v (Value.bool false)] = [D.v (Value.bool true)])) ∧ (b = false → (True ∧ True) ∧ [D.v (Value.bool false)] = [D.v (Value.bool true)])) ∧ (b = false → (True ∧ True) ∧ [D.v (Value.bool false)] = [D.v (Value.bool true)])) ∧ (b = false → (True ∧ True) ∧ [D.v (Value.bool false)] = [D.v (Value.bool true)])) ∧ (b = false → (True ∧ True) ∧ [D.v (Value.bool false)] = [D.v (Value.bool true)])) ∧ (b = false → (True ∧ True) ∧ [D.v (Value.bool false)] = [D.v (Value.bool true)])) ∧ (b = false → (True ∧ True) ∧ [D.v (Value.bool false)] = [D.v (Value.bool true)])) := by kernel_rfl
set_option maxHeartbeats 8000000 in
theorem awake   : PureD Try.prog 7 [] [.v (.bool true)] := by
  refine pure_cond (Lp := (fun _ => none)) (by kernel_rfl) Try.func7 (by kernel_rfl) (by kernel_rfl) ?_
  rw [vc_awake]
  repeat' (first
    | (refine ex_some (by simp (disch := omega) only [bin_add, bin_sub, bin_mul, bin_quo, bin_rem, bin_lss, bin_leq, bin_gtr, bin_geq, bin_eql, bin_neq, eqs_cn, eqs_ci, eqs_cb, eqs_cs, Option.map_some, lenT_ofL, lst_ofL, lstSz_ofL, chunk_one, lst_nil, lst_sl, lstSz_sl, lstSz_nil, Bool.and_true, Bool.true_and, Bool.and_false, Bool.false_and, beq_self_eq_true, beq_bb, bne_bb, un_not, un_neg, conv_int, min2_int, max2_int, w64, w32, wu8, wu16, wu32, wu64, tdiv_nn, tmod_nn, cell_zero, cell_succ, Bool.not_true, Bool.not_false, Int.reduceLT, Int.reduceLE, Int.reduceEq, Int.reduceNeg, Int.reduceAdd, Int.reduceSub, Int.reduceMul, intOf_v, decide_true, decide_false, prs, List.map_cons, List.map_nil, List.length_cons, List.length_nil]; rfl) ?_)
    | (refine ex_bool ?_)
    | (refine ⟨_, first, ?_⟩)
    | (refine ⟨_, _, ap_of (zs := [(2, 100), (9, 0), (1, 3)]) (e := 3) (f := 100) (g := 4096) (h := 32) (r := 0) (isL_sl _ _) (by simp) (by decide), ?_⟩)
    | (refine ⟨_, _, ap_of (zs := [(3, 0)]) (e := 0) (f := 0) (g := 0) (h := 0) (r := 3) (isL_sl _ _) (by simp) (by decide), ?_⟩)
    | (refine ⟨_, _, ap_of (zs := [(4, 33)]) (e := 0) (f := 0) (g := 0) (h := 0) (r := 1) (isL_sl _ _) (by simp) (by decide), ?_⟩)
    | (refine ⟨_, _, ap_of (zs := []) (e := 0) (f := 0) (g := 0) (h := 0) (r := 2) (isL_nil _) (by simp) (by decide), ?_⟩)
    | (refine ⟨_, df_of (zs := [(1, 3), (2, 100)]) (by decide), ?_⟩)
    | (refine ⟨_, sm_of (r := true) (zs := [(1, 3), (2, 100)]) (ys := [(1, 3), (2, 100)]) (isL_ofL _ _) (isL_sl _ _) (by simp) (by simp) (by decide), ?_⟩)
    | (refine ⟨_, en_of (r := true) (by decide), ?_⟩)
    | (refine ⟨_, en_of (r := false) (by decide), ?_⟩)
    | (refine ⟨_, le_of (m0 := 3) (m1 := 50) (m2 := 4096) (m3 := 7) (by decide) (by decide) (by decide) (by decide), ?_⟩)
    | (refine ⟨_, pairs _ _ _ _, ?_⟩)
    | (refine ⟨_, ck_of (r := 0) (by decide), ?_⟩)
    | (refine ⟨_, ck_of (r := 8) (by decide), ?_⟩)
    | (refine And.intro ?_ ?_)
    | (intro hx; first | (cases hx; done) | (exfalso; revert hx; simp (disch := omega) only [decide_eq_true_eq, decide_eq_false_iff_not, Bool.not_eq_true', Bool.not_eq_false', Bool.and_eq_true, Bool.and_eq_false_iff, Int.not_lt, Int.not_le, ne_eq, not_false_eq_true, not_true_eq_false, reduceCtorEq, Bool.true_eq_false, Bool.false_eq_true, beq_iff_eq, bne_iff_ne, beq_eq_false_iff_ne, false_or, or_false, true_and, and_true, prs, List.map_cons, List.map_nil, List.length_cons, List.length_nil]; done) | (simp (disch := omega) only [decide_eq_true_eq, decide_eq_false_iff_not, Bool.not_eq_true', Bool.not_eq_false', Bool.and_eq_true, Bool.and_eq_false_iff, Int.not_lt, Int.not_le, ne_eq, not_false_eq_true, not_true_eq_false, reduceCtorEq, Bool.true_eq_false, Bool.false_eq_true, beq_iff_eq, bne_iff_ne, beq_eq_false_iff_ne, false_or, or_false, true_and, and_true, prs, List.map_cons, List.map_nil, List.length_cons, List.length_nil] at hx; first | (exfalso; omega) | skip) | skip)
    | trivial
    | exact fit_ofL _ _
    | (simp (disch := omega) only [notAgg_v, notAgg_sl, plain_v, fits, fitsOne, fitsCells, xsOf, cell_zero, cell_succ, List.range, List.range.loop, List.map, cond_true, cond_false, D.v.injEq, exists_eq', exists_eq, and_self, and_true, true_and, D.agg.injEq, List.length, exists_eq_left', D.sl.injEq, reduceCtorEq, false_or, true_or, or_true, or_false, cell_zero, cell_succ, prs, List.map_cons, List.map_nil, List.length_cons, List.length_nil]; done))
  all_goals first
    | (exfalso; omega)
    | fail

end Go.Proofs.Ythmidjhomabboaa