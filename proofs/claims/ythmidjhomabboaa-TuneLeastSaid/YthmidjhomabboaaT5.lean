/-
  Layer 26: TuneBack, TuneLeast.
-/
import Derived.Test.YthmidjhomabboaaT4
namespace Go.Proofs.Ythmidjhomabboaa
open Go.RowKit
set_option linter.unusedSimpArgs false
set_option linter.unusedVariables false


theorem fit1 {n : Int} (h : 0 ≤ n ∧ n ≤ 8) : fitsF 1 n = true := by simp [fitsF]; omega
theorem fit2 {n : Int} (h : 1 ≤ n ∧ n ≤ 4096) : fitsF 2 n = true := by simp [fitsF]; omega
theorem fit3 {n : Int} (h : 1 ≤ n ∧ n ≤ 1048576) : fitsF 3 n = true := by simp [fitsF]; omega
theorem fit4 {n : Int} (h : 1 ≤ n ∧ n ≤ 32) : fitsF 4 n = true := by simp [fitsF]; omega
theorem ap_diff {a b c d a2 b2 c2 d2 : Int} (hc : chkV a b c d = 0) (hc2 : chkV a2 b2 c2 d2 = 0) : applyF ⟨a, b, c, d⟩ (diffL a b c d a2 b2 c2 d2) = (⟨a2, b2, c2, d2⟩, 0) := by
  have h := chk_ok hc2
  have f1 := fit1 (n := a2) (by omega)
  have f2 := fit2 (n := b2) (by omega)
  have f3 := fit3 (n := c2) (by omega)
  have f4 := fit4 (n := d2) (by omega)
  simp only [applyF, hc, if_true, diffL, d1]
  (repeat' split) <;> simp_all [runA, Q.set]
theorem ap_again {a b c d a2 b2 c2 d2 : Int} (hc2 : chkV a2 b2 c2 d2 = 0) : applyF ⟨a2, b2, c2, d2⟩ (diffL a b c d a2 b2 c2 d2) = (⟨a2, b2, c2, d2⟩, 0) := by
  have h := chk_ok hc2
  have f1 := fit1 (n := a2) (by omega)
  have f2 := fit2 (n := b2) (by omega)
  have f3 := fit3 (n := c2) (by omega)
  have f4 := fit4 (n := d2) (by omega)
  simp only [applyF, hc2, if_true, diffL, d1]
  (repeat' split) <;> simp_all [runA, Q.set]
theorem ap_all {a b c d a2 b2 c2 d2 : Int} (hc : chkV a b c d = 0) (hc2 : chkV a2 b2 c2 d2 = 0) : applyF ⟨a, b, c, d⟩ [(1, a2), (2, b2), (3, c2), (4, d2)] = (⟨a2, b2, c2, d2⟩, 0) := by
  have h := chk_ok hc2
  have f1 := fit1 (n := a2) (by omega)
  have f2 := fit2 (n := b2) (by omega)
  have f3 := fit3 (n := c2) (by omega)
  have f4 := fit4 (n := d2) (by omega)
  simp [applyF, hc, runA, Q.set, f1, f2, f3, f4]
theorem diff_nil {a b c d a2 b2 c2 d2 : Int} : (diffL a b c d a2 b2 c2 d2).length = 0 ↔ (a = a2 ∧ b = b2 ∧ c = c2 ∧ d = d2) := by
  simp only [diffL, d1, List.length_append]
  (repeat' split) <;> simp <;> omega
theorem diffF_ok {a b c d a2 b2 c2 d2 : Int} (hc : chkV a b c d = 0) (hc2 : chkV a2 b2 c2 d2 = 0) : diffF a b c d a2 b2 c2 d2 = diffL a b c d a2 b2 c2 d2 := by simp [diffF, hc, hc2]
theorem diffF_no {a b c d a2 b2 c2 d2 : Int} (h : chkV a b c d = 8 ∨ chkV a2 b2 c2 d2 = 8) : diffF a b c d a2 b2 c2 d2 = [] := by rcases h with h | h <;> simp [diffF, h]
theorem enough_less {a b c d a2 b2 d2 : Int} (hc : chkV a b c d = 0) (hz : chkV (min a a2) (min b b2) c (min d d2) = 0) (h : enoughF a b c d = true) : enoughF (min a a2) (min b b2) c (min d d2) = true := by
  obtain ⟨h1, h2, h3, h4, h5, h6, h7, h8⟩ := chk_ok hc
  obtain ⟨g1, g2, g3, g4, g5, g6, g7, g8⟩ := chk_ok hz
  simp only [enoughF, Bool.and_eq_true, decide_eq_true_eq] at h ⊢
  have h0 := h.2
  have : 2 * min a a2 * min b b2 ≤ 2 * a * b := Int.mul_le_mul (by omega) (by omega) (by omega) (by omega)
  exact ⟨hz, by omega⟩

theorem vc_back (a b c d a2 b2 c2 d2 : Int) : Cond Try.prog (fun _ => none) Try.f3 [.agg [.v (.int .i64 a), .v (.int .i64 b), .v (.int .i64 c), .v (.int .i64 d)], .agg [.v (.int .i64 a2), .v (.int .i64 b2), .v (.int .i64 c2), .v (.int .i64 d2)]] [.v (.bool true)] = (((∃ (cs : List D), D.agg [D.v (Value.int IntKind.i64 a), D.v (Value.int IntKind.i64 b), D.v (Value.int IntKind.i64 c), D.v (Value.int IntKind.i64 d)] = D.agg cs ∧ cs.length = 4) ∧ (∃ (cs : List D), D.agg [D.v (Value.int IntKind.i64 a2), D.v (Value.int IntKind.i64 b2), D.v (Value.int IntKind.i64 c2), D.v (Value.int IntKind.i64 d2)] = D.agg cs ∧ cs.length = 4) ∧ True) ∧ ∃ (r : D), PureD Try.prog 5 [D.agg [D.v (Value.int IntKind.i64 a), D.v (Value.int IntKind.i64 b), D.v (Value.int IntKind.i64 c), D.v (Value.int IntKind.i64 d)]] [r] ∧ fits [(false, [none])] [r] ∧ ∃ (r_1 : D), D.bin BinOp.neq r (D.v (Value.int IntKind.i64 0)) = some r_1 ∧ ∃ (b_1 : Bool), r_1 = D.v (Value.bool b_1) ∧ (b_1 = false → ∃ (r : D), PureD Try.prog 5 [D.agg [D.v (Value.int IntKind.i64 a2), D.v (Value.int IntKind.i64 b2), D.v (Value.int IntKind.i64 c2), D.v (Value.int IntKind.i64 d2)]] [r] ∧ fits [(false, [none])] [r] ∧ ∃ (r_2 : D), D.bin BinOp.neq r (D.v (Value.int IntKind.i64 0)) = some r_2 ∧ ∃ (b_2 : Bool), r_2 = D.v (Value.bool b_2) ∧ (b_2 = true → ∃ (r : D), PureD Try.prog 6 [D.agg [D.v (Value.int IntKind.i64 a), D.v (Value.int IntKind.i64 b), D.v (Value.int IntKind.i64 c), D.v (Value.int IntKind.i64 d)], D.agg [D.v (Value.int IntKind.i64 a2), D.v (Value.int IntKind.i64 b2), D.v (Value.int IntKind.i64 c2), D.v (Value.int IntKind.i64 d2)]] [r] ∧ fits [(false, [some 2])] [r] ∧ ∃ (r_3 : D), D.lenT (TypeDesc.slice 39) r = some r_3 ∧ ∃ (r : D), D.bin BinOp.eql r_3 (D.v (Value.int IntKind.i64 0)) = some r ∧ ∃ (b : Bool), r = D.v (Value.bool b) ∧ (b = true → ∃ (r : D), PureD Try.prog 7 [] [r] ∧ fits [(false, [none])] [r] ∧ ((∃ (y : Value), r = D.v y) ∧ True) ∧ [r] = [D.v (Value.bool true)]) ∧ (b = false → (True ∧ True) ∧ [D.v (Value.bool false)] = [D.v (Value.bool true)])) ∧ (b_2 = false → ∃ (r : D), PureD Try.prog 6 [D.agg [D.v (Value.int IntKind.i64 a), D.v (Value.int IntKind.i64 b), D.v (Value.int IntKind.i64 c), D.v (Value.int IntKind.i64 d)], D.agg [D.v (Value.int IntKind.i64 a2), D.v (Value.int IntKind.i64 b2), D.v (Value.int IntKind.i64 c2), D.v (Value.int IntKind.i64 d2)]] [r] ∧ fits [(false, [some 2])] [r] ∧ ∃ (r_3 : D), ∃ (r_4 : D), PureD Try.prog 8 [D.agg [D.v (Value.int IntKind.i64 a), D.v (Value.int IntKind.i64 b), D.v (Value.int IntKind.i64 c), D.v (Value.int IntKind.i64 d)], r] [r_3, r_4] ∧ fits [(true, [none, none, none, none]), (false, [none])] [r_3, r_4] ∧ ∃ (r_5 : D), ∃ (r_6 : D), PureD Try.prog 8 [D.agg [r_3.cell 0, r_3.cell 1, r_3.cell 2, r_3.cell 3], r] [r_5, r_6] ∧ fits [(true, [none, none, none, none]), (false, [none])] [r_5, r_6] ∧ ∃ (r_7 : D), PureD Try.prog 9 [D.agg [D.v (Value.int IntKind.i64 a), D.v (Value.int IntKind.i64 b), D.v (Value.int IntKind.i64 c), D.v (Value.int IntKind.i64 d)], D.agg [D.v (Value.int IntKind.i64 a2), D.v (Value.int IntKind.i64 b2), D.v (Value.int IntKind.i64 c2), D.v (Value.int IntKind.i64 d2)]] [r_7] ∧ fits [(true, [none, none, none, none])] [r_7] ∧ ∃ (r_8 : D), PureD Try.prog 10 [D.agg [D.v (Value.int IntKind.i64 a2), D.v (Value.int IntKind.i64 b2), D.v (Value.int IntKind.i64 c2), D.v (Value.int IntKind.i64 d2)]] [r_8] ∧ fits [(false, [some 2])] [r_8] ∧ ∃ (r_9 : D), ∃ (r_10 : D), PureD Try.prog 8 [D.agg [D.v (Value.int IntKind.i64 a), D.v (Value.int IntKind.i64 b), D.v (Value.int IntKind.i64 c), D.v (Value.int IntKind.i64 d)], r_8] [r_9, r_10] ∧ fits [(true, [none, none, none, none]), (false, [none])] [r_9, r_10] ∧ ∃ (r_11 : Bool), eqs [EqK.i, EqK.i, EqK.i, EqK.i] [r_3.cell 0, r_3.cell 1, r_3.cell 2, r_3.cell 3] [D.v (Value.int IntKind.i64 a2), D.v (Value.int IntKind.i64 b2), D.v (Value.int IntKind.i64 c2), D.v (Value.int IntKind.i64 d2)] = some r_11 ∧ ∃ (b_3 : Bool), D.v (Value.bool r_11) = D.v (Value.bool b_3) ∧ (b_3 = true → ∃ (r_12 : D), D.bin BinOp.eql r_4 (D.v (Value.int IntKind.u32 0)) = some r_12 ∧ ∃ (b_4 : Bool), r_12 = D.v (Value.bool b_4) ∧ (b_4 = true → ∃ (r_13 : Bool), eqs [EqK.i, EqK.i, EqK.i, EqK.i] [r_5.cell 0, r_5.cell 1, r_5.cell 2, r_5.cell 3] [D.v (Value.int IntKind.i64 a2), D.v (Value.int IntKind.i64 b2), D.v (Value.int IntKind.i64 c2), D.v (Value.int IntKind.i64 d2)] = some r_13 ∧ ∃ (b_5 : Bool), D.v (Value.bool r_13) = D.v (Value.bool b_5) ∧ (b_5 = true → ∃ (r_14 : D), D.bin BinOp.eql r_6 (D.v (Value.int IntKind.u32 0)) = some r_14 ∧ ∃ (b_6 : Bool), r_14 = D.v (Value.bool b_6) ∧ (b_6 = true → ∃ (r_15 : Bool), eqs [EqK.i, EqK.i, EqK.i, EqK.i] [r_9.cell 0, r_9.cell 1, r_9.cell 2, r_9.cell 3] [D.v (Value.int IntKind.i64 a2), D.v (Value.int IntKind.i64 b2), D.v (Value.int IntKind.i64 c2), D.v (Value.int IntKind.i64 d2)] = some r_15 ∧ ∃ (b_7 : Bool), D.v (Value.bool r_15) = D.v (Value.bool b_7) ∧ (b_7 = true → ∃ (r_16 : D), D.bin BinOp.eql r_10 (D.v (Value.int IntKind.u32 0)) = some r_16 ∧ ∃ (b_8 : Bool), r_16 = D.v (Value.bool b_8) ∧ (b_8 = true → ∃ (r_17 : D), D.lenT (TypeDesc.slice 39) r = some r_17 ∧ ∃ (r : D), D.bin BinOp.eql r_17 (D.v (Value.int IntKind.i64 0)) = some r ∧ ∃ (r_18 : Bool), eqs [EqK.i, EqK.i, EqK.i, EqK.i] [D.v (Value.int IntKind.i64 a), D.v (Value.int IntKind.i64 b), D.v (Value.int IntKind.i64 c), D.v (Value.int IntKind.i64 d)] [D.v (Value.int IntKind.i64 a2), D.v (Value.int IntKind.i64 b2), D.v (Value.int IntKind.i64 c2), D.v (Value.int IntKind.i64 d2)] = some r_18 ∧ ∃ (r_19 : D), r.beq (D.v (Value.bool r_18)) = some r_19 ∧ ∃ (b_9 : Bool), r_19 = D.v (Value.bool b_9) ∧ (b_9 = true → ∃ (r : D), PureD Try.prog 11 [D.agg [D.v (Value.int IntKind.i64 a), D.v (Value.int IntKind.i64 b), D.v (Value.int IntKind.i64 c), D.v (Value.int IntKind.i64 d)]] [r] ∧ fits [(false, [none])] [r] ∧ ∃ (r_20 : D), D.un UnOp.not r = some r_20 ∧ ∃ (b : Bool), r_20 = D.v (Value.bool b) ∧ (b = false → ∃ (r : D), PureD Try.prog 11 [D.agg [r_7.cell 0, r_7.cell 1, D.v (Value.int IntKind.i64 c), r_7.cell 3]] [r] ∧ fits [(false, [none])] [r] ∧ ∃ (b : Bool), r = D.v (Value.bool b) ∧ (b = true → ∃ (r : D), PureD Try.prog 5 [D.agg [r_7.cell 0, r_7.cell 1, D.v (Value.int IntKind.i64 c), r_7.cell 3]] [r] ∧ fits [(false, [none])] [r] ∧ ∃ (r_21 : D), D.bin BinOp.eql r (D.v (Value.int IntKind.i64 0)) = some r_21 ∧ ∃ (b : Bool), r_21 = D.v (Value.bool b) ∧ (b = true → ∃ (r : D), PureD Try.prog 7 [] [r] ∧ fits [(false, [none])] [r] ∧ ((∃ (y : Value), r = D.v y) ∧ True) ∧ [r] = [D.v (Value.bool true)]) ∧ (b = false → (True ∧ True) ∧ [D.v (Value.bool false)] = [D.v (Value.bool true)])) ∧ (b = false → (True ∧ True) ∧ [D.v (Value.bool false)] = [D.v (Value.bool true)])) ∧ (b = true → ∃ (r : D), PureD Try.prog 5 [D.agg [r_7.cell 0, r_7.cell 1, D.v (Value.int IntKind.i64 c), r_7.cell 3]] [r] ∧ fits [(false, [none])] [r] ∧ ∃ (r_21 : D), D.bin BinOp.eql r (D.v (Value.int IntKind.i64 0)) = some r_21 ∧ ∃ (b : Bool), r_21 = D.v (Value.bool b) ∧ (b = true → ∃ (r : D), PureD Try.prog 7 [] [r] ∧ fits [(false, [none])] [r] ∧ ((∃ (y : Value), r = D.v y) ∧ True) ∧ [r] = [D.v (Value.bool true)]) ∧ (b = false → (True ∧ True) ∧ [D.v (Value.bool false)] = [D.v (Value.bool true)]))) ∧ (b_9 = false → (True ∧ True) ∧ [D.v (Value.bool false)] = [D.v (Value.bool true)])) ∧ (b_8 = false → (True ∧ True) ∧ [D.v (Value.bool false)] = [D.v (Value.bool true)])) ∧ (b_7 = false → (True ∧ True) ∧ [D.v (Value.bool false)] = [D.v (Value.bool true)])) ∧ (b_6 = false → (True ∧ True) ∧ [D.v (Value.bool false)] = [D.v (Value.bool true)])) ∧ (b_5 = false → (True ∧ True) ∧ [D.v (Value.bool false)] = [D.v (Value.bool true)])) ∧ (b_4 = false → (True ∧ True) ∧ [D.v (Value.bool false)] = [D.v (Value.bool true)])) ∧ (b_3 = false → (True ∧ True) ∧ [D.v (Value.bool false)] = [D.v (Value.bool true)]))) ∧ (b_1 = true → ∃ (r : D), PureD Try.prog 6 [D.agg [D.v (Value.int IntKind.i64 a), D.v (Value.int IntKind.i64 b), D.v (Value.int IntKind.i64 c), D.v (Value.int IntKind.i64 d)], D.agg [D.v (Value.int IntKind.i64 a2), D.v (Value.int IntKind.i64 b2), D.v (Value.int IntKind.i64 c2), D.v (Value.int IntKind.i64 d2)]] [r] ∧ fits [(false, [some 2])] [r] ∧ ∃ (r_2 : D), D.lenT (TypeDesc.slice 39) r = some r_2 ∧ ∃ (r : D), D.bin BinOp.eql r_2 (D.v (Value.int IntKind.i64 0)) = some r ∧ ∃ (b : Bool), r = D.v (Value.bool b) ∧ (b = true → ∃ (r : D), PureD Try.prog 7 [] [r] ∧ fits [(false, [none])] [r] ∧ ((∃ (y : Value), r = D.v y) ∧ True) ∧ [r] = [D.v (Value.bool true)]) ∧ (b = false → (True ∧ True) ∧ [D.v (Value.bool false)] = [D.v (Value.bool true)]))) := by kernel_rfl
set_option maxHeartbeats 8000000 in
theorem back (a b c d a2 b2 c2 d2 : Int)  : PureD Try.prog 3 [.agg [.v (.int .i64 a), .v (.int .i64 b), .v (.int .i64 c), .v (.int .i64 d)], .agg [.v (.int .i64 a2), .v (.int .i64 b2), .v (.int .i64 c2), .v (.int .i64 d2)]] [.v (.bool true)] := by
  refine pure_cond (Lp := (fun _ => none)) (by kernel_rfl) Try.func3 (by kernel_rfl) (by kernel_rfl) ?_
  rw [vc_back]
  rcases chk_two a b c d with hc | hc
  · rcases chk_two a2 b2 c2 d2 with hc2 | hc2
    · have hlen : (diffL a b c d a2 b2 c2 d2).length ≤ 100000 := Nat.le_trans (len_diff a b c d a2 b2 c2 d2) (by decide)
      have hz : chkV (min a a2) (min b b2) c (min d d2) = 0 := by
        have h1 := chk_ok hc
        have h2 := chk_ok hc2
        exact chk_mk (by omega)
      have hnil := @diff_nil a b c d a2 b2 c2 d2
      rcases he : enoughF a b c d with _ | _
      · repeat' (first
          | (refine ex_some (by simp (disch := omega) only [bin_add, bin_sub, bin_mul, bin_quo, bin_rem, bin_lss, bin_leq, bin_gtr, bin_geq, bin_eql, bin_neq, eqs_cn, eqs_ci, eqs_cb, eqs_cs, Option.map_some, lenT_ofL, lst_ofL, lstSz_ofL, chunk_one, lst_nil, lst_sl, lstSz_sl, lstSz_nil, Bool.and_true, Bool.true_and, Bool.and_false, Bool.false_and, beq_self_eq_true, beq_bb, bne_bb, un_not, un_neg, conv_int, min2_int, max2_int, w64, w32, wu8, wu16, wu32, wu64, tdiv_nn, tmod_nn, cell_zero, cell_succ, Bool.not_true, Bool.not_false, Int.reduceLT, Int.reduceLE, Int.reduceEq, Int.reduceNeg, Int.reduceAdd, Int.reduceSub, Int.reduceMul, intOf_v, decide_true, decide_false, prs_len]; rfl) ?_)
          | (refine ex_bool ?_)
          | (refine ⟨_, ck_of hc, ?_⟩)
          | (refine ⟨_, ck_of hc2, ?_⟩)
          | (refine ⟨_, df_of (diffF_ok hc hc2), ?_⟩)
          | (refine ⟨_, _, ap_of (isL_ofL _ _) hlen (ap_diff hc hc2), ?_⟩)
          | (refine ⟨_, _, ap_of (isL_ofL _ _) hlen (ap_again hc2), ?_⟩)
          | (refine ⟨_, _, ap_of (isL_ofL _ _) (by simp) (ap_all hc hc2), ?_⟩)
          | (refine ⟨_, least _ _ _ _ _ _ _ _, ?_⟩)
          | (refine ⟨_, pairs _ _ _ _, ?_⟩)
          | (refine ⟨_, en_of he, ?_⟩)
          | (refine ⟨_, en_of (enough_less hc hz he), ?_⟩)
          | (refine ⟨_, ck_of hz, ?_⟩)
          | (refine ⟨_, enough _ _ _ _, ?_⟩)
          | (refine ⟨_, awake, ?_⟩)
          | (refine And.intro ?_ ?_)
          | (intro hx; first | (cases hx; done) | (exfalso; revert hx; simp (disch := omega) only [decide_eq_true_eq, decide_eq_false_iff_not, Bool.not_eq_true', Bool.not_eq_false', Bool.and_eq_true, Bool.and_eq_false_iff, Int.not_lt, Int.not_le, ne_eq, not_false_eq_true, not_true_eq_false, reduceCtorEq, Bool.true_eq_false, Bool.false_eq_true, beq_iff_eq, bne_iff_ne, beq_eq_false_iff_ne, false_or, or_false, true_and, and_true, prs_len]; done) | (simp (disch := omega) only [decide_eq_true_eq, decide_eq_false_iff_not, Bool.not_eq_true', Bool.not_eq_false', Bool.and_eq_true, Bool.and_eq_false_iff, Int.not_lt, Int.not_le, ne_eq, not_false_eq_true, not_true_eq_false, reduceCtorEq, Bool.true_eq_false, Bool.false_eq_true, beq_iff_eq, bne_iff_ne, beq_eq_false_iff_ne, false_or, or_false, true_and, and_true, prs_len] at hx; first | (exfalso; omega) | skip) | skip)
          | trivial
          | exact fit_ofL _ _
          | (simp (disch := omega) only [notAgg_v, notAgg_sl, plain_v, fits, fitsOne, fitsCells, xsOf, cell_zero, cell_succ, List.range, List.range.loop, List.map, cond_true, cond_false, D.v.injEq, exists_eq', exists_eq, and_self, and_true, true_and, D.agg.injEq, List.length, exists_eq_left', D.sl.injEq, reduceCtorEq, false_or, true_or, or_true, or_false, cell_zero, cell_succ, prs_len]; done))
        all_goals first
          | (exfalso; omega)
          | (exfalso; apply hx; rw [Bool.eq_iff_iff]; simp only [decide_eq_true_eq, Bool.and_eq_true, beq_iff_eq]; omega)
          | (simp_all; done)
          | fail
      · repeat' (first
          | (refine ex_some (by simp (disch := omega) only [bin_add, bin_sub, bin_mul, bin_quo, bin_rem, bin_lss, bin_leq, bin_gtr, bin_geq, bin_eql, bin_neq, eqs_cn, eqs_ci, eqs_cb, eqs_cs, Option.map_some, lenT_ofL, lst_ofL, lstSz_ofL, chunk_one, lst_nil, lst_sl, lstSz_sl, lstSz_nil, Bool.and_true, Bool.true_and, Bool.and_false, Bool.false_and, beq_self_eq_true, beq_bb, bne_bb, un_not, un_neg, conv_int, min2_int, max2_int, w64, w32, wu8, wu16, wu32, wu64, tdiv_nn, tmod_nn, cell_zero, cell_succ, Bool.not_true, Bool.not_false, Int.reduceLT, Int.reduceLE, Int.reduceEq, Int.reduceNeg, Int.reduceAdd, Int.reduceSub, Int.reduceMul, intOf_v, decide_true, decide_false, prs_len]; rfl) ?_)
          | (refine ex_bool ?_)
          | (refine ⟨_, ck_of hc, ?_⟩)
          | (refine ⟨_, ck_of hc2, ?_⟩)
          | (refine ⟨_, df_of (diffF_ok hc hc2), ?_⟩)
          | (refine ⟨_, _, ap_of (isL_ofL _ _) hlen (ap_diff hc hc2), ?_⟩)
          | (refine ⟨_, _, ap_of (isL_ofL _ _) hlen (ap_again hc2), ?_⟩)
          | (refine ⟨_, _, ap_of (isL_ofL _ _) (by simp) (ap_all hc hc2), ?_⟩)
          | (refine ⟨_, least _ _ _ _ _ _ _ _, ?_⟩)
          | (refine ⟨_, pairs _ _ _ _, ?_⟩)
          | (refine ⟨_, en_of he, ?_⟩)
          | (refine ⟨_, en_of (enough_less hc hz he), ?_⟩)
          | (refine ⟨_, ck_of hz, ?_⟩)
          | (refine ⟨_, enough _ _ _ _, ?_⟩)
          | (refine ⟨_, awake, ?_⟩)
          | (refine And.intro ?_ ?_)
          | (intro hx; first | (cases hx; done) | (exfalso; revert hx; simp (disch := omega) only [decide_eq_true_eq, decide_eq_false_iff_not, Bool.not_eq_true', Bool.not_eq_false', Bool.and_eq_true, Bool.and_eq_false_iff, Int.not_lt, Int.not_le, ne_eq, not_false_eq_true, not_true_eq_false, reduceCtorEq, Bool.true_eq_false, Bool.false_eq_true, beq_iff_eq, bne_iff_ne, beq_eq_false_iff_ne, false_or, or_false, true_and, and_true, prs_len]; done) | (simp (disch := omega) only [decide_eq_true_eq, decide_eq_false_iff_not, Bool.not_eq_true', Bool.not_eq_false', Bool.and_eq_true, Bool.and_eq_false_iff, Int.not_lt, Int.not_le, ne_eq, not_false_eq_true, not_true_eq_false, reduceCtorEq, Bool.true_eq_false, Bool.false_eq_true, beq_iff_eq, bne_iff_ne, beq_eq_false_iff_ne, false_or, or_false, true_and, and_true, prs_len] at hx; first | (exfalso; omega) | skip) | skip)
          | trivial
          | exact fit_ofL _ _
          | (simp (disch := omega) only [notAgg_v, notAgg_sl, plain_v, fits, fitsOne, fitsCells, xsOf, cell_zero, cell_succ, List.range, List.range.loop, List.map, cond_true, cond_false, D.v.injEq, exists_eq', exists_eq, and_self, and_true, true_and, D.agg.injEq, List.length, exists_eq_left', D.sl.injEq, reduceCtorEq, false_or, true_or, or_true, or_false, cell_zero, cell_succ, prs_len]; done))
        all_goals first
          | (exfalso; omega)
          | (exfalso; apply hx; rw [Bool.eq_iff_iff]; simp only [decide_eq_true_eq, Bool.and_eq_true, beq_iff_eq]; omega)
          | (simp_all; done)
          | fail
    · have hno : chkV a b c d = 8 ∨ chkV a2 b2 c2 d2 = 8 := .inr hc2
      repeat' (first
        | (refine ex_some (by simp (disch := omega) only [bin_add, bin_sub, bin_mul, bin_quo, bin_rem, bin_lss, bin_leq, bin_gtr, bin_geq, bin_eql, bin_neq, eqs_cn, eqs_ci, eqs_cb, eqs_cs, Option.map_some, lenT_ofL, lst_ofL, lstSz_ofL, chunk_one, lst_nil, lst_sl, lstSz_sl, lstSz_nil, Bool.and_true, Bool.true_and, Bool.and_false, Bool.false_and, beq_self_eq_true, beq_bb, bne_bb, un_not, un_neg, conv_int, min2_int, max2_int, w64, w32, wu8, wu16, wu32, wu64, tdiv_nn, tmod_nn, cell_zero, cell_succ, Bool.not_true, Bool.not_false, Int.reduceLT, Int.reduceLE, Int.reduceEq, Int.reduceNeg, Int.reduceAdd, Int.reduceSub, Int.reduceMul, intOf_v, decide_true, decide_false, prs_len]; rfl) ?_)
        | (refine ex_bool ?_)
        | (refine ⟨_, ck_of hc, ?_⟩)
        | (refine ⟨_, ck_of hc2, ?_⟩)
        | (refine ⟨_, df_of (diffF_no hno), ?_⟩)
        | (refine ⟨_, awake, ?_⟩)
        | (refine And.intro ?_ ?_)
        | (intro hx; first | (cases hx; done) | (exfalso; revert hx; simp (disch := omega) only [decide_eq_true_eq, decide_eq_false_iff_not, Bool.not_eq_true', Bool.not_eq_false', Bool.and_eq_true, Bool.and_eq_false_iff, Int.not_lt, Int.not_le, ne_eq, not_false_eq_true, not_true_eq_false, reduceCtorEq, Bool.true_eq_false, Bool.false_eq_true, beq_iff_eq, bne_iff_ne, beq_eq_false_iff_ne, false_or, or_false, true_and, and_true, prs_len]; done) | (simp (disch := omega) only [decide_eq_true_eq, decide_eq_false_iff_not, Bool.not_eq_true', Bool.not_eq_false', Bool.and_eq_true, Bool.and_eq_false_iff, Int.not_lt, Int.not_le, ne_eq, not_false_eq_true, not_true_eq_false, reduceCtorEq, Bool.true_eq_false, Bool.false_eq_true, beq_iff_eq, bne_iff_ne, beq_eq_false_iff_ne, false_or, or_false, true_and, and_true, prs_len] at hx; first | (exfalso; omega) | skip) | skip)
        | trivial
        | exact fit_ofL _ _
        | (simp (disch := omega) only [notAgg_v, notAgg_sl, plain_v, fits, fitsOne, fitsCells, xsOf, cell_zero, cell_succ, List.range, List.range.loop, List.map, cond_true, cond_false, D.v.injEq, exists_eq', exists_eq, and_self, and_true, true_and, D.agg.injEq, List.length, exists_eq_left', D.sl.injEq, reduceCtorEq, false_or, true_or, or_true, or_false, cell_zero, cell_succ, prs_len]; done))
      all_goals first
        | (exfalso; omega)
        | (exfalso; apply hx; rw [Bool.eq_iff_iff]; simp only [decide_eq_true_eq, Bool.and_eq_true, beq_iff_eq]; omega)
        | (simp_all; done)
        | fail
  · have hno : chkV a b c d = 8 ∨ chkV a2 b2 c2 d2 = 8 := .inl hc
    have hc2 := rfl (a := chkV a2 b2 c2 d2)
    repeat' (first
      | (refine ex_some (by simp (disch := omega) only [bin_add, bin_sub, bin_mul, bin_quo, bin_rem, bin_lss, bin_leq, bin_gtr, bin_geq, bin_eql, bin_neq, eqs_cn, eqs_ci, eqs_cb, eqs_cs, Option.map_some, lenT_ofL, lst_ofL, lstSz_ofL, chunk_one, lst_nil, lst_sl, lstSz_sl, lstSz_nil, Bool.and_true, Bool.true_and, Bool.and_false, Bool.false_and, beq_self_eq_true, beq_bb, bne_bb, un_not, un_neg, conv_int, min2_int, max2_int, w64, w32, wu8, wu16, wu32, wu64, tdiv_nn, tmod_nn, cell_zero, cell_succ, Bool.not_true, Bool.not_false, Int.reduceLT, Int.reduceLE, Int.reduceEq, Int.reduceNeg, Int.reduceAdd, Int.reduceSub, Int.reduceMul, intOf_v, decide_true, decide_false, prs_len]; rfl) ?_)
      | (refine ex_bool ?_)
      | (refine ⟨_, ck_of hc, ?_⟩)
      | (refine ⟨_, ck_of hc2, ?_⟩)
      | (refine ⟨_, df_of (diffF_no hno), ?_⟩)
      | (refine ⟨_, awake, ?_⟩)
      | (refine And.intro ?_ ?_)
      | (intro hx; first | (cases hx; done) | (exfalso; revert hx; simp (disch := omega) only [decide_eq_true_eq, decide_eq_false_iff_not, Bool.not_eq_true', Bool.not_eq_false', Bool.and_eq_true, Bool.and_eq_false_iff, Int.not_lt, Int.not_le, ne_eq, not_false_eq_true, not_true_eq_false, reduceCtorEq, Bool.true_eq_false, Bool.false_eq_true, beq_iff_eq, bne_iff_ne, beq_eq_false_iff_ne, false_or, or_false, true_and, and_true, prs_len]; done) | (simp (disch := omega) only [decide_eq_true_eq, decide_eq_false_iff_not, Bool.not_eq_true', Bool.not_eq_false', Bool.and_eq_true, Bool.and_eq_false_iff, Int.not_lt, Int.not_le, ne_eq, not_false_eq_true, not_true_eq_false, reduceCtorEq, Bool.true_eq_false, Bool.false_eq_true, beq_iff_eq, bne_iff_ne, beq_eq_false_iff_ne, false_or, or_false, true_and, and_true, prs_len] at hx; first | (exfalso; omega) | skip) | skip)
      | trivial
      | exact fit_ofL _ _
      | (simp (disch := omega) only [notAgg_v, notAgg_sl, plain_v, fits, fitsOne, fitsCells, xsOf, cell_zero, cell_succ, List.range, List.range.loop, List.map, cond_true, cond_false, D.v.injEq, exists_eq', exists_eq, and_self, and_true, true_and, D.agg.injEq, List.length, exists_eq_left', D.sl.injEq, reduceCtorEq, false_or, true_or, or_true, or_false, cell_zero, cell_succ, prs_len]; done))
    all_goals first
      | (exfalso; omega)
      | (exfalso; apply hx; rw [Bool.eq_iff_iff]; simp only [decide_eq_true_eq, Bool.and_eq_true, beq_iff_eq]; omega)
      | (simp_all; done)
      | fail

end Go.Proofs.Ythmidjhomabboaa