/-
  Layer 13: what every right program says, and hears.
-/
import Derived.Test.YtbeofckoonophaaT1
import Derived.Test.YtbeofckoonophaaT2
import Derived.Test.YtbeofckoonophaaT3
import Derived.Test.YtbeofckoonophaaT4
import Derived.Test.YtbeofckoonophaaT5
namespace Go.Proofs.Ytbeofckoonophaa
open Go.RowKit
set_option linter.unusedSimpArgs false
set_option linter.unusedVariables false


theorem isN : IsL 2 (prs []) (.v nilS) := .inr ⟨rfl, rfl⟩
theorem aw1 : askF 0 1 2 0 = 1 := by decide +kernel
theorem aw2 : outB 1 1 2 0 = true ∧ outB 2 1 2 4294967295 = true ∧ outB 3 1 2 7 = false := by decide +kernel
theorem aw3 : onF 0 1 2 7 0 1 1 2 4294967295 0 65535 0 0 = (2, 4294967295) := by decide +kernel
theorem aw4 : onF 1 1 2 4294967295 0 3 1 2 7 0 65535 0 0 = (3, 7) := by decide +kernel
theorem aw5 : onF 2 1 2 7 4294967295 2 1 2 0 8 0 0 0 = (3, 4294967295) := by decide +kernel
theorem aw6 : killF 3 1 2 4294967295 = 4 := by decide +kernel
theorem aw7 : fitF 1 2 1 1 2 0 65535 0 0 = true ∧ fitF 2 2 1 1 2 0 65535 0 0 = false := by decide +kernel
theorem aw8 : shChk 3 1 2 7 = 0 ∧ shChk 5 0 0 0 = 12 := by decide +kernel
theorem aw9 : nx 4294967295 = 0 := by decide +kernel

theorem vc_awake  : Cond Try.prog (fun _ => none) Try.f8 [] [.v (.bool true)] = (True ∧ ∃ (r : D), PureD Try.prog 25 [D.v (Value.int IntKind.i64 1), D.v (Value.int IntKind.i64 2), D.v (Value.int IntKind.u32 4294967295)] [r] ∧ fits [(true, [none, none, none, none, none])] [r] ∧ ∃ (r_1 : D), PureD Try.prog 15 [D.agg [r.cell 0, r.cell 1, r.cell 2, r.cell 3, r.cell 4]] [r_1] ∧ fits [(true, [none, none, none, none, none])] [r_1] ∧ ∃ (r : D), PureD Try.prog 25 [D.v (Value.int IntKind.i64 1), D.v (Value.int IntKind.i64 2), D.v (Value.int IntKind.u32 7)] [r] ∧ fits [(true, [none, none, none, none, none])] [r] ∧ ∃ (r_2 : D), ∃ (r_3 : D), PureD Try.prog 9 [D.agg [r_1.cell 0, r_1.cell 1, r_1.cell 2, r_1.cell 3, r_1.cell 4]] [r_2, r_3] ∧ fits [(true, [none, none, none, none, none, none, some 2, none]), (false, [none])] [r_2, r_3] ∧ ∃ (r_4 : D), PureD Try.prog 22 [D.agg [r.cell 0, r.cell 1, r.cell 2, r.cell 3, r.cell 4], D.agg [r_2.cell 0, r_2.cell 1, r_2.cell 2, r_2.cell 3, r_2.cell 4, r_2.cell 5, r_2.cell 6, r_2.cell 7]] [r_4] ∧ fits [(true, [none, none, none, none, none])] [r_4] ∧ ∃ (r : D), ∃ (r_5 : D), PureD Try.prog 9 [D.agg [r_4.cell 0, r_4.cell 1, r_4.cell 2, r_4.cell 3, r_4.cell 4]] [r, r_5] ∧ fits [(true, [none, none, none, none, none, none, some 2, none]), (false, [none])] [r, r_5] ∧ ∃ (r_6 : D), PureD Try.prog 22 [D.agg [r_1.cell 0, r_1.cell 1, r_1.cell 2, r_1.cell 3, r_1.cell 4], D.agg [r.cell 0, r.cell 1, r.cell 2, r.cell 3, r.cell 4, r.cell 5, r.cell 6, r.cell 7]] [r_6] ∧ fits [(true, [none, none, none, none, none])] [r_6] ∧ ∃ (r_7 : D), ∃ (r_8 : D), PureD Try.prog 9 [D.agg [r_6.cell 0, r_6.cell 1, r_6.cell 2, r_6.cell 3, r_6.cell 4]] [r_7, r_8] ∧ fits [(true, [none, none, none, none, none, none, some 2, none]), (false, [none])] [r_7, r_8] ∧ ∃ (r_9 : D), PureD Try.prog 22 [D.agg [r_4.cell 0, r_4.cell 1, r_4.cell 2, r_4.cell 3, r_4.cell 4], D.agg [D.v (Value.int IntKind.u8 2), D.v (Value.int IntKind.i64 1), D.v (Value.int IntKind.i64 2), D.v (Value.int IntKind.u32 0), D.v (Value.int IntKind.u32 8), D.v (Value.int IntKind.i64 0), D.v (Value.slice none 0 0), D.v (Value.string { data := { toList := [] } })]] [r_9] ∧ fits [(true, [none, none, none, none, none])] [r_9] ∧ ∃ (b : Bool), r_3 = D.v (Value.bool b) ∧ (b = true → ∃ (r_10 : D), D.bin BinOp.eql (r_2.cell 0) (D.v (Value.int IntKind.u8 1)) = some r_10 ∧ ∃ (b : Bool), r_10 = D.v (Value.bool b) ∧ (b = true → ∃ (r_11 : D), D.bin BinOp.eql (r_2.cell 3) (D.v (Value.int IntKind.u32 4294967295)) = some r_11 ∧ ∃ (b : Bool), r_11 = D.v (Value.bool b) ∧ (b = true → ∃ (r_12 : D), D.bin BinOp.eql (r_4.cell 0) (D.v (Value.int IntKind.u8 2)) = some r_12 ∧ ∃ (b : Bool), r_12 = D.v (Value.bool b) ∧ (b = true → ∃ (b : Bool), r_5 = D.v (Value.bool b) ∧ (b = true → ∃ (r_13 : D), D.bin BinOp.eql (r.cell 4) (D.v (Value.int IntKind.u32 0)) = some r_13 ∧ ∃ (b : Bool), r_13 = D.v (Value.bool b) ∧ (b = true → ∃ (r_14 : D), D.bin BinOp.eql (r.cell 3) (D.v (Value.int IntKind.u32 7)) = some r_14 ∧ ∃ (b : Bool), r_14 = D.v (Value.bool b) ∧ (b = true → ∃ (r : D), D.bin BinOp.eql (r_6.cell 0) (D.v (Value.int IntKind.u8 3)) = some r ∧ ∃ (b : Bool), r = D.v (Value.bool b) ∧ (b = true → ∃ (r : D), D.bin BinOp.eql (r_6.cell 4) (D.v (Value.int IntKind.u32 7)) = some r ∧ ∃ (b : Bool), r = D.v (Value.bool b) ∧ (b = true → ∃ (r : D), D.un UnOp.not r_8 = some r ∧ ∃ (b : Bool), r = D.v (Value.bool b) ∧ (b = true → ∃ (r : D), D.bin BinOp.eql (r_9.cell 0) (D.v (Value.int IntKind.u8 3)) = some r ∧ ∃ (b : Bool), r = D.v (Value.bool b) ∧ (b = true → ∃ (r : D), D.bin BinOp.eql (r_9.cell 4) (D.v (Value.int IntKind.u32 4294967295)) = some r ∧ ∃ (b : Bool), r = D.v (Value.bool b) ∧ (b = true → ∃ (r : D), PureD Try.prog 17 [D.agg [r_9.cell 0, r_9.cell 1, r_9.cell 2, r_9.cell 3, r_9.cell 4]] [r] ∧ fits [(true, [none, none, none, none, none])] [r] ∧ ∃ (r_15 : D), D.bin BinOp.eql (r.cell 0) (D.v (Value.int IntKind.u8 4)) = some r_15 ∧ ∃ (b : Bool), r_15 = D.v (Value.bool b) ∧ (b = true → ∃ (r : D), PureD Try.prog 20 [D.agg [r_6.cell 0, r_6.cell 1, r_6.cell 2, r_6.cell 3, r_6.cell 4], D.agg [r_2.cell 0, r_2.cell 1, r_2.cell 2, r_2.cell 3, r_2.cell 4, r_2.cell 5, r_2.cell 6, r_2.cell 7]] [r] ∧ fits [(false, [none])] [r] ∧ ∃ (b : Bool), r = D.v (Value.bool b) ∧ (b = true → ∃ (r : D), PureD Try.prog 25 [D.v (Value.int IntKind.i64 2), D.v (Value.int IntKind.i64 2), D.v (Value.int IntKind.u32 0)] [r] ∧ fits [(true, [none, none, none, none, none])] [r] ∧ ∃ (r_16 : D), PureD Try.prog 20 [D.agg [r.cell 0, r.cell 1, r.cell 2, r.cell 3, r.cell 4], D.agg [r_2.cell 0, r_2.cell 1, r_2.cell 2, r_2.cell 3, r_2.cell 4, r_2.cell 5, r_2.cell 6, r_2.cell 7]] [r_16] ∧ fits [(false, [none])] [r_16] ∧ ∃ (r : D), D.un UnOp.not r_16 = some r ∧ ∃ (b : Bool), r = D.v (Value.bool b) ∧ (b = true → ∃ (r : D), PureD Try.prog 13 [D.agg [r_6.cell 0, r_6.cell 1, r_6.cell 2, r_6.cell 3, r_6.cell 4]] [r] ∧ fits [(false, [none])] [r] ∧ ∃ (r_17 : D), D.bin BinOp.eql r (D.v (Value.int IntKind.i64 0)) = some r_17 ∧ ∃ (b : Bool), r_17 = D.v (Value.bool b) ∧ (b = true → ∃ (r : D), PureD Try.prog 13 [D.agg [D.v (Value.int IntKind.u8 5), D.v (Value.int IntKind.i64 0), D.v (Value.int IntKind.i64 0), D.v (Value.int IntKind.u32 0), D.v (Value.int IntKind.u32 0)]] [r] ∧ fits [(false, [none])] [r] ∧ ∃ (r_18 : D), D.bin BinOp.eql r (D.v (Value.int IntKind.i64 12)) = some r_18 ∧ ∃ (b : Bool), r_18 = D.v (Value.bool b) ∧ ∃ (b : Bool), r_18 = D.v (Value.bool b) ∧ ∃ (b : Bool), r_18 = D.v (Value.bool b) ∧ ((∃ (y : Value), r_18 = D.v y) ∧ True) ∧ [r_18] = [D.v (Value.bool true)]) ∧ (b = false → (True ∧ True) ∧ [D.v (Value.bool false)] = [D.v (Value.bool true)])) ∧ (b = false → (True ∧ True) ∧ [D.v (Value.bool false)] = [D.v (Value.bool true)])) ∧ (b = false → (True ∧ True) ∧ [D.v (Value.bool false)] = [D.v (Value.bool true)])) ∧ (b = false → (True ∧ True) ∧ [D.v (Value.bool false)] = [D.v (Value.bool true)])) ∧ (b = false → (True ∧ True) ∧ [D.v (Value.bool false)] = [D.v (Value.bool true)])) ∧ (b = false → (True ∧ True) ∧ [D.v (Value.bool false)] = [D.v (Value.bool true)])) ∧ (b = false → (True ∧ True) ∧ [D.v (Value.bool false)] = [D.v (Value.bool true)])) ∧ (b = false → (True ∧ True) ∧ [D.v (Value.bool false)] = [D.v (Value.bool true)])) ∧ (b = false → (True ∧ True) ∧ [D.v (Value.bool false)] = [D.v (Value.bool true)])) ∧ (b = false → (True ∧ True) ∧ [D.v (Value.bool false)] = [D.v (Value.bool true)])) ∧ (b = false → (True ∧ True) ∧ [D.v (Value.bool false)] = [D.v (Value.bool true)])) ∧ (b = false → (True ∧ True) ∧ [D.v (Value.bool false)] = [D.v (Value.bool true)])) ∧ (b = false → (True ∧ True) ∧ [D.v (Value.bool false)] = [D.v (Value.bool true)])) ∧ (b = false → (True ∧ True) ∧ [D.v (Value.bool false)] = [D.v (Value.bool true)])) ∧ (b = false → (True ∧ True) ∧ [D.v (Value.bool false)] = [D.v (Value.bool true)])) ∧ (b = false → (True ∧ True) ∧ [D.v (Value.bool false)] = [D.v (Value.bool true)])) := by kernel_rfl
set_option maxHeartbeats 8000000 in
theorem awake   : PureD Try.prog 8 [] [.v (.bool true)] := by
  refine pure_cond (Lp := (fun _ => none)) (by kernel_rfl) Try.func8 (by kernel_rfl) (by kernel_rfl) ?_
  rw [vc_awake]
  have N1 := new 1 2 4294967295
  have A1 := ask 0 1 2 4294967295 0 (by omega) (by omega) (by omega) (by omega) (by omega) (by omega)
  rw [aw1] at A1
  have N2 := new 1 2 7
  have O1 := out 1 1 2 4294967295 0 (by omega) (by omega) (by omega) (by omega) (by omega) (by omega)
  rw [show outD 1 1 2 4294967295 0 = mkSg 1 1 2 4294967295 0 by unfold outD; rw [aw2.1]; rfl, aw2.1] at O1
  unfold mkSg at O1
  have B1 := on 0 1 2 7 0 1 1 2 4294967295 0 65535 (.v nilS) [] [] (by omega) (by omega) (by omega) (by omega) (by omega) (by omega) isN (by simp) Bytes.nil (by simp) (by omega) (by omega) (by omega) (by omega) (by omega) (by omega)
  have E1 : onF 0 1 2 7 0 1 1 2 4294967295 0 65535 ([] : List (Int × Int)).length ([] : List Int).length = (2, 4294967295) := aw3
  rw [E1] at B1
  have O2 := out 2 1 2 7 4294967295 (by omega) (by omega) (by omega) (by omega) (by omega) (by omega)
  rw [show outD 2 1 2 7 4294967295 = mkSg 3 1 2 7 (nx 4294967295) by unfold outD; rw [aw2.2.1]; rfl, aw2.2.1, aw9] at O2
  unfold mkSg at O2
  have B2 := on 1 1 2 4294967295 0 3 1 2 7 0 65535 (.v nilS) [] [] (by omega) (by omega) (by omega) (by omega) (by omega) (by omega) isN (by simp) Bytes.nil (by simp) (by omega) (by omega) (by omega) (by omega) (by omega) (by omega)
  have E2 : onF 1 1 2 4294967295 0 3 1 2 7 0 65535 ([] : List (Int × Int)).length ([] : List Int).length = (3, 7) := aw4
  rw [E2] at B2
  have O3 := out 3 1 2 4294967295 7 (by omega) (by omega) (by omega) (by omega) (by omega) (by omega)
  rw [show outD 3 1 2 4294967295 7 = zSg by unfold outD; rw [aw2.2.2]; rfl, aw2.2.2] at O3
  unfold zSg at O3
  have B3 := on 2 1 2 7 4294967295 2 1 2 0 8 0 (.v nilS) [] [] (by omega) (by omega) (by omega) (by omega) (by omega) (by omega) isN (by simp) Bytes.nil (by simp) (by omega) (by omega) (by omega) (by omega) (by omega) (by omega)
  have E3 : onF 2 1 2 7 4294967295 2 1 2 0 8 0 ([] : List (Int × Int)).length ([] : List Int).length = (3, 4294967295) := aw5
  rw [E3] at B3
  have K1 := kill 3 1 2 7 4294967295 (by omega) (by omega) (by omega) (by omega) (by omega) (by omega)
  rw [aw6] at K1
  have F1 := fitS 3 1 2 4294967295 7 1 1 2 4294967295 0 65535 (.v nilS) [] [] (by omega) (by omega) (by omega) (by omega) (by omega) (by omega) isN (by simp) Bytes.nil (by simp) (by omega) (by omega)
  have E4 : fitF 1 2 1 1 2 0 65535 ([] : List (Int × Int)).length ([] : List Int).length = true := aw7.1
  rw [E4] at F1
  have N3 := new 2 2 0
  have F2 := fitS 0 2 2 0 0 1 1 2 4294967295 0 65535 (.v nilS) [] [] (by omega) (by omega) (by omega) (by omega) (by omega) (by omega) isN (by simp) Bytes.nil (by simp) (by omega) (by omega)
  have E5 : fitF 2 2 1 1 2 0 65535 ([] : List (Int × Int)).length ([] : List Int).length = false := aw7.2
  rw [E5] at F2
  have C1 := scheck 3 1 2 4294967295 7 (by omega) (by omega) (by omega) (by omega) (by omega) (by omega)
  rw [aw8.1] at C1
  have C2 := scheck 5 0 0 0 0 (by omega) (by omega) (by omega) (by omega) (by omega) (by omega)
  rw [aw8.2] at C2
  repeat' (first
    | (refine ex_some (by simp (disch := omega) only [bin_shr, bin_shl, bin_and, bin_or, bin_xor, len_str, toStr_ofL, bin_add, bin_sub, bin_mul, bin_quo, bin_rem, bin_lss, bin_leq, bin_gtr, bin_geq, bin_eql, bin_neq, eqs_cn, eqs_ci, eqs_cb, eqs_cs, Option.map_some, lenT_ofL, lst_ofL, lstSz_ofL, chunk_one, lst_nil, lst_sl, lstSz_sl, lstSz_nil, Bool.and_true, Bool.true_and, Bool.and_false, Bool.false_and, beq_self_eq_true, beq_bb, bne_bb, un_not, un_neg, conv_int, min2_int, max2_int, w64, w32, wu8, wu16, wu32, wu64, tdiv_nn, tmod_nn, cell_zero, cell_succ, cell_v, cells_v, cells_agg, Bool.not_true, Bool.not_false, Int.reduceLT, Int.reduceLE, Int.reduceEq, Int.reduceNeg, Int.reduceAdd, Int.reduceSub, Int.reduceMul, intOf_v, decide_true, decide_false]; rfl) ?_)
    | (refine ex_bool ?_)
    | (refine ⟨_, N1, ?_⟩)
    | (refine ⟨_, A1, ?_⟩)
    | (refine ⟨_, N2, ?_⟩)
    | (refine ⟨_, _, O1, ?_⟩)
    | (refine ⟨_, B1, ?_⟩)
    | (refine ⟨_, _, O2, ?_⟩)
    | (refine ⟨_, B2, ?_⟩)
    | (refine ⟨_, _, O3, ?_⟩)
    | (refine ⟨_, B3, ?_⟩)
    | (refine ⟨_, K1, ?_⟩)
    | (refine ⟨_, F1, ?_⟩)
    | (refine ⟨_, N3, ?_⟩)
    | (refine ⟨_, F2, ?_⟩)
    | (refine ⟨_, C1, ?_⟩)
    | (refine ⟨_, C2, ?_⟩)
    | (refine And.intro ?_ ?_)
    | (intro hx; have hprop := (show ∀ (p : Prop), p → True from fun _ _ => True.intro) _ hx; clear hprop; first | (cases hx; done) | (exfalso; revert hx; simp (disch := omega) only [decide_eq_true_eq, decide_eq_false_iff_not, Bool.not_eq_true', Bool.not_eq_false', Bool.and_eq_true, Bool.and_eq_false_iff, Int.not_lt, Int.not_le, ne_eq, not_false_eq_true, not_true_eq_false, reduceCtorEq, Bool.true_eq_false, Bool.false_eq_true, beq_iff_eq, bne_iff_ne, beq_eq_false_iff_ne, false_or, or_false, true_and, and_true]; done) | (simp (disch := omega) only [decide_eq_true_eq, decide_eq_false_iff_not, Bool.not_eq_true', Bool.not_eq_false', Bool.and_eq_true, Bool.and_eq_false_iff, Int.not_lt, Int.not_le, ne_eq, not_false_eq_true, not_true_eq_false, reduceCtorEq, Bool.true_eq_false, Bool.false_eq_true, beq_iff_eq, bne_iff_ne, beq_eq_false_iff_ne, false_or, or_false, true_and, and_true] at hx; first | (exfalso; omega) | skip) | skip)
    | trivial
    | exact fit_ofL _ _
    | (simp (disch := omega) only [notAgg_v, notAgg_sl, plain_v, fits, fitsOne, fitsCells, xsOf, cell_zero, cell_succ, List.range, List.range.loop, List.map, cond_true, cond_false, D.v.injEq, exists_eq', exists_eq, and_self, and_true, true_and, D.agg.injEq, List.length, exists_eq_left', D.sl.injEq, reduceCtorEq, false_or, true_or, or_true, or_false, cell_zero, cell_succ, cell_v, cells_v, cells_agg, List.length_cons, List.length_nil]; done))
  all_goals first | exact ⟨_, rfl⟩ | exact .inl rfl | omega | rfl | (simp; done) | fail

end Go.Proofs.Ytbeofckoonophaa