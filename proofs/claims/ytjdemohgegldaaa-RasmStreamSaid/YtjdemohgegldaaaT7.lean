/-
  Layer 12: what is read.
-/
import Derived.Test.YtjdemohgegldaaaT1
import Derived.Test.YtjdemohgegldaaaT2
import Derived.Test.YtjdemohgegldaaaT3
import Derived.Test.YtjdemohgegldaaaT4
import Derived.Test.YtjdemohgegldaaaT6
namespace Go.Proofs.Ytjdemohgegldaaa
open Go.RowKit
set_option linter.unusedSimpArgs false
set_option linter.unusedVariables false


def readN (b : Int) (r : List Int) (ps : List Pt) (n : Int) : Nat := if chkF b r.length ps = 0 ∧ 1 ≤ n then min n.toNat r.length else 0
theorem read_no {b : Int} {r : List Int} {ps : List Pt} {n : Int} (h : ¬ (chkF b r.length ps = 0 ∧ 1 ≤ n)) : readN b r ps n = 0 := if_neg h
theorem read_few {b : Int} {r : List Int} {ps : List Pt} {n : Int} (h : min n (r.length : Nat) < 1) : readN b r ps n = 0 := by unfold readN; split <;> omega
theorem read_yes {b : Int} {r : List Int} {ps : List Pt} {n : Int} {k : Nat} (h : chkF b r.length ps = 0) (hn : 1 ≤ n) (hk : min n (r.length : Nat) = (k : Int)) : readN b r ps n = k := by unfold readN; rw [if_pos ⟨h, hn⟩]; omega
theorem str_e : D.v (.string ⟨#[]⟩) = str [] := rfl

theorem vc_read (x : D) (ps : List Pt) (b : Int) (r : List Int) (n : Int) : Cond Try.prog (fun _ => none) Try.f28 [.agg [.v (.int .i64 b), str r, x], .v (.int .i64 n)] [.agg [.v (.int .i64 b), str (r.drop (readN b r ps n)), x], str (r.take (readN b r ps n))] = (((∃ (cs : List D), D.agg [D.v (Value.int IntKind.i64 b), str r, x] = D.agg cs ∧ cs.length = 3) ∧ NotAgg (D.v (Value.int IntKind.i64 n)) ∧ True) ∧ ∃ (r_1 : D), D.lenT TypeDesc.string (str r) = some r_1 ∧ ∃ (r_2 : D), (D.v (Value.int IntKind.i64 n)).min2 r_1 = some r_2 ∧ ∃ (r_3 : D), D.bin BinOp.lss r_2 (D.v (Value.int IntKind.i64 1)) = some r_3 ∧ ∃ (b_1 : Bool), r_3 = D.v (Value.bool b_1) ∧ (b_1 = false → ∃ (r_4 : D), PureD Try.prog 30 [D.agg [D.v (Value.int IntKind.i64 b), str r, x]] [r_4] ∧ fits [(false, [none])] [r_4] ∧ ∃ (r_5 : D), D.bin BinOp.neq r_4 (D.v (Value.int IntKind.i64 0)) = some r_5 ∧ ∃ (b_2 : Bool), r_5 = D.v (Value.bool b_2) ∧ (b_2 = true → ∃ (r_6 : D), PureD Try.prog 38 [D.agg [D.v (Value.int IntKind.i64 b), str r, x]] [r_6] ∧ fits [(true, [none, none, some 2])] [r_6] ∧ ((∃ (y : Value), r_6.cell 0 = D.v y) ∧ (∃ (y : Value), r_6.cell 1 = D.v y) ∧ PlainD (r_6.cell 2) ∧ True ∧ True) ∧ [D.agg [r_6.cell 0, r_6.cell 1, r_6.cell 2], D.v (Value.string { data := { toList := [] } })] = [D.agg [D.v (Value.int IntKind.i64 b), str (List.drop (readN b r ps n) r), x], str (List.take (readN b r ps n) r)]) ∧ (b_2 = false → ∃ (r_6 : D), (str r).cutS none (some r_2) = some r_6 ∧ ∃ (r_7 : D), (str r).cutS (some r_2) none = some r_7 ∧ ∃ (r_8 : D), PureD Try.prog 38 [D.agg [D.v (Value.int IntKind.i64 b), r_7, x]] [r_8] ∧ fits [(true, [none, none, some 2])] [r_8] ∧ ((∃ (y : Value), r_8.cell 0 = D.v y) ∧ (∃ (y : Value), r_8.cell 1 = D.v y) ∧ PlainD (r_8.cell 2) ∧ (∃ (y : Value), r_6 = D.v y) ∧ True) ∧ [D.agg [r_8.cell 0, r_8.cell 1, r_8.cell 2], r_6] = [D.agg [D.v (Value.int IntKind.i64 b), str (List.drop (readN b r ps n) r), x], str (List.take (readN b r ps n) r)])) ∧ (b_1 = true → ∃ (r_4 : D), PureD Try.prog 38 [D.agg [D.v (Value.int IntKind.i64 b), str r, x]] [r_4] ∧ fits [(true, [none, none, some 2])] [r_4] ∧ ((∃ (y : Value), r_4.cell 0 = D.v y) ∧ (∃ (y : Value), r_4.cell 1 = D.v y) ∧ PlainD (r_4.cell 2) ∧ True ∧ True) ∧ [D.agg [r_4.cell 0, r_4.cell 1, r_4.cell 2], D.v (Value.string { data := { toList := [] } })] = [D.agg [D.v (Value.int IntKind.i64 b), str (List.drop (readN b r ps n) r), x], str (List.take (readN b r ps n) r)])) := by kernel_rfl
set_option maxHeartbeats 4000000 in
theorem read (x : D) (ps : List Pt) (b : Int) (r : List Int) (n : Int) (hX : IsL 2 (ps.map ptD) x) (hP : AllB ps) (hm : ps.length ≤ 100000) (hr : r.length ≤ 100000) : PureD Try.prog 28 [.agg [.v (.int .i64 b), str r, x], .v (.int .i64 n)] [.agg [.v (.int .i64 b), str (r.drop (readN b r ps n)), x], str (r.take (readN b r ps n))] := by
  refine pure_cond (Lp := (fun _ => none)) (by kernel_rfl) Try.func28 (by kernel_rfl) (by kernel_rfl) ?_
  rw [vc_read x ps b r n]
  have CK := check x ps b r hX hP hm hr
  have KP := fun r => kept x ps b r hX hm
  have hmm : True := trivial
  have hc1 : True := trivial
  have hc2 : True := trivial
  by_cases hn : min n (r.length : Nat) < 1
  · rw [read_few hn, List.drop_zero, List.take_zero]
    repeat' (first
      | (refine ex_some (by simp (disch := omega) only [bin_shr, bin_shl, bin_and, bin_or, bin_xor, len_str, toStr_ofL, bin_add, bin_sub, bin_mul, bin_quo, bin_rem, bin_lss, bin_leq, bin_gtr, bin_geq, bin_eql, bin_neq, eqs_cn, eqs_ci, eqs_cb, eqs_cs, Option.map_some, lenT_ofL, lst_ofL, lstSz_ofL, chunk_one, lst_nil, lst_sl, lstSz_sl, lstSz_nil, Bool.and_true, Bool.true_and, Bool.and_false, Bool.false_and, beq_self_eq_true, beq_bb, bne_bb, un_not, un_neg, conv_int, min2_int, max2_int, w64, w32, wu8, wu16, wu32, wu64, tdiv_nn, tmod_nn, cell_zero, cell_succ, cell_v, cells_v, cells_agg, Bool.not_true, Bool.not_false, Int.reduceLT, Int.reduceLE, Int.reduceEq, Int.reduceNeg, Int.reduceAdd, Int.reduceSub, Int.reduceMul, intOf_v, decide_true, decide_false]; rfl) ?_)
      | (refine ex_bool ?_)
      | (refine ⟨_, CK, ?_⟩)
      | (refine ⟨_, KP _, ?_⟩)
      | (refine And.intro ?_ ?_)
      | (intro hx; have hprop := (show ∀ (p : Prop), p → True from fun _ _ => True.intro) _ hx; clear hprop; first | (cases hx; done) | (exfalso; revert hx; simp (disch := omega) only [decide_eq_true_eq, decide_eq_false_iff_not, Bool.not_eq_true', Bool.not_eq_false', Bool.and_eq_true, Bool.and_eq_false_iff, Int.not_lt, Int.not_le, ne_eq, not_false_eq_true, not_true_eq_false, reduceCtorEq, Bool.true_eq_false, Bool.false_eq_true, beq_iff_eq, bne_iff_ne, beq_eq_false_iff_ne, false_or, or_false, true_and, and_true]; done) | (simp (disch := omega) only [decide_eq_true_eq, decide_eq_false_iff_not, Bool.not_eq_true', Bool.not_eq_false', Bool.and_eq_true, Bool.and_eq_false_iff, Int.not_lt, Int.not_le, ne_eq, not_false_eq_true, not_true_eq_false, reduceCtorEq, Bool.true_eq_false, Bool.false_eq_true, beq_iff_eq, bne_iff_ne, beq_eq_false_iff_ne, false_or, or_false, true_and, and_true] at hx; first | (exfalso; omega) | skip) | skip)
      | trivial
      | exact fit_ofL _ _
      | (simp (disch := omega) only [notAgg_v, notAgg_sl, plain_v, fits, fitsOne, fitsCells, xsOf, cell_zero, cell_succ, List.range, List.range.loop, List.map, cond_true, cond_false, D.v.injEq, exists_eq', exists_eq, and_self, and_true, true_and, D.agg.injEq, List.length, exists_eq_left', D.sl.injEq, reduceCtorEq, false_or, true_or, or_true, or_false, cell_zero, cell_succ, cell_v, cells_v, cells_agg, List.length_cons, List.length_nil]; done))
    all_goals first
      | (exfalso; omega)
      | omega
      | exact fitP hX
      | exact plainP hX
      | exact ⟨_, rfl⟩
      | rfl
      | assumption
      | (simp; done)
      | fail
  · by_cases hc : chkF b r.length ps = 0
    · rw [hc] at CK
      obtain ⟨k, hmm⟩ := Int.eq_ofNat_of_zero_le (show 0 ≤ min n (r.length : Nat) by omega)
      rw [read_yes hc (by omega) hmm]
      have hc1 := cutS_to r .i64 (a := k) (by omega)
      have hc2 := cutS_from r .i64 (a := k) (by omega)
      repeat' (first
        | (refine ex_some (by simp (disch := omega) only [bin_shr, bin_shl, bin_and, bin_or, bin_xor, len_str, toStr_ofL, bin_add, bin_sub, bin_mul, bin_quo, bin_rem, bin_lss, bin_leq, bin_gtr, bin_geq, bin_eql, bin_neq, eqs_cn, eqs_ci, eqs_cb, eqs_cs, Option.map_some, lenT_ofL, lst_ofL, lstSz_ofL, chunk_one, lst_nil, lst_sl, lstSz_sl, lstSz_nil, Bool.and_true, Bool.true_and, Bool.and_false, Bool.false_and, beq_self_eq_true, beq_bb, bne_bb, un_not, un_neg, conv_int, min2_int, max2_int, w64, w32, wu8, wu16, wu32, wu64, tdiv_nn, tmod_nn, cell_zero, cell_succ, cell_v, cells_v, cells_agg, Bool.not_true, Bool.not_false, Int.reduceLT, Int.reduceLE, Int.reduceEq, Int.reduceNeg, Int.reduceAdd, Int.reduceSub, Int.reduceMul, intOf_v, decide_true, decide_false, hmm, hc1, hc2]; rfl) ?_)
        | (refine ex_bool ?_)
        | (refine ⟨_, CK, ?_⟩)
        | (refine ⟨_, KP _, ?_⟩)
        | (refine And.intro ?_ ?_)
        | (intro hx; have hprop := (show ∀ (p : Prop), p → True from fun _ _ => True.intro) _ hx; clear hprop; first | (cases hx; done) | (exfalso; revert hx; simp (disch := omega) only [decide_eq_true_eq, decide_eq_false_iff_not, Bool.not_eq_true', Bool.not_eq_false', Bool.and_eq_true, Bool.and_eq_false_iff, Int.not_lt, Int.not_le, ne_eq, not_false_eq_true, not_true_eq_false, reduceCtorEq, Bool.true_eq_false, Bool.false_eq_true, beq_iff_eq, bne_iff_ne, beq_eq_false_iff_ne, false_or, or_false, true_and, and_true, hmm, hc1, hc2]; done) | (simp (disch := omega) only [decide_eq_true_eq, decide_eq_false_iff_not, Bool.not_eq_true', Bool.not_eq_false', Bool.and_eq_true, Bool.and_eq_false_iff, Int.not_lt, Int.not_le, ne_eq, not_false_eq_true, not_true_eq_false, reduceCtorEq, Bool.true_eq_false, Bool.false_eq_true, beq_iff_eq, bne_iff_ne, beq_eq_false_iff_ne, false_or, or_false, true_and, and_true, hmm, hc1, hc2] at hx; first | (exfalso; omega) | skip) | skip)
        | trivial
        | exact fit_ofL _ _
        | (simp (disch := omega) only [notAgg_v, notAgg_sl, plain_v, fits, fitsOne, fitsCells, xsOf, cell_zero, cell_succ, List.range, List.range.loop, List.map, cond_true, cond_false, D.v.injEq, exists_eq', exists_eq, and_self, and_true, true_and, D.agg.injEq, List.length, exists_eq_left', D.sl.injEq, reduceCtorEq, false_or, true_or, or_true, or_false, cell_zero, cell_succ, cell_v, cells_v, cells_agg, List.length_cons, List.length_nil, hmm, hc1, hc2]; done))
      all_goals first
        | (exfalso; omega)
        | omega
        | exact fitP hX
        | exact plainP hX
        | exact ⟨_, rfl⟩
        | rfl
        | assumption
        | (simp; done)
        | fail
    · rw [read_no (fun h => hc h.1), List.drop_zero, List.take_zero]
      repeat' (first
        | (refine ex_some (by simp (disch := omega) only [bin_shr, bin_shl, bin_and, bin_or, bin_xor, len_str, toStr_ofL, bin_add, bin_sub, bin_mul, bin_quo, bin_rem, bin_lss, bin_leq, bin_gtr, bin_geq, bin_eql, bin_neq, eqs_cn, eqs_ci, eqs_cb, eqs_cs, Option.map_some, lenT_ofL, lst_ofL, lstSz_ofL, chunk_one, lst_nil, lst_sl, lstSz_sl, lstSz_nil, Bool.and_true, Bool.true_and, Bool.and_false, Bool.false_and, beq_self_eq_true, beq_bb, bne_bb, un_not, un_neg, conv_int, min2_int, max2_int, w64, w32, wu8, wu16, wu32, wu64, tdiv_nn, tmod_nn, cell_zero, cell_succ, cell_v, cells_v, cells_agg, Bool.not_true, Bool.not_false, Int.reduceLT, Int.reduceLE, Int.reduceEq, Int.reduceNeg, Int.reduceAdd, Int.reduceSub, Int.reduceMul, intOf_v, decide_true, decide_false]; rfl) ?_)
        | (refine ex_bool ?_)
        | (refine ⟨_, CK, ?_⟩)
        | (refine ⟨_, KP _, ?_⟩)
        | (refine And.intro ?_ ?_)
        | (intro hx; have hprop := (show ∀ (p : Prop), p → True from fun _ _ => True.intro) _ hx; clear hprop; first | (cases hx; done) | (exfalso; revert hx; simp (disch := omega) only [decide_eq_true_eq, decide_eq_false_iff_not, Bool.not_eq_true', Bool.not_eq_false', Bool.and_eq_true, Bool.and_eq_false_iff, Int.not_lt, Int.not_le, ne_eq, not_false_eq_true, not_true_eq_false, reduceCtorEq, Bool.true_eq_false, Bool.false_eq_true, beq_iff_eq, bne_iff_ne, beq_eq_false_iff_ne, false_or, or_false, true_and, and_true]; done) | (simp (disch := omega) only [decide_eq_true_eq, decide_eq_false_iff_not, Bool.not_eq_true', Bool.not_eq_false', Bool.and_eq_true, Bool.and_eq_false_iff, Int.not_lt, Int.not_le, ne_eq, not_false_eq_true, not_true_eq_false, reduceCtorEq, Bool.true_eq_false, Bool.false_eq_true, beq_iff_eq, bne_iff_ne, beq_eq_false_iff_ne, false_or, or_false, true_and, and_true] at hx; first | (exfalso; omega) | skip) | skip)
        | trivial
        | exact fit_ofL _ _
        | (simp (disch := omega) only [notAgg_v, notAgg_sl, plain_v, fits, fitsOne, fitsCells, xsOf, cell_zero, cell_succ, List.range, List.range.loop, List.map, cond_true, cond_false, D.v.injEq, exists_eq', exists_eq, and_self, and_true, true_and, D.agg.injEq, List.length, exists_eq_left', D.sl.injEq, reduceCtorEq, false_or, true_or, or_true, or_false, cell_zero, cell_succ, cell_v, cells_v, cells_agg, List.length_cons, List.length_nil]; done))
      all_goals first
        | (exfalso; omega)
        | omega
        | exact fitP hX
        | exact plainP hX
        | exact ⟨_, rfl⟩
        | rfl
        | assumption
        | (simp; done)
        | fail

theorem vc_rread (x : D) (ps : List Pt) (b : Int) (r : List Int) (n : Int) : CondR Try.prog (fun _ => none) Try.f29 [.agg [.v (.int .i64 b), str r, x], .v (.int .i64 n)] [.agg [.v (.int .i64 b), str (r.drop (readN b r ps n)), x], str (r.take (readN b r ps n))] = (((∃ (cs : List D), D.agg [D.v (Value.int IntKind.i64 b), str r, x] = D.agg cs ∧ cs.length = 3) ∧ NotAgg (D.v (Value.int IntKind.i64 n)) ∧ True) ∧ ∃ (r_1 : D), PureD Try.prog 31 [D.agg [D.v (Value.int IntKind.i64 b), str r, x]] [r_1] ∧ fits [(false, [none])] [r_1] ∧ ∃ (r_2 : D), D.bin BinOp.neq r_1 (D.v (Value.int IntKind.i64 0)) = some r_2 ∧ ∃ (b_1 : Bool), r_2 = D.v (Value.bool b_1) ∧ (b_1 = false → ∃ (r_3 : D), D.bin BinOp.lss (D.v (Value.int IntKind.i64 n)) (D.v (Value.int IntKind.i64 1)) = some r_3 ∧ ∃ (b_2 : Bool), r_3 = D.v (Value.bool b_2) ∧ (b_2 = true → [D.agg [D.v (Value.int IntKind.i64 b), str r, x], D.v (Value.string { data := { toList := [] } })] = [D.agg [D.v (Value.int IntKind.i64 b), str (List.drop (readN b r ps n) r), x], str (List.take (readN b r ps n) r)]) ∧ (b_2 = false → ∃ (r_4 : D), D.lenT TypeDesc.string (str r) = some r_4 ∧ ∃ (r_5 : D), (D.v (Value.int IntKind.i64 n)).min2 r_4 = some r_5 ∧ ∃ (r_6 : D), (str r).cutS none (some r_5) = some r_6 ∧ ∃ (r_7 : D), (str r).cutS (some r_5) none = some r_7 ∧ [D.agg [D.v (Value.int IntKind.i64 b), r_7, x], r_6] = [D.agg [D.v (Value.int IntKind.i64 b), str (List.drop (readN b r ps n) r), x], str (List.take (readN b r ps n) r)])) ∧ (b_1 = true → [D.agg [D.v (Value.int IntKind.i64 b), str r, x], D.v (Value.string { data := { toList := [] } })] = [D.agg [D.v (Value.int IntKind.i64 b), str (List.drop (readN b r ps n) r), x], str (List.take (readN b r ps n) r)])) := by kernel_rfl
set_option maxHeartbeats 4000000 in
theorem rread (x : D) (ps : List Pt) (b : Int) (r : List Int) (n : Int) (hX : IsL 2 (ps.map ptD) x) (hP : AllB ps) (hm : ps.length ≤ 100000) (hr : r.length ≤ 100000) : ReadD Try.prog 29 [.agg [.v (.int .i64 b), str r, x], .v (.int .i64 n)] [.agg [.v (.int .i64 b), str (r.drop (readN b r ps n)), x], str (r.take (readN b r ps n))] := by
  refine read_cond (Lp := (fun _ => none)) (by kernel_rfl) Try.func29 (by kernel_rfl) (by kernel_rfl) ?_
  rw [vc_rread x ps b r n]
  have CK := rcheck x ps b r hX hP hm hr
  have hmm : True := trivial
  have hc1 : True := trivial
  have hc2 : True := trivial
  by_cases hc : chkF b r.length ps = 0
  · rw [hc] at CK
    by_cases hn : n < 1
    · rw [read_no (fun h => by omega), List.drop_zero, List.take_zero]
      repeat' (first
        | (refine ex_some (by simp (disch := omega) only [bin_shr, bin_shl, bin_and, bin_or, bin_xor, len_str, toStr_ofL, bin_add, bin_sub, bin_mul, bin_quo, bin_rem, bin_lss, bin_leq, bin_gtr, bin_geq, bin_eql, bin_neq, eqs_cn, eqs_ci, eqs_cb, eqs_cs, Option.map_some, lenT_ofL, lst_ofL, lstSz_ofL, chunk_one, lst_nil, lst_sl, lstSz_sl, lstSz_nil, Bool.and_true, Bool.true_and, Bool.and_false, Bool.false_and, beq_self_eq_true, beq_bb, bne_bb, un_not, un_neg, conv_int, min2_int, max2_int, w64, w32, wu8, wu16, wu32, wu64, tdiv_nn, tmod_nn, cell_zero, cell_succ, cell_v, cells_v, cells_agg, Bool.not_true, Bool.not_false, Int.reduceLT, Int.reduceLE, Int.reduceEq, Int.reduceNeg, Int.reduceAdd, Int.reduceSub, Int.reduceMul, intOf_v, decide_true, decide_false]; rfl) ?_)
        | (refine ex_bool ?_)
        | (refine ⟨_, CK, ?_⟩)
        | (refine And.intro ?_ ?_)
        | (intro hx; have hprop := (show ∀ (p : Prop), p → True from fun _ _ => True.intro) _ hx; clear hprop; first | (cases hx; done) | (exfalso; revert hx; simp (disch := omega) only [decide_eq_true_eq, decide_eq_false_iff_not, Bool.not_eq_true', Bool.not_eq_false', Bool.and_eq_true, Bool.and_eq_false_iff, Int.not_lt, Int.not_le, ne_eq, not_false_eq_true, not_true_eq_false, reduceCtorEq, Bool.true_eq_false, Bool.false_eq_true, beq_iff_eq, bne_iff_ne, beq_eq_false_iff_ne, false_or, or_false, true_and, and_true]; done) | (simp (disch := omega) only [decide_eq_true_eq, decide_eq_false_iff_not, Bool.not_eq_true', Bool.not_eq_false', Bool.and_eq_true, Bool.and_eq_false_iff, Int.not_lt, Int.not_le, ne_eq, not_false_eq_true, not_true_eq_false, reduceCtorEq, Bool.true_eq_false, Bool.false_eq_true, beq_iff_eq, bne_iff_ne, beq_eq_false_iff_ne, false_or, or_false, true_and, and_true] at hx; first | (exfalso; omega) | skip) | skip)
        | trivial
        | exact fit_ofL _ _
        | (simp (disch := omega) only [notAgg_v, notAgg_sl, plain_v, fits, fitsOne, fitsCells, xsOf, cell_zero, cell_succ, List.range, List.range.loop, List.map, cond_true, cond_false, D.v.injEq, exists_eq', exists_eq, and_self, and_true, true_and, D.agg.injEq, List.length, exists_eq_left', D.sl.injEq, reduceCtorEq, false_or, true_or, or_true, or_false, cell_zero, cell_succ, cell_v, cells_v, cells_agg, List.length_cons, List.length_nil]; done))
      all_goals first
        | (exfalso; omega)
        | omega
        | exact fitP hX
        | exact plainP hX
        | exact ⟨_, rfl⟩
        | rfl
        | assumption
        | (simp; done)
        | fail
    · obtain ⟨k, hmm⟩ := Int.eq_ofNat_of_zero_le (show 0 ≤ min n (r.length : Nat) by omega)
      rw [read_yes hc (by omega) hmm]
      have hc1 := cutS_to r .i64 (a := k) (by omega)
      have hc2 := cutS_from r .i64 (a := k) (by omega)
      repeat' (first
        | (refine ex_some (by simp (disch := omega) only [bin_shr, bin_shl, bin_and, bin_or, bin_xor, len_str, toStr_ofL, bin_add, bin_sub, bin_mul, bin_quo, bin_rem, bin_lss, bin_leq, bin_gtr, bin_geq, bin_eql, bin_neq, eqs_cn, eqs_ci, eqs_cb, eqs_cs, Option.map_some, lenT_ofL, lst_ofL, lstSz_ofL, chunk_one, lst_nil, lst_sl, lstSz_sl, lstSz_nil, Bool.and_true, Bool.true_and, Bool.and_false, Bool.false_and, beq_self_eq_true, beq_bb, bne_bb, un_not, un_neg, conv_int, min2_int, max2_int, w64, w32, wu8, wu16, wu32, wu64, tdiv_nn, tmod_nn, cell_zero, cell_succ, cell_v, cells_v, cells_agg, Bool.not_true, Bool.not_false, Int.reduceLT, Int.reduceLE, Int.reduceEq, Int.reduceNeg, Int.reduceAdd, Int.reduceSub, Int.reduceMul, intOf_v, decide_true, decide_false, hmm, hc1, hc2]; rfl) ?_)
        | (refine ex_bool ?_)
        | (refine ⟨_, CK, ?_⟩)
        | (refine And.intro ?_ ?_)
        | (intro hx; have hprop := (show ∀ (p : Prop), p → True from fun _ _ => True.intro) _ hx; clear hprop; first | (cases hx; done) | (exfalso; revert hx; simp (disch := omega) only [decide_eq_true_eq, decide_eq_false_iff_not, Bool.not_eq_true', Bool.not_eq_false', Bool.and_eq_true, Bool.and_eq_false_iff, Int.not_lt, Int.not_le, ne_eq, not_false_eq_true, not_true_eq_false, reduceCtorEq, Bool.true_eq_false, Bool.false_eq_true, beq_iff_eq, bne_iff_ne, beq_eq_false_iff_ne, false_or, or_false, true_and, and_true, hmm, hc1, hc2]; done) | (simp (disch := omega) only [decide_eq_true_eq, decide_eq_false_iff_not, Bool.not_eq_true', Bool.not_eq_false', Bool.and_eq_true, Bool.and_eq_false_iff, Int.not_lt, Int.not_le, ne_eq, not_false_eq_true, not_true_eq_false, reduceCtorEq, Bool.true_eq_false, Bool.false_eq_true, beq_iff_eq, bne_iff_ne, beq_eq_false_iff_ne, false_or, or_false, true_and, and_true, hmm, hc1, hc2] at hx; first | (exfalso; omega) | skip) | skip)
        | trivial
        | exact fit_ofL _ _
        | (simp (disch := omega) only [notAgg_v, notAgg_sl, plain_v, fits, fitsOne, fitsCells, xsOf, cell_zero, cell_succ, List.range, List.range.loop, List.map, cond_true, cond_false, D.v.injEq, exists_eq', exists_eq, and_self, and_true, true_and, D.agg.injEq, List.length, exists_eq_left', D.sl.injEq, reduceCtorEq, false_or, true_or, or_true, or_false, cell_zero, cell_succ, cell_v, cells_v, cells_agg, List.length_cons, List.length_nil, hmm, hc1, hc2]; done))
      all_goals first
        | (exfalso; omega)
        | omega
        | exact fitP hX
        | exact plainP hX
        | exact ⟨_, rfl⟩
        | rfl
        | assumption
        | (simp; done)
        | fail
  · rw [read_no (fun h => hc h.1), List.drop_zero, List.take_zero]
    repeat' (first
      | (refine ex_some (by simp (disch := omega) only [bin_shr, bin_shl, bin_and, bin_or, bin_xor, len_str, toStr_ofL, bin_add, bin_sub, bin_mul, bin_quo, bin_rem, bin_lss, bin_leq, bin_gtr, bin_geq, bin_eql, bin_neq, eqs_cn, eqs_ci, eqs_cb, eqs_cs, Option.map_some, lenT_ofL, lst_ofL, lstSz_ofL, chunk_one, lst_nil, lst_sl, lstSz_sl, lstSz_nil, Bool.and_true, Bool.true_and, Bool.and_false, Bool.false_and, beq_self_eq_true, beq_bb, bne_bb, un_not, un_neg, conv_int, min2_int, max2_int, w64, w32, wu8, wu16, wu32, wu64, tdiv_nn, tmod_nn, cell_zero, cell_succ, cell_v, cells_v, cells_agg, Bool.not_true, Bool.not_false, Int.reduceLT, Int.reduceLE, Int.reduceEq, Int.reduceNeg, Int.reduceAdd, Int.reduceSub, Int.reduceMul, intOf_v, decide_true, decide_false]; rfl) ?_)
      | (refine ex_bool ?_)
      | (refine ⟨_, CK, ?_⟩)
      | (refine And.intro ?_ ?_)
      | (intro hx; have hprop := (show ∀ (p : Prop), p → True from fun _ _ => True.intro) _ hx; clear hprop; first | (cases hx; done) | (exfalso; revert hx; simp (disch := omega) only [decide_eq_true_eq, decide_eq_false_iff_not, Bool.not_eq_true', Bool.not_eq_false', Bool.and_eq_true, Bool.and_eq_false_iff, Int.not_lt, Int.not_le, ne_eq, not_false_eq_true, not_true_eq_false, reduceCtorEq, Bool.true_eq_false, Bool.false_eq_true, beq_iff_eq, bne_iff_ne, beq_eq_false_iff_ne, false_or, or_false, true_and, and_true]; done) | (simp (disch := omega) only [decide_eq_true_eq, decide_eq_false_iff_not, Bool.not_eq_true', Bool.not_eq_false', Bool.and_eq_true, Bool.and_eq_false_iff, Int.not_lt, Int.not_le, ne_eq, not_false_eq_true, not_true_eq_false, reduceCtorEq, Bool.true_eq_false, Bool.false_eq_true, beq_iff_eq, bne_iff_ne, beq_eq_false_iff_ne, false_or, or_false, true_and, and_true] at hx; first | (exfalso; omega) | skip) | skip)
      | trivial
      | exact fit_ofL _ _
      | (simp (disch := omega) only [notAgg_v, notAgg_sl, plain_v, fits, fitsOne, fitsCells, xsOf, cell_zero, cell_succ, List.range, List.range.loop, List.map, cond_true, cond_false, D.v.injEq, exists_eq', exists_eq, and_self, and_true, true_and, D.agg.injEq, List.length, exists_eq_left', D.sl.injEq, reduceCtorEq, false_or, true_or, or_true, or_false, cell_zero, cell_succ, cell_v, cells_v, cells_agg, List.length_cons, List.length_nil]; done))
    all_goals first
      | (exfalso; omega)
      | omega
      | exact fitP hX
      | exact plainP hX
      | exact ⟨_, rfl⟩
      | rfl
      | assumption
      | (simp; done)
      | fail

end Go.Proofs.Ytjdemohgegldaaa