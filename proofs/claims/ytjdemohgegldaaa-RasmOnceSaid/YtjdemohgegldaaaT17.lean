/-
  Layer 12: one byte.
-/
import Derived.Test.YtjdemohgegldaaaT1
import Derived.Test.YtjdemohgegldaaaT2
import Derived.Test.YtjdemohgegldaaaT3
import Derived.Test.YtjdemohgegldaaaT4
import Derived.Test.YtjdemohgegldaaaT6
import Derived.Test.YtjdemohgegldaaaT7
import Derived.Test.YtjdemohgegldaaaT8
import Derived.Test.YtjdemohgegldaaaT10
import Derived.Test.YtjdemohgegldaaaT11
import Derived.Test.YtjdemohgegldaaaT13
import Derived.Test.YtjdemohgegldaaaT15
import Derived.Test.YtjdemohgegldaaaT16
namespace Go.Proofs.Ytjdemohgegldaaa
open Go.RowKit
set_option linter.unusedSimpArgs false
set_option linter.unusedVariables false


theorem ok_fit {b : Int} {r : List Int} {ps : List Pt} (h : (SS.mk b r ps).Ok) : Fit ps := fun k hk => by
  have h1 := W_at h.w hk
  have h2 := h.b
  have h3 : (SS.mk b r ps).lim ≤ 1099511627776 := by rw [SS.lim_o]; omega
  simp only [endP] at h1 h2
  omega

theorem vc_one_no (x : D) (ps : List Pt) (b : Int) (r : List Int) (v c : Int) (b2 : Int) (r2 : List Int) (y : D) (z : Bool) : CondR Try.prog (fun _ => none) Try.f44 [.agg [.v (.int .i64 b), str r, x], .v (.int .i64 v), str [c]] [.agg [.v (.int .i64 b2), str r2, y], .v (.bool z)] = (((∃ (cs : List D), D.agg [D.v (Value.int IntKind.i64 b), str r, x] = D.agg cs ∧ cs.length = 3) ∧ NotAgg (D.v (Value.int IntKind.i64 v)) ∧ NotAgg (str [c]) ∧ True) ∧ ∃ (r_1 : D), D.bin BinOp.lss (D.v (Value.int IntKind.i64 v)) (D.v (Value.int IntKind.i64 b)) = some r_1 ∧ ∃ (b_1 : Bool), r_1 = D.v (Value.bool b_1) ∧ (b_1 = false → ∃ (r_2 : D), PureD Try.prog 45 [D.agg [D.v (Value.int IntKind.i64 b), str r, x]] [r_2] ∧ fits [(false, [none])] [r_2] ∧ ∃ (r_3 : D), D.bin BinOp.geq (D.v (Value.int IntKind.i64 v)) r_2 = some r_3 ∧ ∃ (b_2 : Bool), r_3 = D.v (Value.bool b_2) ∧ (b_2 = false → ∃ (r_4 : D), PureD Try.prog 49 [D.agg [D.v (Value.int IntKind.i64 b), str r, x], D.v (Value.int IntKind.i64 v)] [r_4] ∧ fits [(false, [none])] [r_4] ∧ ∃ (b_3 : Bool), r_4 = D.v (Value.bool b_3) ∧ (b_3 = true → [D.agg [D.v (Value.int IntKind.i64 b), str r, x], D.v (Value.bool false)] = [D.agg [D.v (Value.int IntKind.i64 b2), str r2, y], D.v (Value.bool z)]) ∧ (b_3 = false → ∃ (r_5 : D), D.bin BinOp.gtr (D.v (Value.int IntKind.i64 v)) (D.v (Value.int IntKind.i64 b)) = some r_5 ∧ ∃ (b_4 : Bool), r_5 = D.v (Value.bool b_4) ∧ (b_4 = true → ∃ (r_6 : D), PureD Try.prog 50 [x, D.v (Value.int IntKind.i64 v), str [c]] [r_6] ∧ fits [(false, [some 2])] [r_6] ∧ [D.agg [D.v (Value.int IntKind.i64 b), str r, r_6], D.v (Value.bool true)] = [D.agg [D.v (Value.int IntKind.i64 b2), str r2, y], D.v (Value.bool z)]) ∧ (b_4 = false → ∃ (r_6 : D), D.bin BinOp.add (D.v (Value.int IntKind.i64 b)) (D.v (Value.int IntKind.i64 1)) = some r_6 ∧ ∃ (r_7 : D), D.bin BinOp.add (str r) (str [c]) = some r_7 ∧ ∃ (r : D), D.lenT (TypeDesc.slice 66) x = some r ∧ ∃ (r_8 : D), D.bin BinOp.gtr r (D.v (Value.int IntKind.i64 0)) = some r_8 ∧ ∃ (b : Bool), r_8 = D.v (Value.bool b) ∧ (b = true → D.inb 2 x (D.v (Value.int IntKind.i64 0)) ∧ 0 + 1 ≤ (x.at_ (D.v (Value.int IntKind.i64 0))).cells.length ∧ ∃ (r : D), D.bin BinOp.eql ((x.at_ (D.v (Value.int IntKind.i64 0))).cell 0) r_6 = some r ∧ ∃ (b : Bool), r = D.v (Value.bool b) ∧ (b = true → D.inb 2 x (D.v (Value.int IntKind.i64 0)) ∧ 0 + 1 + 1 ≤ (x.at_ (D.v (Value.int IntKind.i64 0))).cells.length ∧ ∃ (r : D), D.lenT TypeDesc.string ((x.at_ (D.v (Value.int IntKind.i64 0))).cell (0 + 1)) = some r ∧ ∃ (r_9 : D), D.bin BinOp.add r_6 r = some r_9 ∧ D.inb 2 x (D.v (Value.int IntKind.i64 0)) ∧ 0 + 1 + 1 ≤ (x.at_ (D.v (Value.int IntKind.i64 0))).cells.length ∧ ∃ (r : D), D.bin BinOp.add r_7 ((x.at_ (D.v (Value.int IntKind.i64 0))).cell (0 + 1)) = some r ∧ ∃ (r_10 : D), D.cutL 2 x (some (D.v (Value.int IntKind.i64 1))) none none = some r_10 ∧ [D.agg [r_9, r, r_10], D.v (Value.bool true)] = [D.agg [D.v (Value.int IntKind.i64 b2), str r2, y], D.v (Value.bool z)]) ∧ (b = false → [D.agg [r_6, r_7, x], D.v (Value.bool true)] = [D.agg [D.v (Value.int IntKind.i64 b2), str r2, y], D.v (Value.bool z)])) ∧ (b = false → [D.agg [r_6, r_7, x], D.v (Value.bool true)] = [D.agg [D.v (Value.int IntKind.i64 b2), str r2, y], D.v (Value.bool z)])))) ∧ (b_2 = true → [D.agg [D.v (Value.int IntKind.i64 b), str r, x], D.v (Value.bool false)] = [D.agg [D.v (Value.int IntKind.i64 b2), str r2, y], D.v (Value.bool z)])) ∧ (b_1 = true → [D.agg [D.v (Value.int IntKind.i64 b), str r, x], D.v (Value.bool false)] = [D.agg [D.v (Value.int IntKind.i64 b2), str r2, y], D.v (Value.bool z)])) := by kernel_rfl
set_option maxHeartbeats 4000000 in
theorem one_no (x : D) (ps : List Pt) (b : Int) (r : List Int) (v c : Int) (b2 : Int) (r2 : List Int) (y : D) (z : Bool) (hX : IsL 2 (ps.map ptD) x) (hP : AllB ps) (hm : ps.length ≤ 90000) (ho : (SS.mk b r ps).Ok) (v0 : 0 ≤ v) (v1 : v ≤ 1099511727776) (hc : v < b ∨ limF b r.length ≤ v ∨ haveF ps v = true) (e1 : b = b2) (e2 : r = r2) (e3 : x = y) (e4 : false = z) : ReadD Try.prog 44 [.agg [.v (.int .i64 b), str r, x], .v (.int .i64 v), str [c]] [.agg [.v (.int .i64 b2), str r2, y], .v (.bool z)] := by
  refine read_cond (Lp := (fun _ => none)) (by kernel_rfl) Try.func44 (by kernel_rfl) (by kernel_rfl) ?_
  rw [vc_one_no x ps b r v c b2 r2 y z]
  have h0 := ho.b
  have hb1 := ho.b1
  have hr4 := ho.r
  have hW : W (limF b r.length) b ps := ho.w
  simp only at h0 hb1 hr4
  have LM := rlimit x ps b r hX h0.1 hb1 (by omega)
  have hlm : limF b r.length ≤ b + 4096 ∧ limF b r.length ≤ 1099511627776 ∧ b ≤ limF b r.length := ⟨by unfold limF; omega, by unfold limF; omega, h0.2⟩
  have HV := haveP x ps b r v hX (by omega) (ok_fit ho)
  have h1 : True := trivial
  have i1 : True := trivial
  have k2 : True := trivial
  have k3 : True := trivial
  subst e1; subst e2; subst e3; subst e4
  rcases hc with hc | hc | hc
  all_goals try rw [hc] at HV
  all_goals skip
  repeat' (first
    | (refine ex_some (by simp (disch := omega) only [bin_shr, bin_shl, bin_and, bin_or, bin_xor, len_str, toStr_ofL, bin_add, bin_sub, bin_mul, bin_quo, bin_rem, bin_lss, bin_leq, bin_gtr, bin_geq, bin_eql, bin_neq, eqs_cn, eqs_ci, eqs_cb, eqs_cs, Option.map_some, lenT_ofL, lst_ofL, lstSz_ofL, chunk_one, lst_nil, lst_sl, lstSz_sl, lstSz_nil, Bool.and_true, Bool.true_and, Bool.and_false, Bool.false_and, beq_self_eq_true, beq_bb, bne_bb, un_not, un_neg, conv_int, min2_int, max2_int, w64, w32, wu8, wu16, wu32, wu64, tdiv_nn, tmod_nn, cell_zero, cell_succ, cell_v, cells_v, cells_agg, Bool.not_true, Bool.not_false, Int.reduceLT, Int.reduceLE, Int.reduceEq, Int.reduceNeg, Int.reduceAdd, Int.reduceSub, Int.reduceMul, intOf_v, decide_true, decide_false, hX.lenT, List.length_map, h1]; rfl) ?_)
    | (refine ex_bool ?_)
    | (refine ⟨_, LM, ?_⟩)
    | (refine ⟨_, HV, ?_⟩)
    | (refine And.intro ?_ ?_)
    | (intro hx; have hprop := (show ∀ (p : Prop), p → True from fun _ _ => True.intro) _ hx; clear hprop; first | (cases hx; done) | (exfalso; revert hx; simp (disch := omega) only [decide_eq_true_eq, decide_eq_false_iff_not, Bool.not_eq_true', Bool.not_eq_false', Bool.and_eq_true, Bool.and_eq_false_iff, Int.not_lt, Int.not_le, ne_eq, not_false_eq_true, not_true_eq_false, reduceCtorEq, Bool.true_eq_false, Bool.false_eq_true, beq_iff_eq, bne_iff_ne, beq_eq_false_iff_ne, false_or, or_false, true_and, and_true, hX.lenT, List.length_map, h1]; done) | (simp (disch := omega) only [decide_eq_true_eq, decide_eq_false_iff_not, Bool.not_eq_true', Bool.not_eq_false', Bool.and_eq_true, Bool.and_eq_false_iff, Int.not_lt, Int.not_le, ne_eq, not_false_eq_true, not_true_eq_false, reduceCtorEq, Bool.true_eq_false, Bool.false_eq_true, beq_iff_eq, bne_iff_ne, beq_eq_false_iff_ne, false_or, or_false, true_and, and_true, hX.lenT, List.length_map, h1] at hx; first | (exfalso; omega) | skip) | skip)
    | trivial
    | exact fit_ofL _ _
    | (simp (disch := omega) only [notAgg_v, notAgg_sl, plain_v, fits, fitsOne, fitsCells, xsOf, cell_zero, cell_succ, List.range, List.range.loop, List.map, cond_true, cond_false, D.v.injEq, exists_eq', exists_eq, and_self, and_true, true_and, D.agg.injEq, List.length, exists_eq_left', D.sl.injEq, reduceCtorEq, false_or, true_or, or_true, or_false, cell_zero, cell_succ, cell_v, cells_v, cells_agg, List.length_cons, List.length_nil, hX.lenT, List.length_map, h1]; done))
  all_goals first
    | (exfalso; omega)
    | omega
    | exact fitP hX
    | exact plainP hX
    | exact fitP hC
    | exact plainP hC
    | exact fit_ofL _ _
    | exact plain_ofL (pts_plain _)
    | exact hX.notAgg
    | exact notAgg_v _
    | exact ⟨_, rfl⟩
    | rfl
    | assumption
    | (rw [h1]; show _ ≤ 2; omega)
    | (simp; done)
    | fail

set_option maxHeartbeats 4000000 in
theorem one_in (x : D) (ps : List Pt) (b : Int) (r : List Int) (v c : Int) (b2 : Int) (r2 : List Int) (y : D) (z : Bool) (hX : IsL 2 (ps.map ptD) x) (hP : AllB ps) (hm : ps.length ≤ 90000) (ho : (SS.mk b r ps).Ok) (v0 : 0 ≤ v) (v1 : v ≤ 1099511727776) (hc1 : b ≤ v) (hc2 : v < limF b r.length) (hc3 : haveF ps v = false) (hd : b < v) (e1 : b = b2) (e2 : r = r2) (e3 : ofL 2 ((insF ps v [c]).map ptD) = y) (e4 : true = z) : ReadD Try.prog 44 [.agg [.v (.int .i64 b), str r, x], .v (.int .i64 v), str [c]] [.agg [.v (.int .i64 b2), str r2, y], .v (.bool z)] := by
  refine read_cond (Lp := (fun _ => none)) (by kernel_rfl) Try.func44 (by kernel_rfl) (by kernel_rfl) ?_
  rw [vc_one_no x ps b r v c b2 r2 y z]
  have h0 := ho.b
  have hb1 := ho.b1
  have hr4 := ho.r
  have hW : W (limF b r.length) b ps := ho.w
  simp only at h0 hb1 hr4
  have LM := rlimit x ps b r hX h0.1 hb1 (by omega)
  have hlm : limF b r.length ≤ b + 4096 ∧ limF b r.length ≤ 1099511627776 ∧ b ≤ limF b r.length := ⟨by unfold limF; omega, by unfold limF; omega, h0.2⟩
  have HV := haveP x ps b r v hX (by omega) (ok_fit ho)
  have h1 : True := trivial
  have i1 : True := trivial
  have k2 : True := trivial
  have k3 : True := trivial
  subst e1; subst e2; subst e3; subst e4
  rw [hc3] at HV
  have IN := insert x ps v [c] hX (ok_fit ho) (by omega) ⟨v0, by simp only [List.length_cons, List.length_nil]; omega⟩
  repeat' (first
    | (refine ex_some (by simp (disch := omega) only [bin_shr, bin_shl, bin_and, bin_or, bin_xor, len_str, toStr_ofL, bin_add, bin_sub, bin_mul, bin_quo, bin_rem, bin_lss, bin_leq, bin_gtr, bin_geq, bin_eql, bin_neq, eqs_cn, eqs_ci, eqs_cb, eqs_cs, Option.map_some, lenT_ofL, lst_ofL, lstSz_ofL, chunk_one, lst_nil, lst_sl, lstSz_sl, lstSz_nil, Bool.and_true, Bool.true_and, Bool.and_false, Bool.false_and, beq_self_eq_true, beq_bb, bne_bb, un_not, un_neg, conv_int, min2_int, max2_int, w64, w32, wu8, wu16, wu32, wu64, tdiv_nn, tmod_nn, cell_zero, cell_succ, cell_v, cells_v, cells_agg, Bool.not_true, Bool.not_false, Int.reduceLT, Int.reduceLE, Int.reduceEq, Int.reduceNeg, Int.reduceAdd, Int.reduceSub, Int.reduceMul, intOf_v, decide_true, decide_false, hX.lenT, List.length_map, h1]; rfl) ?_)
    | (refine ex_bool ?_)
    | (refine ⟨_, LM, ?_⟩)
    | (refine ⟨_, HV, ?_⟩)
    | (refine ⟨_, IN, ?_⟩)
    | (refine And.intro ?_ ?_)
    | (intro hx; have hprop := (show ∀ (p : Prop), p → True from fun _ _ => True.intro) _ hx; clear hprop; first | (cases hx; done) | (exfalso; revert hx; simp (disch := omega) only [decide_eq_true_eq, decide_eq_false_iff_not, Bool.not_eq_true', Bool.not_eq_false', Bool.and_eq_true, Bool.and_eq_false_iff, Int.not_lt, Int.not_le, ne_eq, not_false_eq_true, not_true_eq_false, reduceCtorEq, Bool.true_eq_false, Bool.false_eq_true, beq_iff_eq, bne_iff_ne, beq_eq_false_iff_ne, false_or, or_false, true_and, and_true, hX.lenT, List.length_map, h1]; done) | (simp (disch := omega) only [decide_eq_true_eq, decide_eq_false_iff_not, Bool.not_eq_true', Bool.not_eq_false', Bool.and_eq_true, Bool.and_eq_false_iff, Int.not_lt, Int.not_le, ne_eq, not_false_eq_true, not_true_eq_false, reduceCtorEq, Bool.true_eq_false, Bool.false_eq_true, beq_iff_eq, bne_iff_ne, beq_eq_false_iff_ne, false_or, or_false, true_and, and_true, hX.lenT, List.length_map, h1] at hx; first | (exfalso; omega) | skip) | skip)
    | trivial
    | exact fit_ofL _ _
    | (simp (disch := omega) only [notAgg_v, notAgg_sl, plain_v, fits, fitsOne, fitsCells, xsOf, cell_zero, cell_succ, List.range, List.range.loop, List.map, cond_true, cond_false, D.v.injEq, exists_eq', exists_eq, and_self, and_true, true_and, D.agg.injEq, List.length, exists_eq_left', D.sl.injEq, reduceCtorEq, false_or, true_or, or_true, or_false, cell_zero, cell_succ, cell_v, cells_v, cells_agg, List.length_cons, List.length_nil, hX.lenT, List.length_map, h1]; done))
  all_goals first
    | (exfalso; omega)
    | omega
    | exact fitP hX
    | exact plainP hX
    | exact fitP hC
    | exact plainP hC
    | exact fit_ofL _ _
    | exact plain_ofL (pts_plain _)
    | exact hX.notAgg
    | exact notAgg_v _
    | exact ⟨_, rfl⟩
    | rfl
    | assumption
    | (rw [h1]; show _ ≤ 2; omega)
    | (simp; done)
    | fail

set_option maxHeartbeats 4000000 in
theorem one_b0 (x : D) (ps : List Pt) (b : Int) (r : List Int) (v c : Int) (b2 : Int) (r2 : List Int) (y : D) (z : Bool) (hX : IsL 2 (ps.map ptD) x) (hP : AllB ps) (hm : ps.length ≤ 90000) (ho : (SS.mk b r ps).Ok) (v0 : 0 ≤ v) (v1 : v ≤ 1099511727776) (hc1 : b ≤ v) (hc2 : v < limF b r.length) (hc3 : haveF ps v = false) (hd : v = b) (hn : ps = []) (e1 : b + 1 = b2) (e2 : r ++ [c] = r2) (e3 : x = y) (e4 : true = z) : ReadD Try.prog 44 [.agg [.v (.int .i64 b), str r, x], .v (.int .i64 v), str [c]] [.agg [.v (.int .i64 b2), str r2, y], .v (.bool z)] := by
  refine read_cond (Lp := (fun _ => none)) (by kernel_rfl) Try.func44 (by kernel_rfl) (by kernel_rfl) ?_
  rw [vc_one_no x ps b r v c b2 r2 y z]
  have h0 := ho.b
  have hb1 := ho.b1
  have hr4 := ho.r
  have hW : W (limF b r.length) b ps := ho.w
  simp only at h0 hb1 hr4
  have LM := rlimit x ps b r hX h0.1 hb1 (by omega)
  have hlm : limF b r.length ≤ b + 4096 ∧ limF b r.length ≤ 1099511627776 ∧ b ≤ limF b r.length := ⟨by unfold limF; omega, by unfold limF; omega, h0.2⟩
  have HV := haveP x ps b r v hX (by omega) (ok_fit ho)
  have h1 : True := trivial
  have i1 : True := trivial
  have k2 : True := trivial
  have k3 : True := trivial
  subst e1; subst e2; subst e3; subst e4
  subst hn
  rw [hc3] at HV
  have k2 := bin_sadd (a := r) (b := [c]) (by simp only [List.length_cons, List.length_nil]; omega)
  repeat' (first
    | (refine ex_some (by simp (disch := omega) only [bin_shr, bin_shl, bin_and, bin_or, bin_xor, len_str, toStr_ofL, bin_add, bin_sub, bin_mul, bin_quo, bin_rem, bin_lss, bin_leq, bin_gtr, bin_geq, bin_eql, bin_neq, eqs_cn, eqs_ci, eqs_cb, eqs_cs, Option.map_some, lenT_ofL, lst_ofL, lstSz_ofL, chunk_one, lst_nil, lst_sl, lstSz_sl, lstSz_nil, Bool.and_true, Bool.true_and, Bool.and_false, Bool.false_and, beq_self_eq_true, beq_bb, bne_bb, un_not, un_neg, conv_int, min2_int, max2_int, w64, w32, wu8, wu16, wu32, wu64, tdiv_nn, tmod_nn, cell_zero, cell_succ, cell_v, cells_v, cells_agg, Bool.not_true, Bool.not_false, Int.reduceLT, Int.reduceLE, Int.reduceEq, Int.reduceNeg, Int.reduceAdd, Int.reduceSub, Int.reduceMul, intOf_v, decide_true, decide_false, hX.lenT, List.length_map, h1, k2, List.length_nil]; rfl) ?_)
    | (refine ex_bool ?_)
    | (refine ⟨_, LM, ?_⟩)
    | (refine ⟨_, HV, ?_⟩)
    | (refine And.intro ?_ ?_)
    | (intro hx; have hprop := (show ∀ (p : Prop), p → True from fun _ _ => True.intro) _ hx; clear hprop; first | (cases hx; done) | (exfalso; revert hx; simp (disch := omega) only [decide_eq_true_eq, decide_eq_false_iff_not, Bool.not_eq_true', Bool.not_eq_false', Bool.and_eq_true, Bool.and_eq_false_iff, Int.not_lt, Int.not_le, ne_eq, not_false_eq_true, not_true_eq_false, reduceCtorEq, Bool.true_eq_false, Bool.false_eq_true, beq_iff_eq, bne_iff_ne, beq_eq_false_iff_ne, false_or, or_false, true_and, and_true, hX.lenT, List.length_map, h1, k2, List.length_nil]; done) | (simp (disch := omega) only [decide_eq_true_eq, decide_eq_false_iff_not, Bool.not_eq_true', Bool.not_eq_false', Bool.and_eq_true, Bool.and_eq_false_iff, Int.not_lt, Int.not_le, ne_eq, not_false_eq_true, not_true_eq_false, reduceCtorEq, Bool.true_eq_false, Bool.false_eq_true, beq_iff_eq, bne_iff_ne, beq_eq_false_iff_ne, false_or, or_false, true_and, and_true, hX.lenT, List.length_map, h1, k2, List.length_nil] at hx; first | (exfalso; omega) | skip) | skip)
    | trivial
    | exact fit_ofL _ _
    | (simp (disch := omega) only [notAgg_v, notAgg_sl, plain_v, fits, fitsOne, fitsCells, xsOf, cell_zero, cell_succ, List.range, List.range.loop, List.map, cond_true, cond_false, D.v.injEq, exists_eq', exists_eq, and_self, and_true, true_and, D.agg.injEq, List.length, exists_eq_left', D.sl.injEq, reduceCtorEq, false_or, true_or, or_true, or_false, cell_zero, cell_succ, cell_v, cells_v, cells_agg, List.length_cons, List.length_nil, hX.lenT, List.length_map, h1, k2, List.length_nil]; done))
  all_goals first
    | (exfalso; omega)
    | omega
    | exact fitP hX
    | exact plainP hX
    | exact fitP hC
    | exact plainP hC
    | exact fit_ofL _ _
    | exact plain_ofL (pts_plain _)
    | exact hX.notAgg
    | exact notAgg_v _
    | exact ⟨_, rfl⟩
    | rfl
    | assumption
    | (rw [h1]; show _ ≤ 2; omega)
    | (simp; done)
    | fail

set_option maxHeartbeats 4000000 in
theorem one_b1 (x : D) (ps : List Pt) (b : Int) (r : List Int) (v c : Int) (b2 : Int) (r2 : List Int) (y : D) (z : Bool) (hX : IsL 2 (ps.map ptD) x) (hP : AllB ps) (hm : ps.length ≤ 90000) (ho : (SS.mk b r ps).Ok) (v0 : 0 ≤ v) (v1 : v ≤ 1099511727776) (hc1 : b ≤ v) (hc2 : v < limF b r.length) (hc3 : haveF ps v = false) (hd : v = b) (hn : 0 < ps.length) (hq : (ps.getD 0 (0, [])).1 ≠ b + 1) (e1 : b + 1 = b2) (e2 : r ++ [c] = r2) (e3 : x = y) (e4 : true = z) : ReadD Try.prog 44 [.agg [.v (.int .i64 b), str r, x], .v (.int .i64 v), str [c]] [.agg [.v (.int .i64 b2), str r2, y], .v (.bool z)] := by
  refine read_cond (Lp := (fun _ => none)) (by kernel_rfl) Try.func44 (by kernel_rfl) (by kernel_rfl) ?_
  rw [vc_one_no x ps b r v c b2 r2 y z]
  have h0 := ho.b
  have hb1 := ho.b1
  have hr4 := ho.r
  have hW : W (limF b r.length) b ps := ho.w
  simp only at h0 hb1 hr4
  have LM := rlimit x ps b r hX h0.1 hb1 (by omega)
  have hlm : limF b r.length ≤ b + 4096 ∧ limF b r.length ≤ 1099511627776 ∧ b ≤ limF b r.length := ⟨by unfold limF; omega, by unfold limF; omega, h0.2⟩
  have HV := haveP x ps b r v hX (by omega) (ok_fit ho)
  have h1 : True := trivial
  have i1 : True := trivial
  have k2 : True := trivial
  have k3 : True := trivial
  subst e1; subst e2; subst e3; subst e4
  rw [hc3] at HV
  have k2 := bin_sadd (a := r) (b := [c]) (by simp only [List.length_cons, List.length_nil]; omega)
  have hk1 : 0 < ps.length := hn
  have h1 := pt_get hX hk1
  have i1 := pt_inb hX hk1
  have hb := pt_in hP hk1
  generalize ps.getD 0 (0, []) = p at h1 hb hq
  obtain ⟨a, t⟩ := p
  simp only at hb hq
  simp only [Int.natCast_zero, ptD] at h1 i1
  repeat' (first
    | (refine ex_some (by simp (disch := omega) only [bin_shr, bin_shl, bin_and, bin_or, bin_xor, len_str, toStr_ofL, bin_add, bin_sub, bin_mul, bin_quo, bin_rem, bin_lss, bin_leq, bin_gtr, bin_geq, bin_eql, bin_neq, eqs_cn, eqs_ci, eqs_cb, eqs_cs, Option.map_some, lenT_ofL, lst_ofL, lstSz_ofL, chunk_one, lst_nil, lst_sl, lstSz_sl, lstSz_nil, Bool.and_true, Bool.true_and, Bool.and_false, Bool.false_and, beq_self_eq_true, beq_bb, bne_bb, un_not, un_neg, conv_int, min2_int, max2_int, w64, w32, wu8, wu16, wu32, wu64, tdiv_nn, tmod_nn, cell_zero, cell_succ, cell_v, cells_v, cells_agg, Bool.not_true, Bool.not_false, Int.reduceLT, Int.reduceLE, Int.reduceEq, Int.reduceNeg, Int.reduceAdd, Int.reduceSub, Int.reduceMul, intOf_v, decide_true, decide_false, hX.lenT, List.length_map, h1, k2]; rfl) ?_)
    | (refine ex_bool ?_)
    | (refine ⟨_, LM, ?_⟩)
    | (refine ⟨_, HV, ?_⟩)
    | (exact i1)
    | (refine And.intro ?_ ?_)
    | (intro hx; have hprop := (show ∀ (p : Prop), p → True from fun _ _ => True.intro) _ hx; clear hprop; first | (cases hx; done) | (exfalso; revert hx; simp (disch := omega) only [decide_eq_true_eq, decide_eq_false_iff_not, Bool.not_eq_true', Bool.not_eq_false', Bool.and_eq_true, Bool.and_eq_false_iff, Int.not_lt, Int.not_le, ne_eq, not_false_eq_true, not_true_eq_false, reduceCtorEq, Bool.true_eq_false, Bool.false_eq_true, beq_iff_eq, bne_iff_ne, beq_eq_false_iff_ne, false_or, or_false, true_and, and_true, hX.lenT, List.length_map, h1, k2]; done) | (simp (disch := omega) only [decide_eq_true_eq, decide_eq_false_iff_not, Bool.not_eq_true', Bool.not_eq_false', Bool.and_eq_true, Bool.and_eq_false_iff, Int.not_lt, Int.not_le, ne_eq, not_false_eq_true, not_true_eq_false, reduceCtorEq, Bool.true_eq_false, Bool.false_eq_true, beq_iff_eq, bne_iff_ne, beq_eq_false_iff_ne, false_or, or_false, true_and, and_true, hX.lenT, List.length_map, h1, k2] at hx; first | (exfalso; omega) | skip) | skip)
    | trivial
    | exact fit_ofL _ _
    | (simp (disch := omega) only [notAgg_v, notAgg_sl, plain_v, fits, fitsOne, fitsCells, xsOf, cell_zero, cell_succ, List.range, List.range.loop, List.map, cond_true, cond_false, D.v.injEq, exists_eq', exists_eq, and_self, and_true, true_and, D.agg.injEq, List.length, exists_eq_left', D.sl.injEq, reduceCtorEq, false_or, true_or, or_true, or_false, cell_zero, cell_succ, cell_v, cells_v, cells_agg, List.length_cons, List.length_nil, hX.lenT, List.length_map, h1, k2]; done))
  all_goals first
    | (exfalso; omega)
    | omega
    | exact fitP hX
    | exact plainP hX
    | exact fitP hC
    | exact plainP hC
    | exact fit_ofL _ _
    | exact plain_ofL (pts_plain _)
    | exact hX.notAgg
    | exact notAgg_v _
    | exact ⟨_, rfl⟩
    | rfl
    | assumption
    | (rw [h1]; show _ ≤ 2; omega)
    | (simp; done)
    | fail

set_option maxHeartbeats 4000000 in
theorem one_b2 (x : D) (ps : List Pt) (b : Int) (r : List Int) (v c : Int) (b2 : Int) (r2 : List Int) (y : D) (z : Bool) (hX : IsL 2 (ps.map ptD) x) (hP : AllB ps) (hm : ps.length ≤ 90000) (ho : (SS.mk b r ps).Ok) (v0 : 0 ≤ v) (v1 : v ≤ 1099511727776) (hc1 : b ≤ v) (hc2 : v < limF b r.length) (hc3 : haveF ps v = false) (hd : v = b) (hn : 0 < ps.length) (hq : (ps.getD 0 (0, [])).1 = b + 1) (e1 : b + 1 + (ps.getD 0 (0, [])).2.length = b2) (e2 : r ++ [c] ++ (ps.getD 0 (0, [])).2 = r2) (eC : D.cutL 2 x (some (.v (.int .i64 1))) none none = some y) (hC : IsL 2 ((ps.drop 1).map ptD) y) (e4 : true = z) : ReadD Try.prog 44 [.agg [.v (.int .i64 b), str r, x], .v (.int .i64 v), str [c]] [.agg [.v (.int .i64 b2), str r2, y], .v (.bool z)] := by
  refine read_cond (Lp := (fun _ => none)) (by kernel_rfl) Try.func44 (by kernel_rfl) (by kernel_rfl) ?_
  rw [vc_one_no x ps b r v c b2 r2 y z]
  have h0 := ho.b
  have hb1 := ho.b1
  have hr4 := ho.r
  have hW : W (limF b r.length) b ps := ho.w
  simp only at h0 hb1 hr4
  have LM := rlimit x ps b r hX h0.1 hb1 (by omega)
  have hlm : limF b r.length ≤ b + 4096 ∧ limF b r.length ≤ 1099511627776 ∧ b ≤ limF b r.length := ⟨by unfold limF; omega, by unfold limF; omega, h0.2⟩
  have HV := haveP x ps b r v hX (by omega) (ok_fit ho)
  have h1 : True := trivial
  have i1 : True := trivial
  have k2 : True := trivial
  have k3 : True := trivial
  subst e1; subst e2; subst e4
  rw [hc3] at HV
  have k2 := bin_sadd (a := r) (b := [c]) (by simp only [List.length_cons, List.length_nil]; omega)
  have hk1 : 0 < ps.length := hn
  have h1 := pt_get hX hk1
  have i1 := pt_inb hX hk1
  have hb := pt_in hP hk1
  generalize ps.getD 0 (0, []) = p at h1 hb hq ⊢
  obtain ⟨a, t⟩ := p
  simp only at hb hq ⊢
  have k3 := bin_sadd (a := r ++ [c]) (b := t) (by simp only [List.length_append, List.length_cons, List.length_nil]; omega)
  simp only [Int.natCast_zero, ptD] at h1 i1
  repeat' (first
    | (refine ex_some (by simp (disch := omega) only [bin_shr, bin_shl, bin_and, bin_or, bin_xor, len_str, toStr_ofL, bin_add, bin_sub, bin_mul, bin_quo, bin_rem, bin_lss, bin_leq, bin_gtr, bin_geq, bin_eql, bin_neq, eqs_cn, eqs_ci, eqs_cb, eqs_cs, Option.map_some, lenT_ofL, lst_ofL, lstSz_ofL, chunk_one, lst_nil, lst_sl, lstSz_sl, lstSz_nil, Bool.and_true, Bool.true_and, Bool.and_false, Bool.false_and, beq_self_eq_true, beq_bb, bne_bb, un_not, un_neg, conv_int, min2_int, max2_int, w64, w32, wu8, wu16, wu32, wu64, tdiv_nn, tmod_nn, cell_zero, cell_succ, cell_v, cells_v, cells_agg, Bool.not_true, Bool.not_false, Int.reduceLT, Int.reduceLE, Int.reduceEq, Int.reduceNeg, Int.reduceAdd, Int.reduceSub, Int.reduceMul, intOf_v, decide_true, decide_false, hX.lenT, List.length_map, h1, k2, k3]; rfl) ?_)
    | (refine ex_bool ?_)
    | (refine ⟨_, LM, ?_⟩)
    | (refine ⟨_, HV, ?_⟩)
    | (refine ⟨_, eC, ?_⟩)
    | (exact i1)
    | (refine And.intro ?_ ?_)
    | (intro hx; have hprop := (show ∀ (p : Prop), p → True from fun _ _ => True.intro) _ hx; clear hprop; first | (cases hx; done) | (exfalso; revert hx; simp (disch := omega) only [decide_eq_true_eq, decide_eq_false_iff_not, Bool.not_eq_true', Bool.not_eq_false', Bool.and_eq_true, Bool.and_eq_false_iff, Int.not_lt, Int.not_le, ne_eq, not_false_eq_true, not_true_eq_false, reduceCtorEq, Bool.true_eq_false, Bool.false_eq_true, beq_iff_eq, bne_iff_ne, beq_eq_false_iff_ne, false_or, or_false, true_and, and_true, hX.lenT, List.length_map, h1, k2, k3]; done) | (simp (disch := omega) only [decide_eq_true_eq, decide_eq_false_iff_not, Bool.not_eq_true', Bool.not_eq_false', Bool.and_eq_true, Bool.and_eq_false_iff, Int.not_lt, Int.not_le, ne_eq, not_false_eq_true, not_true_eq_false, reduceCtorEq, Bool.true_eq_false, Bool.false_eq_true, beq_iff_eq, bne_iff_ne, beq_eq_false_iff_ne, false_or, or_false, true_and, and_true, hX.lenT, List.length_map, h1, k2, k3] at hx; first | (exfalso; omega) | skip) | skip)
    | trivial
    | exact fit_ofL _ _
    | (simp (disch := omega) only [notAgg_v, notAgg_sl, plain_v, fits, fitsOne, fitsCells, xsOf, cell_zero, cell_succ, List.range, List.range.loop, List.map, cond_true, cond_false, D.v.injEq, exists_eq', exists_eq, and_self, and_true, true_and, D.agg.injEq, List.length, exists_eq_left', D.sl.injEq, reduceCtorEq, false_or, true_or, or_true, or_false, cell_zero, cell_succ, cell_v, cells_v, cells_agg, List.length_cons, List.length_nil, hX.lenT, List.length_map, h1, k2, k3]; done))
  all_goals first
    | (exfalso; omega)
    | omega
    | exact fitP hX
    | exact plainP hX
    | exact fitP hC
    | exact plainP hC
    | exact fit_ofL _ _
    | exact plain_ofL (pts_plain _)
    | exact hX.notAgg
    | exact notAgg_v _
    | exact ⟨_, rfl⟩
    | rfl
    | assumption
    | (rw [h1]; show _ ≤ 2; omega)
    | (simp; done)
    | fail

end Go.Proofs.Ytjdemohgegldaaa