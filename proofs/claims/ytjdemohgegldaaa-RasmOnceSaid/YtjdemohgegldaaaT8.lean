/-
  Layer 12: two parts as one.
-/
import Derived.Test.YtjdemohgegldaaaT1
import Derived.Test.YtjdemohgegldaaaT2
import Derived.Test.YtjdemohgegldaaaT3
import Derived.Test.YtjdemohgegldaaaT4
import Derived.Test.YtjdemohgegldaaaT6
import Derived.Test.YtjdemohgegldaaaT7
namespace Go.Proofs.Ytjdemohgegldaaa
open Go.RowKit
set_option linter.unusedSimpArgs false
set_option linter.unusedVariables false


def endP (p : Pt) : Int := p.1 + p.2.length
def lowJ (o f : Pt) : Pt := if f.1 < o.1 then (f.1, f.2.take (o.1 - f.1).toNat ++ o.2) else o
def joinF (o f : Pt) : Pt := if endP o < endP f then ((lowJ o f).1, (lowJ o f).2 ++ f.2.drop (endP o - f.1).toNat) else lowJ o f

theorem vc_joined (a c : Int) (s t : List Int) : Cond Try.prog (fun _ => none) Try.f41 [.agg [.v (.int .i64 a), str s], .agg [.v (.int .i64 c), str t]] [.agg [.v (.int .i64 (joinF (a, s) (c, t)).1), str (joinF (a, s) (c, t)).2]] = (((∃ (cs : List D), D.agg [D.v (Value.int IntKind.i64 a), str s] = D.agg cs ∧ cs.length = 2) ∧ (∃ (cs : List D), D.agg [D.v (Value.int IntKind.i64 c), str t] = D.agg cs ∧ cs.length = 2) ∧ True) ∧ ∃ (r : D), D.bin BinOp.lss (D.v (Value.int IntKind.i64 c)) (D.v (Value.int IntKind.i64 a)) = some r ∧ ∃ (b : Bool), r = D.v (Value.bool b) ∧ (b = true → ∃ (r : D), D.bin BinOp.sub (D.v (Value.int IntKind.i64 a)) (D.v (Value.int IntKind.i64 c)) = some r ∧ ∃ (r_1 : D), (str t).cutS none (some r) = some r_1 ∧ ∃ (r : D), D.bin BinOp.add r_1 (str s) = some r ∧ ∃ (r_2 : D), PureD Try.prog 40 [D.agg [D.v (Value.int IntKind.i64 c), str t]] [r_2] ∧ fits [(false, [none])] [r_2] ∧ ∃ (r_3 : D), PureD Try.prog 40 [D.agg [D.v (Value.int IntKind.i64 a), str s]] [r_3] ∧ fits [(false, [none])] [r_3] ∧ ∃ (r_4 : D), D.bin BinOp.gtr r_2 r_3 = some r_4 ∧ ∃ (b : Bool), r_4 = D.v (Value.bool b) ∧ (b = true → ∃ (r_5 : D), PureD Try.prog 40 [D.agg [D.v (Value.int IntKind.i64 a), str s]] [r_5] ∧ fits [(false, [none])] [r_5] ∧ ∃ (r_6 : D), D.bin BinOp.sub r_5 (D.v (Value.int IntKind.i64 c)) = some r_6 ∧ ∃ (r_7 : D), (str t).cutS (some r_6) none = some r_7 ∧ ∃ (r_8 : D), D.bin BinOp.add r r_7 = some r_8 ∧ ((∃ (y : Value), D.v (Value.int IntKind.i64 c) = D.v y) ∧ (∃ (y : Value), r_8 = D.v y) ∧ True) ∧ [D.agg [D.v (Value.int IntKind.i64 c), r_8]] = [D.agg [D.v (Value.int IntKind.i64 (joinF (a, s) (c, t)).fst), str (joinF (a, s) (c, t)).2]]) ∧ (b = false → ((∃ (y : Value), D.v (Value.int IntKind.i64 c) = D.v y) ∧ (∃ (y : Value), r = D.v y) ∧ True) ∧ [D.agg [D.v (Value.int IntKind.i64 c), r]] = [D.agg [D.v (Value.int IntKind.i64 (joinF (a, s) (c, t)).fst), str (joinF (a, s) (c, t)).2]])) ∧ (b = false → ∃ (r : D), PureD Try.prog 40 [D.agg [D.v (Value.int IntKind.i64 c), str t]] [r] ∧ fits [(false, [none])] [r] ∧ ∃ (r_1 : D), PureD Try.prog 40 [D.agg [D.v (Value.int IntKind.i64 a), str s]] [r_1] ∧ fits [(false, [none])] [r_1] ∧ ∃ (r_2 : D), D.bin BinOp.gtr r r_1 = some r_2 ∧ ∃ (b : Bool), r_2 = D.v (Value.bool b) ∧ (b = true → ∃ (r : D), PureD Try.prog 40 [D.agg [D.v (Value.int IntKind.i64 a), str s]] [r] ∧ fits [(false, [none])] [r] ∧ ∃ (r_3 : D), D.bin BinOp.sub r (D.v (Value.int IntKind.i64 c)) = some r_3 ∧ ∃ (r : D), (str t).cutS (some r_3) none = some r ∧ ∃ (r_4 : D), D.bin BinOp.add (str s) r = some r_4 ∧ ((∃ (y : Value), D.v (Value.int IntKind.i64 a) = D.v y) ∧ (∃ (y : Value), r_4 = D.v y) ∧ True) ∧ [D.agg [D.v (Value.int IntKind.i64 a), r_4]] = [D.agg [D.v (Value.int IntKind.i64 (joinF (a, s) (c, t)).fst), str (joinF (a, s) (c, t)).2]]) ∧ (b = false → ((∃ (y : Value), D.v (Value.int IntKind.i64 a) = D.v y) ∧ (∃ (y : Value), str s = D.v y) ∧ True) ∧ [D.agg [D.v (Value.int IntKind.i64 a), str s]] = [D.agg [D.v (Value.int IntKind.i64 (joinF (a, s) (c, t)).fst), str (joinF (a, s) (c, t)).2]]))) := by kernel_rfl
set_option maxHeartbeats 4000000 in
theorem joined (a c : Int) (s t : List Int) (a0 : 0 ≤ a) (a1 : a ≤ 1099511627776) (c0 : 0 ≤ c) (c1 : c ≤ 1099511627776) (hs : s.length ≤ 100000) (ht : t.length ≤ 100000) (w1 : a ≤ c + t.length) (w2 : c ≤ a + s.length) : PureD Try.prog 41 [.agg [.v (.int .i64 a), str s], .agg [.v (.int .i64 c), str t]] [.agg [.v (.int .i64 (joinF (a, s) (c, t)).1), str (joinF (a, s) (c, t)).2]] := by
  refine pure_cond (Lp := (fun _ => none)) (by kernel_rfl) Try.func41 (by kernel_rfl) (by kernel_rfl) ?_
  rw [vc_joined a c s t]
  have E1 := ends1 a s (by omega) (by omega) (by omega)
  have E2 := ends1 c t (by omega) (by omega) (by omega)
  have k1 : True := trivial
  have k2 : True := trivial
  have k3 : True := trivial
  have k4 : True := trivial
  have hm : True := trivial
  have hm2 : True := trivial
  by_cases h1 : c < a
  · skip
    have hL : lowJ (a, s) (c, t) = (c, t.take (a - c).toNat ++ s) := if_pos h1
    obtain ⟨m, hm⟩ := Int.eq_ofNat_of_zero_le (show 0 ≤ a - c by omega)
    rw [hm, Int.toNat_natCast] at hL
    have hmt : m ≤ t.length := by omega
    have hlt : (t.take m).length = m := by rw [List.length_take]; omega
    have k1 := cutS_to t .i64 (a := m) hmt
    have k2 := bin_sadd (a := t.take m) (b := s) (by rw [hlt]; omega)
    by_cases h2 : a + s.length < c + t.length
    · skip
      have hJ : joinF (a, s) (c, t) = ((lowJ (a, s) (c, t)).1, (lowJ (a, s) (c, t)).2 ++ t.drop (endP (a, s) - c).toNat) := if_pos (by simp only [endP]; omega)
      simp only [endP] at hJ
      obtain ⟨m2, hm2⟩ := Int.eq_ofNat_of_zero_le (show 0 ≤ a + (s.length : Nat) - c by omega)
      rw [hm2, Int.toNat_natCast, hL] at hJ
      have hmt2 : m2 ≤ t.length := by omega
      have hlt2 : (t.drop m2).length = t.length - m2 := List.length_drop
      have k3 := cutS_from t .i64 (a := m2) hmt2
      have k4 := bin_sadd (a := t.take m ++ s) (b := t.drop m2) (by simp only [List.length_append, hlt2, hlt]; omega)
      simp only at hJ
      rw [hJ]
      repeat' (first
        | (refine ex_some (by simp (disch := omega) only [bin_shr, bin_shl, bin_and, bin_or, bin_xor, len_str, toStr_ofL, bin_add, bin_sub, bin_mul, bin_quo, bin_rem, bin_lss, bin_leq, bin_gtr, bin_geq, bin_eql, bin_neq, eqs_cn, eqs_ci, eqs_cb, eqs_cs, Option.map_some, lenT_ofL, lst_ofL, lstSz_ofL, chunk_one, lst_nil, lst_sl, lstSz_sl, lstSz_nil, Bool.and_true, Bool.true_and, Bool.and_false, Bool.false_and, beq_self_eq_true, beq_bb, bne_bb, un_not, un_neg, conv_int, min2_int, max2_int, w64, w32, wu8, wu16, wu32, wu64, tdiv_nn, tmod_nn, cell_zero, cell_succ, cell_v, cells_v, cells_agg, Bool.not_true, Bool.not_false, Int.reduceLT, Int.reduceLE, Int.reduceEq, Int.reduceNeg, Int.reduceAdd, Int.reduceSub, Int.reduceMul, intOf_v, decide_true, decide_false, k1, k2, k3, k4, hm, hm2]; rfl) ?_)
        | (refine ex_bool ?_)
        | (refine ⟨_, E1, ?_⟩)
        | (refine ⟨_, E2, ?_⟩)
        | (refine And.intro ?_ ?_)
        | (intro hx; have hprop := (show ∀ (p : Prop), p → True from fun _ _ => True.intro) _ hx; clear hprop; first | (cases hx; done) | (exfalso; revert hx; simp (disch := omega) only [decide_eq_true_eq, decide_eq_false_iff_not, Bool.not_eq_true', Bool.not_eq_false', Bool.and_eq_true, Bool.and_eq_false_iff, Int.not_lt, Int.not_le, ne_eq, not_false_eq_true, not_true_eq_false, reduceCtorEq, Bool.true_eq_false, Bool.false_eq_true, beq_iff_eq, bne_iff_ne, beq_eq_false_iff_ne, false_or, or_false, true_and, and_true, k1, k2, k3, k4, hm, hm2]; done) | (simp (disch := omega) only [decide_eq_true_eq, decide_eq_false_iff_not, Bool.not_eq_true', Bool.not_eq_false', Bool.and_eq_true, Bool.and_eq_false_iff, Int.not_lt, Int.not_le, ne_eq, not_false_eq_true, not_true_eq_false, reduceCtorEq, Bool.true_eq_false, Bool.false_eq_true, beq_iff_eq, bne_iff_ne, beq_eq_false_iff_ne, false_or, or_false, true_and, and_true, k1, k2, k3, k4, hm, hm2] at hx; first | (exfalso; omega) | skip) | skip)
        | trivial
        | exact fit_ofL _ _
        | (simp (disch := omega) only [notAgg_v, notAgg_sl, plain_v, fits, fitsOne, fitsCells, xsOf, cell_zero, cell_succ, List.range, List.range.loop, List.map, cond_true, cond_false, D.v.injEq, exists_eq', exists_eq, and_self, and_true, true_and, D.agg.injEq, List.length, exists_eq_left', D.sl.injEq, reduceCtorEq, false_or, true_or, or_true, or_false, cell_zero, cell_succ, cell_v, cells_v, cells_agg, List.length_cons, List.length_nil, k1, k2, k3, k4, hm, hm2]; done))
      all_goals first
        | (exfalso; omega)
        | omega
        | exact ⟨_, rfl⟩
        | rfl
        | assumption
        | (simp; done)
        | fail
    · skip
      have hJ : joinF (a, s) (c, t) = lowJ (a, s) (c, t) := if_neg (by simp only [endP]; omega)
      rw [hJ, hL]
      repeat' (first
        | (refine ex_some (by simp (disch := omega) only [bin_shr, bin_shl, bin_and, bin_or, bin_xor, len_str, toStr_ofL, bin_add, bin_sub, bin_mul, bin_quo, bin_rem, bin_lss, bin_leq, bin_gtr, bin_geq, bin_eql, bin_neq, eqs_cn, eqs_ci, eqs_cb, eqs_cs, Option.map_some, lenT_ofL, lst_ofL, lstSz_ofL, chunk_one, lst_nil, lst_sl, lstSz_sl, lstSz_nil, Bool.and_true, Bool.true_and, Bool.and_false, Bool.false_and, beq_self_eq_true, beq_bb, bne_bb, un_not, un_neg, conv_int, min2_int, max2_int, w64, w32, wu8, wu16, wu32, wu64, tdiv_nn, tmod_nn, cell_zero, cell_succ, cell_v, cells_v, cells_agg, Bool.not_true, Bool.not_false, Int.reduceLT, Int.reduceLE, Int.reduceEq, Int.reduceNeg, Int.reduceAdd, Int.reduceSub, Int.reduceMul, intOf_v, decide_true, decide_false, k1, k2, k3, k4, hm, hm2]; rfl) ?_)
        | (refine ex_bool ?_)
        | (refine ⟨_, E1, ?_⟩)
        | (refine ⟨_, E2, ?_⟩)
        | (refine And.intro ?_ ?_)
        | (intro hx; have hprop := (show ∀ (p : Prop), p → True from fun _ _ => True.intro) _ hx; clear hprop; first | (cases hx; done) | (exfalso; revert hx; simp (disch := omega) only [decide_eq_true_eq, decide_eq_false_iff_not, Bool.not_eq_true', Bool.not_eq_false', Bool.and_eq_true, Bool.and_eq_false_iff, Int.not_lt, Int.not_le, ne_eq, not_false_eq_true, not_true_eq_false, reduceCtorEq, Bool.true_eq_false, Bool.false_eq_true, beq_iff_eq, bne_iff_ne, beq_eq_false_iff_ne, false_or, or_false, true_and, and_true, k1, k2, k3, k4, hm, hm2]; done) | (simp (disch := omega) only [decide_eq_true_eq, decide_eq_false_iff_not, Bool.not_eq_true', Bool.not_eq_false', Bool.and_eq_true, Bool.and_eq_false_iff, Int.not_lt, Int.not_le, ne_eq, not_false_eq_true, not_true_eq_false, reduceCtorEq, Bool.true_eq_false, Bool.false_eq_true, beq_iff_eq, bne_iff_ne, beq_eq_false_iff_ne, false_or, or_false, true_and, and_true, k1, k2, k3, k4, hm, hm2] at hx; first | (exfalso; omega) | skip) | skip)
        | trivial
        | exact fit_ofL _ _
        | (simp (disch := omega) only [notAgg_v, notAgg_sl, plain_v, fits, fitsOne, fitsCells, xsOf, cell_zero, cell_succ, List.range, List.range.loop, List.map, cond_true, cond_false, D.v.injEq, exists_eq', exists_eq, and_self, and_true, true_and, D.agg.injEq, List.length, exists_eq_left', D.sl.injEq, reduceCtorEq, false_or, true_or, or_true, or_false, cell_zero, cell_succ, cell_v, cells_v, cells_agg, List.length_cons, List.length_nil, k1, k2, k3, k4, hm, hm2]; done))
      all_goals first
        | (exfalso; omega)
        | omega
        | exact ⟨_, rfl⟩
        | rfl
        | assumption
        | (simp; done)
        | fail
  · skip
    have hL : lowJ (a, s) (c, t) = (a, s) := if_neg h1
    by_cases h2 : a + s.length < c + t.length
    · skip
      have hJ : joinF (a, s) (c, t) = ((lowJ (a, s) (c, t)).1, (lowJ (a, s) (c, t)).2 ++ t.drop (endP (a, s) - c).toNat) := if_pos (by simp only [endP]; omega)
      simp only [endP] at hJ
      obtain ⟨m2, hm2⟩ := Int.eq_ofNat_of_zero_le (show 0 ≤ a + (s.length : Nat) - c by omega)
      rw [hm2, Int.toNat_natCast, hL] at hJ
      have hmt2 : m2 ≤ t.length := by omega
      have hlt2 : (t.drop m2).length = t.length - m2 := List.length_drop
      have k3 := cutS_from t .i64 (a := m2) hmt2
      have k4 := bin_sadd (a := s) (b := t.drop m2) (by simp only [List.length_append, hlt2]; omega)
      simp only at hJ
      rw [hJ]
      repeat' (first
        | (refine ex_some (by simp (disch := omega) only [bin_shr, bin_shl, bin_and, bin_or, bin_xor, len_str, toStr_ofL, bin_add, bin_sub, bin_mul, bin_quo, bin_rem, bin_lss, bin_leq, bin_gtr, bin_geq, bin_eql, bin_neq, eqs_cn, eqs_ci, eqs_cb, eqs_cs, Option.map_some, lenT_ofL, lst_ofL, lstSz_ofL, chunk_one, lst_nil, lst_sl, lstSz_sl, lstSz_nil, Bool.and_true, Bool.true_and, Bool.and_false, Bool.false_and, beq_self_eq_true, beq_bb, bne_bb, un_not, un_neg, conv_int, min2_int, max2_int, w64, w32, wu8, wu16, wu32, wu64, tdiv_nn, tmod_nn, cell_zero, cell_succ, cell_v, cells_v, cells_agg, Bool.not_true, Bool.not_false, Int.reduceLT, Int.reduceLE, Int.reduceEq, Int.reduceNeg, Int.reduceAdd, Int.reduceSub, Int.reduceMul, intOf_v, decide_true, decide_false, k1, k2, k3, k4, hm, hm2]; rfl) ?_)
        | (refine ex_bool ?_)
        | (refine ⟨_, E1, ?_⟩)
        | (refine ⟨_, E2, ?_⟩)
        | (refine And.intro ?_ ?_)
        | (intro hx; have hprop := (show ∀ (p : Prop), p → True from fun _ _ => True.intro) _ hx; clear hprop; first | (cases hx; done) | (exfalso; revert hx; simp (disch := omega) only [decide_eq_true_eq, decide_eq_false_iff_not, Bool.not_eq_true', Bool.not_eq_false', Bool.and_eq_true, Bool.and_eq_false_iff, Int.not_lt, Int.not_le, ne_eq, not_false_eq_true, not_true_eq_false, reduceCtorEq, Bool.true_eq_false, Bool.false_eq_true, beq_iff_eq, bne_iff_ne, beq_eq_false_iff_ne, false_or, or_false, true_and, and_true, k1, k2, k3, k4, hm, hm2]; done) | (simp (disch := omega) only [decide_eq_true_eq, decide_eq_false_iff_not, Bool.not_eq_true', Bool.not_eq_false', Bool.and_eq_true, Bool.and_eq_false_iff, Int.not_lt, Int.not_le, ne_eq, not_false_eq_true, not_true_eq_false, reduceCtorEq, Bool.true_eq_false, Bool.false_eq_true, beq_iff_eq, bne_iff_ne, beq_eq_false_iff_ne, false_or, or_false, true_and, and_true, k1, k2, k3, k4, hm, hm2] at hx; first | (exfalso; omega) | skip) | skip)
        | trivial
        | exact fit_ofL _ _
        | (simp (disch := omega) only [notAgg_v, notAgg_sl, plain_v, fits, fitsOne, fitsCells, xsOf, cell_zero, cell_succ, List.range, List.range.loop, List.map, cond_true, cond_false, D.v.injEq, exists_eq', exists_eq, and_self, and_true, true_and, D.agg.injEq, List.length, exists_eq_left', D.sl.injEq, reduceCtorEq, false_or, true_or, or_true, or_false, cell_zero, cell_succ, cell_v, cells_v, cells_agg, List.length_cons, List.length_nil, k1, k2, k3, k4, hm, hm2]; done))
      all_goals first
        | (exfalso; omega)
        | omega
        | exact ⟨_, rfl⟩
        | rfl
        | assumption
        | (simp; done)
        | fail
    · skip
      have hJ : joinF (a, s) (c, t) = lowJ (a, s) (c, t) := if_neg (by simp only [endP]; omega)
      rw [hJ, hL]
      repeat' (first
        | (refine ex_some (by simp (disch := omega) only [bin_shr, bin_shl, bin_and, bin_or, bin_xor, len_str, toStr_ofL, bin_add, bin_sub, bin_mul, bin_quo, bin_rem, bin_lss, bin_leq, bin_gtr, bin_geq, bin_eql, bin_neq, eqs_cn, eqs_ci, eqs_cb, eqs_cs, Option.map_some, lenT_ofL, lst_ofL, lstSz_ofL, chunk_one, lst_nil, lst_sl, lstSz_sl, lstSz_nil, Bool.and_true, Bool.true_and, Bool.and_false, Bool.false_and, beq_self_eq_true, beq_bb, bne_bb, un_not, un_neg, conv_int, min2_int, max2_int, w64, w32, wu8, wu16, wu32, wu64, tdiv_nn, tmod_nn, cell_zero, cell_succ, cell_v, cells_v, cells_agg, Bool.not_true, Bool.not_false, Int.reduceLT, Int.reduceLE, Int.reduceEq, Int.reduceNeg, Int.reduceAdd, Int.reduceSub, Int.reduceMul, intOf_v, decide_true, decide_false, k1, k2, k3, k4, hm, hm2]; rfl) ?_)
        | (refine ex_bool ?_)
        | (refine ⟨_, E1, ?_⟩)
        | (refine ⟨_, E2, ?_⟩)
        | (refine And.intro ?_ ?_)
        | (intro hx; have hprop := (show ∀ (p : Prop), p → True from fun _ _ => True.intro) _ hx; clear hprop; first | (cases hx; done) | (exfalso; revert hx; simp (disch := omega) only [decide_eq_true_eq, decide_eq_false_iff_not, Bool.not_eq_true', Bool.not_eq_false', Bool.and_eq_true, Bool.and_eq_false_iff, Int.not_lt, Int.not_le, ne_eq, not_false_eq_true, not_true_eq_false, reduceCtorEq, Bool.true_eq_false, Bool.false_eq_true, beq_iff_eq, bne_iff_ne, beq_eq_false_iff_ne, false_or, or_false, true_and, and_true, k1, k2, k3, k4, hm, hm2]; done) | (simp (disch := omega) only [decide_eq_true_eq, decide_eq_false_iff_not, Bool.not_eq_true', Bool.not_eq_false', Bool.and_eq_true, Bool.and_eq_false_iff, Int.not_lt, Int.not_le, ne_eq, not_false_eq_true, not_true_eq_false, reduceCtorEq, Bool.true_eq_false, Bool.false_eq_true, beq_iff_eq, bne_iff_ne, beq_eq_false_iff_ne, false_or, or_false, true_and, and_true, k1, k2, k3, k4, hm, hm2] at hx; first | (exfalso; omega) | skip) | skip)
        | trivial
        | exact fit_ofL _ _
        | (simp (disch := omega) only [notAgg_v, notAgg_sl, plain_v, fits, fitsOne, fitsCells, xsOf, cell_zero, cell_succ, List.range, List.range.loop, List.map, cond_true, cond_false, D.v.injEq, exists_eq', exists_eq, and_self, and_true, true_and, D.agg.injEq, List.length, exists_eq_left', D.sl.injEq, reduceCtorEq, false_or, true_or, or_true, or_false, cell_zero, cell_succ, cell_v, cells_v, cells_agg, List.length_cons, List.length_nil, k1, k2, k3, k4, hm, hm2]; done))
      all_goals first
        | (exfalso; omega)
        | omega
        | exact ⟨_, rfl⟩
        | rfl
        | assumption
        | (simp; done)
        | fail

end Go.Proofs.Ytjdemohgegldaaa