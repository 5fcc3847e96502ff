/-
  Layer 7: the law SegmentGets.
-/
import Derived.Test.YtioodaefgpkkeaaT1
import Derived.Test.YtioodaefgpkkeaaT2
import Derived.Test.YtioodaefgpkkeaaT3
import Derived.Test.YtioodaefgpkkeaaT4
import Derived.Test.YtioodaefgpkkeaaT5
import Derived.Test.YtioodaefgpkkeaaT6
import Derived.Test.YtioodaefgpkkeaaT7
import Derived.Test.YtioodaefgpkkeaaT8
import Derived.Test.YtioodaefgpkkeaaT9
import Derived.Test.YtioodaefgpkkeaaT10
import Derived.Test.YtioodaefgpkkeaaT11
import Derived.Test.YtioodaefgpkkeaaT12
namespace Go.Proofs.Ytioodaefgpkkeaa
open Go.RowKit
set_option linter.unusedSimpArgs false
set_option linter.unusedVariables false


theorem rget (s : List Int) (hs : Bytes s) (hl : s.length ≤ 100000) : PureD Try.prog 20 [str s] [getR s, .v (.int .i64 (getE s))] := by
  by_cases hu : (unF s).2 = 0
  · by_cases hd : gD (unF s).1 = 0
    · have hE : getE s = gC (unF s).1 := by unfold getE; rw [if_neg (by simp [hu]), if_neg (by simp [hd])]
      by_cases hc : gC (unF s).1 = 0
      · have hE0 : getE s = 0 := by rw [hE, hc]
        exact rgetO s hs hl hE0 (by unfold getR; rw [if_pos hE0]) hu hd hc
      · exact rgetC s hs hl hE (by unfold getR; rw [if_neg (by rw [hE]; exact hc)]) hu hd hc
    · have hE : getE s = gD (unF s).1 := by unfold getE; rw [if_neg (by simp [hu]), if_pos hd]
      exact rgetD s hs hl hE (by unfold getR; rw [if_neg (by rw [hE]; exact hd)]) hu hd
  · have hE : getE s = (unF s).2 := by unfold getE; rw [if_pos hu]
    exact rgetU s hs hl hE (by unfold getR; rw [if_neg (by rw [hE]; exact hu)]) hu
theorem getR_form (s : List Int) (hs : Bytes s) : ∃ (fl pa ep sq ak wi : Int) (zs : List (Int × Int)) (d : List Int), getR s = .agg [.v (.int .u8 fl), .v (.int .i64 pa), .v (.int .i64 ep), .v (.int .u32 sq), .v (.int .u32 ak), .v (.int .i64 wi), ofL 2 (prs zs), str d] ∧ zs.length ≤ 100000 ∧ Bytes d ∧ d.length ≤ 100000 ∧ 0 ≤ fl ∧ fl < 256 := by
  have hB := un_bytes hs
  unfold getR
  split
  · have b1 : 0 ≤ vN (g1 (unF s).1).2 ∧ vN (g1 (unF s).1).2 < 256 := v1_bd hB _
    exact ⟨_, _, _, _, _, _, _, _, rfl, by have := gb_len hB; omega, nb_bytes hB _ _, by have := g9_len hB; omega, b1.1, b1.2⟩
  · exact ⟨0, 0, 0, 0, 0, 0, [], [], rfl, by simp, Bytes.nil, by simp, by omega, by omega⟩
theorem same_refl (fl pa ep sq ak wi : Int) (zs : List (Int × Int)) (s : List Int) : sameB fl pa ep sq ak wi zs s fl pa ep sq ak wi zs s = true := by simp [sameB]

theorem vc_lgetsS (s : List Int) : Cond Try.prog (fun _ => none) Try.f4 [str s] [.v (.bool true)] = ((NotAgg (str s) ∧ True) ∧ ∃ (r : D), D.lenT TypeDesc.string (str s) = some r ∧ ∃ (r_1 : D), D.bin BinOp.gtr r (D.v (Value.int IntKind.i64 120)) = some r_1 ∧ ∃ (b : Bool), r_1 = D.v (Value.bool b) ∧ (b = true → ∃ (r : D), PureD Try.prog 7 [] [r] ∧ fits [(false, [none])] [r] ∧ ((∃ (y : Value), r = D.v y) ∧ True) ∧ [r] = [D.v (Value.bool true)]) ∧ (b = false → ∃ (r : D), ∃ (r_2 : D), PureD Try.prog 19 [str s] [r, r_2] ∧ fits [(true, [none, none, none, none, none, none, some 2, none]), (false, [none])] [r, r_2] ∧ ∃ (r_3 : D), ∃ (r_4 : D), PureD Try.prog 20 [str s] [r_3, r_4] ∧ fits [(true, [none, none, none, none, none, none, some 2, none]), (false, [none])] [r_3, r_4] ∧ ∃ (r_5 : D), PureD Try.prog 21 [str s] [r_5] ∧ fits [(false, [none])] [r_5] ∧ ∃ (r_6 : D), ∃ (r_7 : D), PureD Try.prog 19 [r_5] [r_6, r_7] ∧ fits [(true, [none, none, none, none, none, none, some 2, none]), (false, [none])] [r_6, r_7] ∧ ∃ (r_8 : D), PureD Try.prog 21 [str s] [r_8] ∧ fits [(false, [none])] [r_8] ∧ ∃ (r_9 : D), ∃ (r_10 : D), PureD Try.prog 20 [r_8] [r_9, r_10] ∧ fits [(true, [none, none, none, none, none, none, some 2, none]), (false, [none])] [r_9, r_10] ∧ ∃ (r_11 : D), PureD Try.prog 22 [D.agg [r.cell 0, r.cell 1, r.cell 2, r.cell 3, r.cell 4, r.cell 5, r.cell 6, r.cell 7]] [r_11] ∧ fits [(true, [none, none, none, none, none, none, some 2, none])] [r_11] ∧ ∃ (r : D), PureD Try.prog 18 [D.agg [r_11.cell 0, r_11.cell 1, r_11.cell 2, r_11.cell 3, r_11.cell 4, r_11.cell 5, r_11.cell 6, r_11.cell 7], D.agg [r_3.cell 0, r_3.cell 1, r_3.cell 2, r_3.cell 3, r_3.cell 4, r_3.cell 5, r_3.cell 6, r_3.cell 7]] [r] ∧ fits [(false, [none])] [r] ∧ ∃ (b : Bool), r = D.v (Value.bool b) ∧ (b = true → ∃ (r : D), D.bin BinOp.eql r_2 r_4 = some r ∧ ∃ (b : Bool), r = D.v (Value.bool b) ∧ (b = true → ∃ (r : D), PureD Try.prog 22 [D.agg [r_6.cell 0, r_6.cell 1, r_6.cell 2, r_6.cell 3, r_6.cell 4, r_6.cell 5, r_6.cell 6, r_6.cell 7]] [r] ∧ fits [(true, [none, none, none, none, none, none, some 2, none])] [r] ∧ ∃ (r_12 : D), PureD Try.prog 18 [D.agg [r.cell 0, r.cell 1, r.cell 2, r.cell 3, r.cell 4, r.cell 5, r.cell 6, r.cell 7], D.agg [r_9.cell 0, r_9.cell 1, r_9.cell 2, r_9.cell 3, r_9.cell 4, r_9.cell 5, r_9.cell 6, r_9.cell 7]] [r_12] ∧ fits [(false, [none])] [r_12] ∧ ∃ (b : Bool), r_12 = D.v (Value.bool b) ∧ (b = true → ∃ (r : D), D.bin BinOp.eql r_7 r_10 = some r ∧ ∃ (b : Bool), r = D.v (Value.bool b) ∧ (b = true → ∃ (r : D), PureD Try.prog 7 [] [r] ∧ fits [(false, [none])] [r] ∧ ((∃ (y : Value), r = D.v y) ∧ True) ∧ [r] = [D.v (Value.bool true)]) ∧ (b = false → (True ∧ True) ∧ [D.v (Value.bool false)] = [D.v (Value.bool true)])) ∧ (b = false → (True ∧ True) ∧ [D.v (Value.bool false)] = [D.v (Value.bool true)])) ∧ (b = false → (True ∧ True) ∧ [D.v (Value.bool false)] = [D.v (Value.bool true)])) ∧ (b = false → (True ∧ True) ∧ [D.v (Value.bool false)] = [D.v (Value.bool true)]))) := by kernel_rfl
set_option maxHeartbeats 16000000 in
theorem lgetsS (s : List Int) (hs : Bytes s) (hS : s.length ≤ 120) : PureD Try.prog 4 [str s] [.v (.bool true)] := by
  refine pure_cond (Lp := (fun _ => none)) (by kernel_rfl) Try.func4 (by kernel_rfl) (by kernel_rfl) ?_
  rw [vc_lgetsS s]
  have AW := awake
  have hl : s.length ≤ 100000 := by omega
  have G1 := get s hs hl
  have R1 := rget s hs hl
  have LS := lseal s hs hl
  have wb := seal_bytes hs
  have wl := seal_len s
  generalize sealF s = w at LS wb wl
  have hl2 : w.length ≤ 100000 := by omega
  have G2 := get w wb hl2
  have R2 := rget w wb hl2
  obtain ⟨fl, pa, ep, sq, ak, wi, zs, d, e1, n1, d1, n2, f0, f1⟩ := getR_form s hs
  obtain ⟨gl, qa, fp, tq, bk, xi, zt, t, e2, m1, d2, m2, k0, k1⟩ := getR_form w wb
  rw [e1] at G1 R1
  rw [e2] at G2 R2
  generalize getE s = c1 at G1 R1
  generalize getE w = c2 at G2 R2
  have hO : IsL 2 (prs zs) (ofL 2 (prs zs)) := isL_ofL _ _
  have hO2 : IsL 2 (prs zt) (ofL 2 (prs zt)) := isL_ofL _ _
  have BK := backS fl pa ep sq ak wi (ofL 2 (prs zs)) zs d hO n1 d1 n2 f0 f1
  have RS := rsame fl pa ep sq ak wi (ofL 2 (prs zs)) zs d fl pa ep sq ak wi (ofL 2 (prs zs)) zs d hO n1 d1 hO n1 d1
  rw [same_refl] at RS
  have BL := backS gl qa fp tq bk xi (ofL 2 (prs zt)) zt t hO2 m1 d2 m2 k0 k1
  have RT := rsame gl qa fp tq bk xi (ofL 2 (prs zt)) zt t gl qa fp tq bk xi (ofL 2 (prs zt)) zt t hO2 m1 d2 hO2 m1 d2
  rw [same_refl] at RT
  repeat' (first
    | (refine ex_some (by simp (disch := omega) only [bin_shr, bin_shl, bin_and, bin_or, bin_xor, len_str, toStr_ofL, bin_add, bin_sub, bin_mul, bin_quo, bin_rem, bin_lss, bin_leq, bin_gtr, bin_geq, bin_eql, bin_neq, eqs_cn, eqs_ci, eqs_cb, eqs_cs, Option.map_some, lenT_ofL, lst_ofL, lstSz_ofL, chunk_one, lst_nil, lst_sl, lstSz_sl, lstSz_nil, Bool.and_true, Bool.true_and, Bool.and_false, Bool.false_and, beq_self_eq_true, beq_bb, bne_bb, un_not, un_neg, conv_int, min2_int, max2_int, w64, w32, wu8, wu16, wu32, wu64, tdiv_nn, tmod_nn, cell_zero, cell_succ, cell_v, cells_v, cells_agg, Bool.not_true, Bool.not_false, Int.reduceLT, Int.reduceLE, Int.reduceEq, Int.reduceNeg, Int.reduceAdd, Int.reduceSub, Int.reduceMul, intOf_v, decide_true, decide_false, len_str]; rfl) ?_)
    | (refine ex_bool ?_)
    | (refine ⟨_, AW, ?_⟩)
    | (refine ⟨_, _, G1, ?_⟩)
    | (refine ⟨_, _, R1, ?_⟩)
    | (refine ⟨_, LS, ?_⟩)
    | (refine ⟨_, _, G2, ?_⟩)
    | (refine ⟨_, _, R2, ?_⟩)
    | (refine ⟨_, BK, ?_⟩)
    | (refine ⟨_, RS, ?_⟩)
    | (refine ⟨_, BL, ?_⟩)
    | (refine ⟨_, RT, ?_⟩)
    | (refine And.intro ?_ ?_)
    | (intro hx; have hprop := (show ∀ (p : Prop), p → True from fun _ _ => True.intro) _ hx; clear hprop; first | (cases hx; done) | (exfalso; revert hx; simp (disch := omega) only [decide_eq_true_eq, decide_eq_false_iff_not, Bool.not_eq_true', Bool.not_eq_false', Bool.and_eq_true, Bool.and_eq_false_iff, Int.not_lt, Int.not_le, ne_eq, not_false_eq_true, not_true_eq_false, reduceCtorEq, Bool.true_eq_false, Bool.false_eq_true, beq_iff_eq, bne_iff_ne, beq_eq_false_iff_ne, false_or, or_false, true_and, and_true, len_str]; done) | (simp (disch := omega) only [decide_eq_true_eq, decide_eq_false_iff_not, Bool.not_eq_true', Bool.not_eq_false', Bool.and_eq_true, Bool.and_eq_false_iff, Int.not_lt, Int.not_le, ne_eq, not_false_eq_true, not_true_eq_false, reduceCtorEq, Bool.true_eq_false, Bool.false_eq_true, beq_iff_eq, bne_iff_ne, beq_eq_false_iff_ne, false_or, or_false, true_and, and_true, len_str] at hx; first | (exfalso; omega) | skip) | skip)
    | trivial
    | exact fit_ofL _ _
    | (simp (disch := omega) only [notAgg_v, notAgg_sl, plain_v, fits, fitsOne, fitsCells, xsOf, cell_zero, cell_succ, List.range, List.range.loop, List.map, cond_true, cond_false, D.v.injEq, exists_eq', exists_eq, and_self, and_true, true_and, D.agg.injEq, List.length, exists_eq_left', D.sl.injEq, reduceCtorEq, false_or, true_or, or_true, or_false, cell_zero, cell_succ, cell_v, cells_v, cells_agg, List.length_cons, List.length_nil, len_str]; done))
  all_goals first
    | (exfalso; omega)
    | omega
    | rfl
    | exact ⟨_, rfl⟩
    | exact ⟨_, rfl, rfl⟩
    | exact .inr ⟨_, rfl⟩
    | exact notAgg_v _
    | exact plain_v _
    | exact fit_ofL _ _
    | exact plain_ofL (prs_plain _)
    | (simp; done)
    | fail

set_option maxHeartbeats 16000000 in
theorem lgetsM (s : List Int) (hs : Bytes s) (hS : ¬ s.length ≤ 120) : PureD Try.prog 4 [str s] [.v (.bool true)] := by
  refine pure_cond (Lp := (fun _ => none)) (by kernel_rfl) Try.func4 (by kernel_rfl) (by kernel_rfl) ?_
  rw [vc_lgetsS s]
  have AW := awake
  repeat' (first
    | (refine ex_some (by simp (disch := omega) only [bin_shr, bin_shl, bin_and, bin_or, bin_xor, len_str, toStr_ofL, bin_add, bin_sub, bin_mul, bin_quo, bin_rem, bin_lss, bin_leq, bin_gtr, bin_geq, bin_eql, bin_neq, eqs_cn, eqs_ci, eqs_cb, eqs_cs, Option.map_some, lenT_ofL, lst_ofL, lstSz_ofL, chunk_one, lst_nil, lst_sl, lstSz_sl, lstSz_nil, Bool.and_true, Bool.true_and, Bool.and_false, Bool.false_and, beq_self_eq_true, beq_bb, bne_bb, un_not, un_neg, conv_int, min2_int, max2_int, w64, w32, wu8, wu16, wu32, wu64, tdiv_nn, tmod_nn, cell_zero, cell_succ, cell_v, cells_v, cells_agg, Bool.not_true, Bool.not_false, Int.reduceLT, Int.reduceLE, Int.reduceEq, Int.reduceNeg, Int.reduceAdd, Int.reduceSub, Int.reduceMul, intOf_v, decide_true, decide_false, len_str]; rfl) ?_)
    | (refine ex_bool ?_)
    | (refine ⟨_, AW, ?_⟩)
    | (refine And.intro ?_ ?_)
    | (intro hx; have hprop := (show ∀ (p : Prop), p → True from fun _ _ => True.intro) _ hx; clear hprop; first | (cases hx; done) | (exfalso; revert hx; simp (disch := omega) only [decide_eq_true_eq, decide_eq_false_iff_not, Bool.not_eq_true', Bool.not_eq_false', Bool.and_eq_true, Bool.and_eq_false_iff, Int.not_lt, Int.not_le, ne_eq, not_false_eq_true, not_true_eq_false, reduceCtorEq, Bool.true_eq_false, Bool.false_eq_true, beq_iff_eq, bne_iff_ne, beq_eq_false_iff_ne, false_or, or_false, true_and, and_true, len_str]; done) | (simp (disch := omega) only [decide_eq_true_eq, decide_eq_false_iff_not, Bool.not_eq_true', Bool.not_eq_false', Bool.and_eq_true, Bool.and_eq_false_iff, Int.not_lt, Int.not_le, ne_eq, not_false_eq_true, not_true_eq_false, reduceCtorEq, Bool.true_eq_false, Bool.false_eq_true, beq_iff_eq, bne_iff_ne, beq_eq_false_iff_ne, false_or, or_false, true_and, and_true, len_str] at hx; first | (exfalso; omega) | skip) | skip)
    | trivial
    | exact fit_ofL _ _
    | (simp (disch := omega) only [notAgg_v, notAgg_sl, plain_v, fits, fitsOne, fitsCells, xsOf, cell_zero, cell_succ, List.range, List.range.loop, List.map, cond_true, cond_false, D.v.injEq, exists_eq', exists_eq, and_self, and_true, true_and, D.agg.injEq, List.length, exists_eq_left', D.sl.injEq, reduceCtorEq, false_or, true_or, or_true, or_false, cell_zero, cell_succ, cell_v, cells_v, cells_agg, List.length_cons, List.length_nil, len_str]; done))
  all_goals first
    | (exfalso; omega)
    | omega
    | rfl
    | exact ⟨_, rfl⟩
    | exact ⟨_, rfl, rfl⟩
    | exact .inr ⟨_, rfl⟩
    | exact notAgg_v _
    | exact plain_v _
    | exact fit_ofL _ _
    | exact plain_ofL (prs_plain _)
    | (simp; done)
    | fail


theorem law_SegmentGets (xs : List D) (h : All2 TypedA [(false, [.str])] xs) : PureD Try.prog 4 xs [.v (.bool true)] := by
  obtain ⟨x, xs, rfl, hx, h⟩ := h.cons_
  obtain rfl := h.nil_
  obtain ⟨s, rfl, _⟩ := hx.one.str_
  rw [str_of]
  by_cases hS : (bytesOf s).length ≤ 120
  · exact lgetsS _ (bytesOf_bd s) hS
  · exact lgetsM _ (bytesOf_bd s) hS

end Go.Proofs.Ytioodaefgpkkeaa