/-
  Layer 13: few and small segments; what every right program says.
-/
import Derived.Test.YtbeofckoonophaaT1
import Derived.Test.YtbeofckoonophaaT2
import Derived.Test.YtbeofckoonophaaT3
import Derived.Test.YtbeofckoonophaaT4
namespace Go.Proofs.Ytbeofckoonophaa
open Go.RowKit
set_option linter.unusedSimpArgs false
set_option linter.unusedVariables false


theorem light_no {l : List Sg} {k : Nat} (hk : k < l.length) (h : lightB (l.getD k default) = false) : lightF l = false := by
  unfold lightF
  rw [Bool.and_eq_false_iff]
  right
  rw [List.all_eq_false]
  exact ⟨l.getD k default, by simp [List.getD, hk], by rw [h]; simp⟩
theorem light_take {l : List Sg} {k : Nat} (hk : k < l.length) (h : (l.take k).all lightB = true) (h2 : lightB (l.getD k default) = true) : (l.take (k + 1)).all lightB = true := by
  rw [take_last hk, List.all_append, h]; simp only [List.all_cons, h2, List.all_nil]; rfl
theorem light_yes {l : List Sg} (h : l.length ≤ 40) (h2 : l.all lightB = true) : lightF l = true := by unfold lightF; rw [decide_eq_true h, h2]; rfl
theorem light_long {l : List Sg} (h : ¬ l.length ≤ 40) : lightF l = false := by unfold lightF; rw [decide_eq_false h]; rfl
theorem light_all {l : List Sg} (h : lightF l = true) : l.length ≤ 40 ∧ ∀ g ∈ l, g.zs.length ≤ 8 ∧ g.s.length ≤ 100 := by
  unfold lightF at h
  simp only [Bool.and_eq_true, decide_eq_true_eq, List.all_eq_true] at h
  exact ⟨h.1, fun g hg => by have := h.2 g hg; simpa [lightB] using this⟩

theorem vc_lightS (y : D) (l : List Sg) : Cond Try.prog (fun k => if k = 4 then some ⟨[3], [], [0], []⟩ else none) Try.f7 [y] [.v (.bool (lightF l))] = ((NotAgg y ∧ True) ∧ ∃ (r : D), D.lenT (TypeDesc.slice 37) y = some r ∧ ∃ (r_1 : D), D.bin BinOp.gtr r (D.v (Value.int IntKind.i64 40)) = some r_1 ∧ ∃ (b : Bool), r_1 = D.v (Value.bool b) ∧ (b = true → (True ∧ True) ∧ [D.v (Value.bool false)] = [D.v (Value.bool (lightF l))]) ∧ (b = false → ∃ (I : List D → Prop), ∃ (μ : List D → Nat), ((D.v (Value.int IntKind.i64 0) = D.v (Value.int IntKind.i64 0) ∧ y = y ∧ True) ∧ True ∧ I [D.v (Value.int IntKind.i64 0)]) ∧ ∀ (r : D), I [r] → ∃ (r_2 : D), D.lenT (TypeDesc.slice 37) y = some r_2 ∧ ∃ (r_3 : D), D.bin BinOp.lss r r_2 = some r_3 ∧ ∃ (b : Bool), r_3 = D.v (Value.bool b) ∧ (b = true → D.inb 8 y r ∧ 0 + 6 + 1 ≤ (y.at_ r).cells.length ∧ ∃ (r_4 : D), D.lenT (TypeDesc.slice 62) ((y.at_ r).cell (0 + 6)) = some r_4 ∧ ∃ (r_5 : D), D.bin BinOp.gtr r_4 (D.v (Value.int IntKind.i64 8)) = some r_5 ∧ ∃ (b : Bool), r_5 = D.v (Value.bool b) ∧ (b = false → D.inb 8 y r ∧ 0 + 7 + 1 ≤ (y.at_ r).cells.length ∧ ∃ (r_6 : D), D.lenT TypeDesc.string ((y.at_ r).cell (0 + 7)) = some r_6 ∧ ∃ (r_7 : D), D.bin BinOp.gtr r_6 (D.v (Value.int IntKind.i64 100)) = some r_7 ∧ ∃ (b : Bool), r_7 = D.v (Value.bool b) ∧ (b = true → (True ∧ True) ∧ [D.v (Value.bool false)] = [D.v (Value.bool (lightF l))]) ∧ (b = false → ∃ (r_8 : D), D.bin BinOp.add r (D.v (Value.int IntKind.i64 1)) = some r_8 ∧ (r_8 = r_8 ∧ y = y ∧ True) ∧ True ∧ I [r_8] ∧ μ [r_8] < μ [r])) ∧ (b = true → (True ∧ True) ∧ [D.v (Value.bool false)] = [D.v (Value.bool (lightF l))])) ∧ (b = false → (True ∧ True) ∧ [D.v (Value.bool true)] = [D.v (Value.bool (lightF l))]))) := by kernel_rfl
set_option maxHeartbeats 4000000 in
theorem lightS (y : D) (l : List Sg) (hL : IsL 8 (l.map sgD) y) (hall : ∀ g ∈ l, SgOk g) (hl : l.length ≤ 40) : PureD Try.prog 7 [y] [.v (.bool (lightF l))] := by
  refine pure_cond (Lp := (fun k => if k = 4 then some ⟨[3], [], [0], []⟩ else none)) (by kernel_rfl) Try.func7 (by kernel_rfl) (by kernel_rfl) ?_
  rw [vc_lightS y l]
  simp only [hL.lenT, hL.notAgg, List.length_map, Option.some.injEq, exists_eq_left']
  have e1 : True := trivial
  repeat' (first
    | (refine ex_some (by simp (disch := omega) only [bin_shr, bin_shl, bin_and, bin_or, bin_xor, len_str, toStr_ofL, bin_add, bin_sub, bin_mul, bin_quo, bin_rem, bin_lss, bin_leq, bin_gtr, bin_geq, bin_eql, bin_neq, eqs_cn, eqs_ci, eqs_cb, eqs_cs, Option.map_some, lenT_ofL, lst_ofL, lstSz_ofL, chunk_one, lst_nil, lst_sl, lstSz_sl, lstSz_nil, Bool.and_true, Bool.true_and, Bool.and_false, Bool.false_and, beq_self_eq_true, beq_bb, bne_bb, un_not, un_neg, conv_int, min2_int, max2_int, w64, w32, wu8, wu16, wu32, wu64, tdiv_nn, tmod_nn, cell_zero, cell_succ, cell_v, cells_v, cells_agg, Bool.not_true, Bool.not_false, Int.reduceLT, Int.reduceLE, Int.reduceEq, Int.reduceNeg, Int.reduceAdd, Int.reduceSub, Int.reduceMul, intOf_v, decide_true, decide_false, e1, hL.lenT, List.length_map, prs_len]; rfl) ?_)
    | (refine ex_bool ?_)
    | (refine ⟨(fun r => ∃ k : Nat, k ≤ l.length ∧ (l.take k).all lightB = true ∧ r = [.v (.int .i64 (k : Nat))]), leftN l.length, ?_⟩)
    | (refine fun (r1 : D) (hI : (fun r => ∃ k : Nat, k ≤ l.length ∧ (l.take k).all lightB = true ∧ r = [.v (.int .i64 (k : Nat))]) [r1]) => ?_; obtain ⟨k, hk, hA, hl0⟩ := hI; simp only [List.cons.injEq, and_true] at hl0; subst hl0; by_cases hlt : k < l.length <;> first | (have hk1 : k < l.length := (by omega); have e1 := sgs_at hL hk1; have i1 := sgs_inb hL hk1; have hg := hall (l.getD k default) (by simp [List.getD, hk1]); have ht := light_take hk1 hA; have hn := light_no hk1; generalize l.getD k default = g at e1 hg ht hn; have hgl : ∀ e, D.lenT (.slice e) g.x = some (.v (.int .i64 (g.zs.length : Nat))) := (fun e => (by rw [hg.hX.lenT, prs_len])); simp only [sgD, sgX] at e1; simp only [e1, Nat.zero_add, cell_zero, cell_succ, cells_agg, List.length_cons, List.length_nil]; have inl : True := trivial) | (have hkk : k = l.length := (by omega); subst hkk; rw [List.take_length] at hA; have hy := light_yes hl hA; have e1 : True := trivial; have inl2 : True := trivial))
    | (exact i1)
    | (refine ex_some (hgl _) ?_)
    | (refine ⟨(0 : Nat), Nat.zero_le _, rfl, rfl⟩)
    | (have := inl; refine ⟨(k + 1 : Nat), by omega, ht (by unfold lightB; rw [decide_eq_true]; omega), ?_⟩)
    | (refine And.intro ?_ ?_)
    | (intro hx; have hprop := (show ∀ (p : Prop), p → True from fun _ _ => True.intro) _ hx; clear hprop; first | (cases hx; done) | (exfalso; revert hx; simp (disch := omega) only [decide_eq_true_eq, decide_eq_false_iff_not, Bool.not_eq_true', Bool.not_eq_false', Bool.and_eq_true, Bool.and_eq_false_iff, Int.not_lt, Int.not_le, ne_eq, not_false_eq_true, not_true_eq_false, reduceCtorEq, Bool.true_eq_false, Bool.false_eq_true, beq_iff_eq, bne_iff_ne, beq_eq_false_iff_ne, false_or, or_false, true_and, and_true, e1, hL.lenT, List.length_map, prs_len]; done) | (simp (disch := omega) only [decide_eq_true_eq, decide_eq_false_iff_not, Bool.not_eq_true', Bool.not_eq_false', Bool.and_eq_true, Bool.and_eq_false_iff, Int.not_lt, Int.not_le, ne_eq, not_false_eq_true, not_true_eq_false, reduceCtorEq, Bool.true_eq_false, Bool.false_eq_true, beq_iff_eq, bne_iff_ne, beq_eq_false_iff_ne, false_or, or_false, true_and, and_true, e1, hL.lenT, List.length_map, prs_len] at hx; first | (exfalso; omega) | skip) | skip)
    | trivial
    | exact fit_ofL _ _
    | (simp (disch := omega) only [notAgg_v, notAgg_sl, plain_v, fits, fitsOne, fitsCells, xsOf, cell_zero, cell_succ, List.range, List.range.loop, List.map, cond_true, cond_false, D.v.injEq, exists_eq', exists_eq, and_self, and_true, true_and, D.agg.injEq, List.length, exists_eq_left', D.sl.injEq, reduceCtorEq, false_or, true_or, or_true, or_false, cell_zero, cell_succ, cell_v, cells_v, cells_agg, List.length_cons, List.length_nil, e1, hL.lenT, List.length_map, prs_len]; done))
  all_goals first
    | (exfalso; omega)
    | omega
    | rfl
    | exact fit_ofL _ _
    | exact str_v _
    | exact ⟨_, rfl⟩
    | exact plainP _
    | exact plain_v _
    | (simp only [leftN]; omega)
    | (simp only [prs_len, List.length_cons, List.length_nil, List.length_take]; omega)
    | (rw [hy]; done)
    | (rw [hn (by unfold lightB; rw [decide_eq_false]; omega)]; done)
    | (simp; done)
    | fail

set_option maxHeartbeats 4000000 in
theorem lightM (y : D) (l : List Sg) (hL : IsL 8 (l.map sgD) y) (hall : ∀ g ∈ l, SgOk g) (hl : ¬ l.length ≤ 40) : PureD Try.prog 7 [y] [.v (.bool (lightF l))] := by
  refine pure_cond (Lp := (fun k => if k = 4 then some ⟨[3], [], [0], []⟩ else none)) (by kernel_rfl) Try.func7 (by kernel_rfl) (by kernel_rfl) ?_
  rw [vc_lightS y l]
  simp only [hL.lenT, hL.notAgg, List.length_map, Option.some.injEq, exists_eq_left']
  have e1 : True := trivial
  rw [light_long hl]
  repeat' (first
    | (refine ex_some (by simp (disch := omega) only [bin_shr, bin_shl, bin_and, bin_or, bin_xor, len_str, toStr_ofL, bin_add, bin_sub, bin_mul, bin_quo, bin_rem, bin_lss, bin_leq, bin_gtr, bin_geq, bin_eql, bin_neq, eqs_cn, eqs_ci, eqs_cb, eqs_cs, Option.map_some, lenT_ofL, lst_ofL, lstSz_ofL, chunk_one, lst_nil, lst_sl, lstSz_sl, lstSz_nil, Bool.and_true, Bool.true_and, Bool.and_false, Bool.false_and, beq_self_eq_true, beq_bb, bne_bb, un_not, un_neg, conv_int, min2_int, max2_int, w64, w32, wu8, wu16, wu32, wu64, tdiv_nn, tmod_nn, cell_zero, cell_succ, cell_v, cells_v, cells_agg, Bool.not_true, Bool.not_false, Int.reduceLT, Int.reduceLE, Int.reduceEq, Int.reduceNeg, Int.reduceAdd, Int.reduceSub, Int.reduceMul, intOf_v, decide_true, decide_false, e1, hL.lenT, List.length_map]; rfl) ?_)
    | (refine ex_bool ?_)
    | (refine And.intro ?_ ?_)
    | (intro hx; have hprop := (show ∀ (p : Prop), p → True from fun _ _ => True.intro) _ hx; clear hprop; first | (cases hx; done) | (exfalso; revert hx; simp (disch := omega) only [decide_eq_true_eq, decide_eq_false_iff_not, Bool.not_eq_true', Bool.not_eq_false', Bool.and_eq_true, Bool.and_eq_false_iff, Int.not_lt, Int.not_le, ne_eq, not_false_eq_true, not_true_eq_false, reduceCtorEq, Bool.true_eq_false, Bool.false_eq_true, beq_iff_eq, bne_iff_ne, beq_eq_false_iff_ne, false_or, or_false, true_and, and_true, e1, hL.lenT, List.length_map]; done) | (simp (disch := omega) only [decide_eq_true_eq, decide_eq_false_iff_not, Bool.not_eq_true', Bool.not_eq_false', Bool.and_eq_true, Bool.and_eq_false_iff, Int.not_lt, Int.not_le, ne_eq, not_false_eq_true, not_true_eq_false, reduceCtorEq, Bool.true_eq_false, Bool.false_eq_true, beq_iff_eq, bne_iff_ne, beq_eq_false_iff_ne, false_or, or_false, true_and, and_true, e1, hL.lenT, List.length_map] at hx; first | (exfalso; omega) | skip) | skip)
    | trivial
    | exact fit_ofL _ _
    | (simp (disch := omega) only [notAgg_v, notAgg_sl, plain_v, fits, fitsOne, fitsCells, xsOf, cell_zero, cell_succ, List.range, List.range.loop, List.map, cond_true, cond_false, D.v.injEq, exists_eq', exists_eq, and_self, and_true, true_and, D.agg.injEq, List.length, exists_eq_left', D.sl.injEq, reduceCtorEq, false_or, true_or, or_true, or_false, cell_zero, cell_succ, cell_v, cells_v, cells_agg, List.length_cons, List.length_nil, e1, hL.lenT, List.length_map]; done))
  all_goals first
    | (exfalso; omega)
    | omega
    | rfl
    | exact fit_ofL _ _
    | exact str_v _
    | exact ⟨_, rfl⟩
    | exact plainP _
    | exact plain_v _
    | (simp only [leftN]; omega)
    | (simp only [prs_len, List.length_cons, List.length_nil, List.length_take]; omega)
    | (simp; done)
    | fail

end Go.Proofs.Ytbeofckoonophaa