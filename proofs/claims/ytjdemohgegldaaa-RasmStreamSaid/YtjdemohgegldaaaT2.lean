/-
  Layer 12: what is held; small states.
-/
import Derived.Test.YtjdemohgegldaaaT1
namespace Go.Proofs.Ytjdemohgegldaaa
open Go.RowKit
set_option linter.unusedSimpArgs false
set_option linter.unusedVariables false


def sumL (g : Pt → Nat) (ps : List Pt) (i : Nat) : Nat := ((ps.take i).map g).sum
theorem sumL_succ (g : Pt → Nat) {ps : List Pt} {i : Nat} (h : i < ps.length) : sumL g ps (i + 1) = sumL g ps i + g (ps.getD i (0, [])) := by
  unfold sumL
  rw [List.take_succ_eq_append_getElem h, List.map_append, List.sum_append]
  simp [List.getD, h]
theorem sumL_le (g : Pt → Nat) (c : Nat) {ps : List Pt} : ∀ {i : Nat}, i ≤ ps.length → (∀ k, k < ps.length → g (ps.getD k (0, [])) ≤ c) → sumL g ps i ≤ c * i
  | 0, _, _ => by simp [sumL]
  | i + 1, hi, h => by
    have h1 := sumL_le g c (i := i) (by omega) h
    have h2 := h i (by omega)
    rw [sumL_succ g (by omega), Nat.mul_add]; omega
def lenP (p : Pt) : Nat := p.2.length
def cutP (p : Pt) : Nat := min 300 p.2.length
def heldF (r : List Int) (ps : List Pt) : Nat := r.length + sumL lenP ps ps.length
def lightF (r : List Int) (ps : List Pt) : Bool := decide (r.length ≤ 5000) && decide (ps.length ≤ 20) && decide (sumL cutP ps (min 21 ps.length) < 300)
theorem cutP_le (ps : List Pt) (k : Nat) (_ : k < ps.length) : cutP (ps.getD k (0, [])) ≤ 300 := Nat.min_le_left _ _
set_option maxRecDepth 20000

theorem vc_light (x : D) (ps : List Pt) (b : Int) (r : List Int) : Cond Try.prog (fun k => if k = 3 then some ⟨[4, 3], [], [1], []⟩ else none) Try.f6 [.agg [.v (.int .i64 b), str r, x]] [.v (.bool (lightF r ps))] = (((∃ (cs : List D), D.agg [D.v (Value.int IntKind.i64 b), str r, x] = D.agg cs ∧ cs.length = 3) ∧ True) ∧ ∃ (I : List D → Prop), ∃ (μ : List D → Nat), ((D.v (Value.int IntKind.i64 0) = D.v (Value.int IntKind.i64 0) ∧ D.v (Value.int IntKind.i64 0) = D.v (Value.int IntKind.i64 0) ∧ (true = true ∧ true = true) ∧ True) ∧ ((D.v (Value.int IntKind.i64 b) = D.v (Value.int IntKind.i64 b) ∧ str r = str r ∧ x = x ∧ True) ∧ True) ∧ I [D.v (Value.int IntKind.i64 0), D.v (Value.int IntKind.i64 0)]) ∧ ∀ (r_1 r_2 : D), I [r_1, r_2] → ∃ (r_3 : D), D.lenT (TypeDesc.slice 66) x = some r_3 ∧ ∃ (r_4 : D), D.bin BinOp.lss r_1 r_3 = some r_4 ∧ ∃ (b_1 : Bool), r_4 = D.v (Value.bool b_1) ∧ (b_1 = true → ∃ (r_5 : D), D.bin BinOp.leq r_1 (D.v (Value.int IntKind.i64 20)) = some r_5 ∧ ∃ (b_2 : Bool), r_5 = D.v (Value.bool b_2) ∧ (b_2 = true → D.inb 2 x r_1 ∧ 0 + 1 + 1 ≤ (x.at_ r_1).cells.length ∧ ∃ (r_6 : D), D.lenT TypeDesc.string ((x.at_ r_1).cell (0 + 1)) = some r_6 ∧ ∃ (r_7 : D), (D.v (Value.int IntKind.i64 300)).min2 r_6 = some r_7 ∧ ∃ (r_8 : D), D.bin BinOp.add r_2 r_7 = some r_8 ∧ ∃ (r_9 : D), D.bin BinOp.add r_1 (D.v (Value.int IntKind.i64 1)) = some r_9 ∧ (r_9 = r_9 ∧ r_8 = r_8 ∧ (true = true ∧ true = true) ∧ True) ∧ ((D.v (Value.int IntKind.i64 b) = D.v (Value.int IntKind.i64 b) ∧ str r = str r ∧ x = x ∧ True) ∧ True) ∧ I [r_9, r_8] ∧ μ [r_9, r_8] < μ [r_1, r_2]) ∧ (b_2 = false → ∃ (r_6 : D), D.lenT TypeDesc.string (str r) = some r_6 ∧ ∃ (r_7 : D), D.bin BinOp.leq r_6 (D.v (Value.int IntKind.i64 5000)) = some r_7 ∧ ∃ (b : Bool), r_7 = D.v (Value.bool b) ∧ (b = true → ∃ (r_8 : D), D.lenT (TypeDesc.slice 66) x = some r_8 ∧ ∃ (r_9 : D), D.bin BinOp.leq r_8 (D.v (Value.int IntKind.i64 20)) = some r_9 ∧ ∃ (b : Bool), r_9 = D.v (Value.bool b) ∧ (b = true → ∃ (r_10 : D), D.bin BinOp.lss r_2 (D.v (Value.int IntKind.i64 300)) = some r_10 ∧ ((∃ (y : Value), r_10 = D.v y) ∧ True) ∧ [r_10] = [D.v (Value.bool (lightF r ps))]) ∧ (b = false → (True ∧ True) ∧ [D.v (Value.bool false)] = [D.v (Value.bool (lightF r ps))])) ∧ (b = false → (True ∧ True) ∧ [D.v (Value.bool false)] = [D.v (Value.bool (lightF r ps))]))) ∧ (b_1 = false → ∃ (r_5 : D), D.lenT TypeDesc.string (str r) = some r_5 ∧ ∃ (r_6 : D), D.bin BinOp.leq r_5 (D.v (Value.int IntKind.i64 5000)) = some r_6 ∧ ∃ (b : Bool), r_6 = D.v (Value.bool b) ∧ (b = true → ∃ (r_7 : D), D.lenT (TypeDesc.slice 66) x = some r_7 ∧ ∃ (r_8 : D), D.bin BinOp.leq r_7 (D.v (Value.int IntKind.i64 20)) = some r_8 ∧ ∃ (b : Bool), r_8 = D.v (Value.bool b) ∧ (b = true → ∃ (r_9 : D), D.bin BinOp.lss r_2 (D.v (Value.int IntKind.i64 300)) = some r_9 ∧ ((∃ (y : Value), r_9 = D.v y) ∧ True) ∧ [r_9] = [D.v (Value.bool (lightF r ps))]) ∧ (b = false → (True ∧ True) ∧ [D.v (Value.bool false)] = [D.v (Value.bool (lightF r ps))])) ∧ (b = false → (True ∧ True) ∧ [D.v (Value.bool false)] = [D.v (Value.bool (lightF r ps))]))) := by kernel_rfl
set_option maxHeartbeats 4000000 in
theorem light (x : D) (ps : List Pt) (b : Int) (r : List Int) (hX : IsL 2 (ps.map ptD) x)  : PureD Try.prog 6 [.agg [.v (.int .i64 b), str r, x]] [.v (.bool (lightF r ps))] := by
  refine pure_cond (Lp := (fun k => if k = 3 then some ⟨[4, 3], [], [1], []⟩ else none)) (by kernel_rfl) Try.func6 (by kernel_rfl) (by kernel_rfl) ?_
  rw [vc_light x ps b r]
  simp only [hX.lenT, List.length_map, Option.some.injEq, exists_eq_left']
  have h1 : True := trivial
  repeat' (first
    | (refine ex_some (by simp (disch := omega) only [bin_shr, bin_shl, bin_and, bin_or, bin_xor, len_str, toStr_ofL, bin_add, bin_sub, bin_mul, bin_quo, bin_rem, bin_lss, bin_leq, bin_gtr, bin_geq, bin_eql, bin_neq, eqs_cn, eqs_ci, eqs_cb, eqs_cs, Option.map_some, lenT_ofL, lst_ofL, lstSz_ofL, chunk_one, lst_nil, lst_sl, lstSz_sl, lstSz_nil, Bool.and_true, Bool.true_and, Bool.and_false, Bool.false_and, beq_self_eq_true, beq_bb, bne_bb, un_not, un_neg, conv_int, min2_int, max2_int, w64, w32, wu8, wu16, wu32, wu64, tdiv_nn, tmod_nn, cell_zero, cell_succ, cell_v, cells_v, cells_agg, Bool.not_true, Bool.not_false, Int.reduceLT, Int.reduceLE, Int.reduceEq, Int.reduceNeg, Int.reduceAdd, Int.reduceSub, Int.reduceMul, intOf_v, decide_true, decide_false, h1, hX.lenT, List.length_map]; rfl) ?_)
    | (refine ex_bool ?_)
    | (exact i1)
    | (refine ⟨(fun r3 => ∃ i : Nat, i ≤ ps.length ∧ i ≤ 21 ∧ r3 = [.v (.int .i64 (i : Nat)), .v (.int .i64 (sumL cutP ps i : Nat))]), leftG ps.length, ?_⟩)
    | (refine fun (r2 r3 : D) (hI : (fun r3 => ∃ i : Nat, i ≤ ps.length ∧ i ≤ 21 ∧ r3 = [.v (.int .i64 (i : Nat)), .v (.int .i64 (sumL cutP ps i : Nat))]) [r2, r3]) => ?_; obtain ⟨i, hi, hi2, hl0⟩ := hI; simp only [List.cons.injEq, and_true] at hl0; obtain ⟨rfl, rfl⟩ := hl0; by_cases hlt : i < min 21 ps.length <;> first | (have hk1 : i < ps.length := (by omega); have hk2 : i ≤ 20 := (by omega); have h1 := pt_get hX hk1; have i1 := pt_inb hX hk1; have ht := sumL_succ cutP hk1; have hs := sumL_le cutP 300 (i := i) (by omega) (cutP_le ps); generalize ps.getD i (0, []) = p at h1 ht; obtain ⟨a, s⟩ := p; simp only [cutP] at ht; simp only [h1, ptD, Nat.zero_add, cell_zero, cell_succ, cells_agg, List.length_cons, List.length_nil]; have inl1 : True := trivial) | (have hkk : min 21 ps.length = i := (by omega); have hs := sumL_le cutP 300 (i := i) (by omega) (cutP_le ps); have hF : lightF r ps = (decide (r.length ≤ 5000) && decide (ps.length ≤ 20) && decide (sumL cutP ps i < 300)) := (by unfold lightF; rw [hkk]); rw [hF]; have h1 : True := trivial; have out1 : True := trivial))
    | (have := inl1; refine ⟨i + 1, by omega, by omega, ?_⟩)
    | (exact ⟨0, Nat.zero_le _, by omega, rfl⟩)
    | (refine And.intro ?_ ?_)
    | (intro hx; have hprop := (show ∀ (p : Prop), p → True from fun _ _ => True.intro) _ hx; clear hprop; first | (cases hx; done) | (exfalso; revert hx; simp (disch := omega) only [decide_eq_true_eq, decide_eq_false_iff_not, Bool.not_eq_true', Bool.not_eq_false', Bool.and_eq_true, Bool.and_eq_false_iff, Int.not_lt, Int.not_le, ne_eq, not_false_eq_true, not_true_eq_false, reduceCtorEq, Bool.true_eq_false, Bool.false_eq_true, beq_iff_eq, bne_iff_ne, beq_eq_false_iff_ne, false_or, or_false, true_and, and_true, h1, hX.lenT, List.length_map]; done) | (simp (disch := omega) only [decide_eq_true_eq, decide_eq_false_iff_not, Bool.not_eq_true', Bool.not_eq_false', Bool.and_eq_true, Bool.and_eq_false_iff, Int.not_lt, Int.not_le, ne_eq, not_false_eq_true, not_true_eq_false, reduceCtorEq, Bool.true_eq_false, Bool.false_eq_true, beq_iff_eq, bne_iff_ne, beq_eq_false_iff_ne, false_or, or_false, true_and, and_true, h1, hX.lenT, List.length_map] at hx; first | (exfalso; omega) | skip) | skip)
    | trivial
    | exact fit_ofL _ _
    | (simp (disch := omega) only [notAgg_v, notAgg_sl, plain_v, fits, fitsOne, fitsCells, xsOf, cell_zero, cell_succ, List.range, List.range.loop, List.map, cond_true, cond_false, D.v.injEq, exists_eq', exists_eq, and_self, and_true, true_and, D.agg.injEq, List.length, exists_eq_left', D.sl.injEq, reduceCtorEq, false_or, true_or, or_true, or_false, cell_zero, cell_succ, cell_v, cells_v, cells_agg, List.length_cons, List.length_nil, h1, hX.lenT, List.length_map]; done))
  all_goals first
    | (exfalso; omega)
    | omega
    | rfl
    | exact hX.notAgg
    | exact ⟨_, rfl⟩
    | assumption
    | (simp only [leftG]; omega)
    | (rw [h1]; exact Nat.le_refl _)
    | (refine congrArg (fun t : Int => [D.v (Value.int IntKind.i64 ((i : Nat) + 1)), D.v (Value.int IntKind.i64 t)]) ?_; omega)
    | (refine congrArg (fun t : Bool => [D.v (Value.bool t)]) ?_; (try symm); simp only [Bool.and_eq_true, Bool.and_eq_false_iff, decide_eq_true_eq, decide_eq_false_iff_not]; omega)
    | (refine congrArg (fun t : Bool => [D.v (Value.bool t)]) ?_; rw [Bool.eq_iff_iff]; simp only [Bool.and_eq_true, decide_eq_true_eq]; omega)
    | (simp; done)
    | fail

end Go.Proofs.Ytjdemohgegldaaa