/-
  Layer 6: the law IvalsTell.
-/
import Derived.Test.YtpbmlllffmkkdaaT1
import Derived.Test.YtpbmlllffmkkdaaT2
import Derived.Test.YtpbmlllffmkkdaaT3
import Derived.Test.YtpbmlllffmkkdaaT4
import Derived.Test.YtpbmlllffmkkdaaT5
import Derived.Test.YtpbmlllffmkkdaaT6
import Derived.Test.YtpbmlllffmkkdaaT7
import Derived.Test.YtpbmlllffmkkdaaT8
namespace Go.Proofs.Ytpbmlllffmkkdaa
open Go.RowKit
set_option linter.unusedSimpArgs false
set_option linter.unusedVariables false


theorem own_is (zs : List Z) : IsL 2 (zs.map iv) (ofL 2 (zs.map iv)) := isL_ofL _ _

theorem vc_rcount (x : D) (zs : List (Int × Int)) : Cond Try.prog (fun k => if k = 3 then some ⟨[3, 4], [], [0], []⟩ else none) Try.f22 [x] [.v (.int .i64 (countF zs))] = ((NotAgg x ∧ True) ∧ ∃ (I : List D → Prop), ∃ (μ : List D → Nat), ((D.v (Value.int IntKind.i64 0) = D.v (Value.int IntKind.i64 0) ∧ D.v (Value.int IntKind.i64 0) = D.v (Value.int IntKind.i64 0) ∧ x = x ∧ True) ∧ True ∧ I [D.v (Value.int IntKind.i64 0), D.v (Value.int IntKind.i64 0)]) ∧ ∀ (r r_1 : D), I [r, r_1] → ∃ (r_2 : D), D.lenT (TypeDesc.slice 24) x = some r_2 ∧ ∃ (r_3 : D), D.bin BinOp.lss r_1 r_2 = some r_3 ∧ ∃ (b : Bool), r_3 = D.v (Value.bool b) ∧ (b = true → ∃ (r_4 : D), PureD Try.prog 20 [x] [r_4] ∧ fits [(false, [none])] [r_4] ∧ ∃ (r_5 : D), D.bin BinOp.eql r_4 (D.v (Value.int IntKind.i64 0)) = some r_5 ∧ ∃ (b : Bool), r_5 = D.v (Value.bool b) ∧ (b = true → D.inb 2 x r_1 ∧ 0 + 1 + 1 ≤ (x.at_ r_1).cells.length ∧ D.inb 2 x r_1 ∧ 0 + 1 ≤ (x.at_ r_1).cells.length ∧ ∃ (r_6 : D), D.bin BinOp.sub ((x.at_ r_1).cell (0 + 1)) ((x.at_ r_1).cell 0) = some r_6 ∧ ∃ (r_7 : D), D.bin BinOp.add r r_6 = some r_7 ∧ ∃ (r_8 : D), D.bin BinOp.add r_1 (D.v (Value.int IntKind.i64 1)) = some r_8 ∧ (r_7 = r_7 ∧ r_8 = r_8 ∧ x = x ∧ True) ∧ True ∧ I [r_7, r_8] ∧ μ [r_7, r_8] < μ [r, r_1]) ∧ (b = false → ((∃ (y : Value), r = D.v y) ∧ True) ∧ [r] = [D.v (Value.int IntKind.i64 (countF zs))])) ∧ (b = false → ((∃ (y : Value), r = D.v y) ∧ True) ∧ [r] = [D.v (Value.int IntKind.i64 (countF zs))])) := by kernel_rfl
set_option maxHeartbeats 4000000 in
theorem rcount (x : D) (zs : List (Int × Int)) (hX : IsL 2 (zs.map iv) x) (hm : zs.length ≤ 1000)  : PureD Try.prog 22 [x] [.v (.int .i64 (countF zs))] := by
  refine pure_cond (Lp := (fun k => if k = 3 then some ⟨[3, 4], [], [0], []⟩ else none)) (by kernel_rfl) Try.func22 (by kernel_rfl) (by kernel_rfl) ?_
  rw [vc_rcount x zs]
  simp only [hX.lenT, List.length_map, Option.some.injEq, exists_eq_left']
  have h1 : True := trivial
  have C := rcheck x zs hX (by omega)
  by_cases hz : chkF zs = 0
  · have hcc : countF zs = sumF zs := by unfold countF; rw [if_pos hz]
    rw [hz] at C
    rw [hcc]
    repeat' (first
      | (refine ex_some (by simp (disch := omega) only [bin_shr, bin_shl, bin_and, bin_or, bin_xor, len_str, toStr_ofL, bin_add, bin_sub, bin_mul, bin_quo, bin_rem, bin_lss, bin_leq, bin_gtr, bin_geq, bin_eql, bin_neq, eqs_cn, eqs_ci, eqs_cb, eqs_cs, Option.map_some, lenT_ofL, lst_ofL, lstSz_ofL, chunk_one, lst_nil, lst_sl, lstSz_sl, lstSz_nil, Bool.and_true, Bool.true_and, Bool.and_false, Bool.false_and, beq_self_eq_true, beq_bb, bne_bb, un_not, un_neg, conv_int, min2_int, max2_int, w64, w32, wu8, wu16, wu32, wu64, tdiv_nn, tmod_nn, cell_zero, cell_succ, cell_v, cells_v, cells_agg, Bool.not_true, Bool.not_false, Int.reduceLT, Int.reduceLE, Int.reduceEq, Int.reduceNeg, Int.reduceAdd, Int.reduceSub, Int.reduceMul, intOf_v, decide_true, decide_false, h1, hX.lenT, List.length_map]; rfl) ?_)
      | (refine ex_bool ?_)
      | (refine ⟨_, C, ?_⟩)
      | (exact i1)
      | (refine ⟨(fun r => ∃ i : Nat, i ≤ zs.length ∧ r = [.v (.int .i64 (sumF (zs.take i))), .v (.int .i64 (i : Nat))]), leftH zs.length, ?_⟩)
      | (refine fun (r2 r3 : D) (hI : (fun r => ∃ i : Nat, i ≤ zs.length ∧ r = [.v (.int .i64 (sumF (zs.take i))), .v (.int .i64 (i : Nat))]) [r2, r3]) => ?_; obtain ⟨i, hi, hl0⟩ := hI; simp only [List.cons.injEq, and_true] at hl0; obtain ⟨rfl, rfl⟩ := hl0; by_cases hlt : i < zs.length <;> first | (have hk1 : i < zs.length := (by omega); have h1 := iv_get hX hk1; have i1 := iv_inb hX hk1; have ht : sumF (zs.take (i + 1)) = sumF (zs.take i) + ((zs.getD i (0, 0)).2 - (zs.getD i (0, 0)).1) := foldl_succ (0, 0) hk1 _ _; have hb := sum_bd hz i (by omega); have he := end_bd hz (k := i) (by omega); have hc := chk_at hz hk1; generalize zs.getD i (0, 0) = z at h1 ht hc; obtain ⟨p, q⟩ := z; simp only at ht hc; simp only [h1, iv, Nat.zero_add, cell_zero, cell_succ, cells_agg, List.length_cons, List.length_nil]; generalize sumF (zs.take i) = u at ht hb; have inl1 : True := trivial) | (have hkk : i = zs.length := (by omega); subst hkk; rw [List.take_length]; have h1 : True := trivial; have out1 : True := trivial))
      | (have := inl1; refine ⟨i + 1, by omega, ?_⟩)
      | (exact ⟨0, by omega, rfl⟩)
      | (refine And.intro ?_ ?_)
      | (intro hx; have hprop := (show ∀ (p : Prop), p → True from fun _ _ => True.intro) _ hx; clear hprop; first | (cases hx; done) | (exfalso; revert hx; simp (disch := omega) only [decide_eq_true_eq, decide_eq_false_iff_not, Bool.not_eq_true', Bool.not_eq_false', Bool.and_eq_true, Bool.and_eq_false_iff, Int.not_lt, Int.not_le, ne_eq, not_false_eq_true, not_true_eq_false, reduceCtorEq, Bool.true_eq_false, Bool.false_eq_true, beq_iff_eq, bne_iff_ne, beq_eq_false_iff_ne, false_or, or_false, true_and, and_true, h1, hX.lenT, List.length_map]; done) | (simp (disch := omega) only [decide_eq_true_eq, decide_eq_false_iff_not, Bool.not_eq_true', Bool.not_eq_false', Bool.and_eq_true, Bool.and_eq_false_iff, Int.not_lt, Int.not_le, ne_eq, not_false_eq_true, not_true_eq_false, reduceCtorEq, Bool.true_eq_false, Bool.false_eq_true, beq_iff_eq, bne_iff_ne, beq_eq_false_iff_ne, false_or, or_false, true_and, and_true, h1, hX.lenT, List.length_map] at hx; first | (exfalso; omega) | skip) | skip)
      | trivial
      | exact fit_ofL _ _
      | (simp (disch := omega) only [notAgg_v, notAgg_sl, plain_v, fits, fitsOne, fitsCells, xsOf, cell_zero, cell_succ, List.range, List.range.loop, List.map, cond_true, cond_false, D.v.injEq, exists_eq', exists_eq, and_self, and_true, true_and, D.agg.injEq, List.length, exists_eq_left', D.sl.injEq, reduceCtorEq, false_or, true_or, or_true, or_false, cell_zero, cell_succ, cell_v, cells_v, cells_agg, List.length_cons, List.length_nil, h1, hX.lenT, List.length_map]; done))
    all_goals first
      | (exfalso; omega)
      | omega
      | exact notAgg_fn _ _
      | exact hX.notAgg
      | exact plain_ofL (ivs_plain _)
      | (rw [app2r]; exact plain_ofL (ivs_plain _))
      | rfl
      | exact app2 _ _ _
      | (rw [ch2]; simp only [List.length_map, List.length_append, List.length_cons, List.length_nil]; omega)
      | assumption
      | (rw [ht]; done)
      | (rw [ht]; rfl)
      | (refine congrArg (fun t => [D.v (Value.int IntKind.i64 t), D.v (Value.int IntKind.i64 ((i : Nat) + 1))]) ?_; omega)
      | (simp only [leftH]; omega)
      | (rw [h1]; exact Nat.le_refl _)
      | (simp only [List.length_map]; omega)
      | fail
  · have hcc : countF zs = 0 := by unfold countF; rw [if_neg hz]
    rw [hcc]
    repeat' (first
      | (refine ex_some (by simp (disch := omega) only [bin_shr, bin_shl, bin_and, bin_or, bin_xor, len_str, toStr_ofL, bin_add, bin_sub, bin_mul, bin_quo, bin_rem, bin_lss, bin_leq, bin_gtr, bin_geq, bin_eql, bin_neq, eqs_cn, eqs_ci, eqs_cb, eqs_cs, Option.map_some, lenT_ofL, lst_ofL, lstSz_ofL, chunk_one, lst_nil, lst_sl, lstSz_sl, lstSz_nil, Bool.and_true, Bool.true_and, Bool.and_false, Bool.false_and, beq_self_eq_true, beq_bb, bne_bb, un_not, un_neg, conv_int, min2_int, max2_int, w64, w32, wu8, wu16, wu32, wu64, tdiv_nn, tmod_nn, cell_zero, cell_succ, cell_v, cells_v, cells_agg, Bool.not_true, Bool.not_false, Int.reduceLT, Int.reduceLE, Int.reduceEq, Int.reduceNeg, Int.reduceAdd, Int.reduceSub, Int.reduceMul, intOf_v, decide_true, decide_false, h1, hX.lenT, List.length_map]; rfl) ?_)
      | (refine ex_bool ?_)
      | (refine ⟨_, C, ?_⟩)
      | (refine ⟨(fun r => r = [.v (.int .i64 0), .v (.int .i64 0)]), fun _ => 0, ?_⟩)
      | (refine fun (r2 r3 : D) (hI : (fun r => r = [.v (.int .i64 0), .v (.int .i64 0)]) [r2, r3]) => ?_; have hl0 := hI; simp only [List.cons.injEq, and_true] at hl0; obtain ⟨rfl, rfl⟩ := hl0)
      | (exact rfl)
      | (refine And.intro ?_ ?_)
      | (intro hx; have hprop := (show ∀ (p : Prop), p → True from fun _ _ => True.intro) _ hx; clear hprop; first | (cases hx; done) | (exfalso; revert hx; simp (disch := omega) only [decide_eq_true_eq, decide_eq_false_iff_not, Bool.not_eq_true', Bool.not_eq_false', Bool.and_eq_true, Bool.and_eq_false_iff, Int.not_lt, Int.not_le, ne_eq, not_false_eq_true, not_true_eq_false, reduceCtorEq, Bool.true_eq_false, Bool.false_eq_true, beq_iff_eq, bne_iff_ne, beq_eq_false_iff_ne, false_or, or_false, true_and, and_true, h1, hX.lenT, List.length_map]; done) | (simp (disch := omega) only [decide_eq_true_eq, decide_eq_false_iff_not, Bool.not_eq_true', Bool.not_eq_false', Bool.and_eq_true, Bool.and_eq_false_iff, Int.not_lt, Int.not_le, ne_eq, not_false_eq_true, not_true_eq_false, reduceCtorEq, Bool.true_eq_false, Bool.false_eq_true, beq_iff_eq, bne_iff_ne, beq_eq_false_iff_ne, false_or, or_false, true_and, and_true, h1, hX.lenT, List.length_map] at hx; first | (exfalso; omega) | skip) | skip)
      | trivial
      | exact fit_ofL _ _
      | (simp (disch := omega) only [notAgg_v, notAgg_sl, plain_v, fits, fitsOne, fitsCells, xsOf, cell_zero, cell_succ, List.range, List.range.loop, List.map, cond_true, cond_false, D.v.injEq, exists_eq', exists_eq, and_self, and_true, true_and, D.agg.injEq, List.length, exists_eq_left', D.sl.injEq, reduceCtorEq, false_or, true_or, or_true, or_false, cell_zero, cell_succ, cell_v, cells_v, cells_agg, List.length_cons, List.length_nil, h1, hX.lenT, List.length_map]; done))
    all_goals first
      | (exfalso; omega)
      | omega
      | exact notAgg_fn _ _
      | exact hX.notAgg
      | exact plain_ofL (ivs_plain _)
      | (rw [app2r]; exact plain_ofL (ivs_plain _))
      | rfl
      | exact app2 _ _ _
      | (rw [ch2]; simp only [List.length_map, List.length_append, List.length_cons, List.length_nil]; omega)
      | assumption
      | (simp only [leftH]; omega)
      | (rw [h1]; exact Nat.le_refl _)
      | (simp only [List.length_map]; omega)
      | fail

theorem vc_tell (x y : D) (zs os : List (Int × Int)) (a b : Int) : Cond Try.prog (fun _ => none) Try.f4 [x, y, .agg [.v (.int .i64 a), .v (.int .i64 b)]] [.v (.bool true)] = ((NotAgg x ∧ NotAgg y ∧ (∃ (cs : List D), D.agg [D.v (Value.int IntKind.i64 a), D.v (Value.int IntKind.i64 b)] = D.agg cs ∧ cs.length = 2) ∧ True) ∧ ∃ (r : D), D.lenT (TypeDesc.slice 24) x = some r ∧ ∃ (r_1 : D), D.bin BinOp.gtr r (D.v (Value.int IntKind.i64 30)) = some r_1 ∧ ∃ (b_1 : Bool), r_1 = D.v (Value.bool b_1) ∧ (b_1 = false → ∃ (r : D), D.lenT (TypeDesc.slice 24) y = some r ∧ ∃ (r_2 : D), D.bin BinOp.gtr r (D.v (Value.int IntKind.i64 30)) = some r_2 ∧ ∃ (b_2 : Bool), r_2 = D.v (Value.bool b_2) ∧ (b_2 = true → ∃ (r : D), PureD Try.prog 7 [] [r] ∧ fits [(false, [none])] [r] ∧ ((∃ (y : Value), r = D.v y) ∧ True) ∧ [r] = [D.v (Value.bool true)]) ∧ (b_2 = false → ∃ (r : D), PureD Try.prog 8 [x] [r] ∧ fits [(false, [some 2])] [r] ∧ ∃ (r_3 : D), PureD Try.prog 19 [r] [r_3] ∧ fits [(false, [none])] [r_3] ∧ ∃ (r_4 : D), PureD Try.prog 20 [x] [r_4] ∧ fits [(false, [none])] [r_4] ∧ ∃ (r_5 : D), D.bin BinOp.neq r_3 r_4 = some r_5 ∧ ∃ (b_3 : Bool), r_5 = D.v (Value.bool b_3) ∧ (b_3 = false → ∃ (r_6 : D), PureD Try.prog 21 [r] [r_6] ∧ fits [(false, [none])] [r_6] ∧ ∃ (r_7 : D), PureD Try.prog 22 [x] [r_7] ∧ fits [(false, [none])] [r_7] ∧ ∃ (r_8 : D), D.bin BinOp.neq r_6 r_7 = some r_8 ∧ ∃ (b_4 : Bool), r_8 = D.v (Value.bool b_4) ∧ (b_4 = false → ∃ (r_9 : D), PureD Try.prog 8 [y] [r_9] ∧ fits [(false, [some 2])] [r_9] ∧ ∃ (r_10 : D), PureD Try.prog 23 [r, r_9] [r_10] ∧ fits [(false, [none])] [r_10] ∧ ∃ (r_11 : D), PureD Try.prog 9 [x, y] [r_11] ∧ fits [(false, [none])] [r_11] ∧ ∃ (r_12 : D), r_10.bne r_11 = some r_12 ∧ ∃ (b_5 : Bool), r_12 = D.v (Value.bool b_5) ∧ (b_5 = true → (True ∧ True) ∧ [D.v (Value.bool false)] = [D.v (Value.bool true)]) ∧ (b_5 = false → ∃ (r_13 : D), PureD Try.prog 20 [x] [r_13] ∧ fits [(false, [none])] [r_13] ∧ ∃ (r_14 : D), D.bin BinOp.neq r_13 (D.v (Value.int IntKind.i64 0)) = some r_14 ∧ ∃ (b_6 : Bool), r_14 = D.v (Value.bool b_6) ∧ (b_6 = true → ∃ (r : D), PureD Try.prog 7 [] [r] ∧ fits [(false, [none])] [r] ∧ ((∃ (y : Value), r = D.v y) ∧ True) ∧ [r] = [D.v (Value.bool true)]) ∧ (b_6 = false → ∃ (r_15 : D), PureD Try.prog 24 [r, D.v (Value.int IntKind.i64 a)] [r_15] ∧ fits [(false, [none])] [r_15] ∧ ∃ (r_16 : D), PureD Try.prog 25 [x, D.v (Value.int IntKind.i64 a)] [r_16] ∧ fits [(false, [none])] [r_16] ∧ ∃ (r_17 : D), r_15.beq r_16 = some r_17 ∧ ∃ (b_7 : Bool), r_17 = D.v (Value.bool b_7) ∧ (b_7 = true → ∃ (r_18 : D), PureD Try.prog 26 [r, D.agg [D.v (Value.int IntKind.i64 a), D.v (Value.int IntKind.i64 b)]] [r_18] ∧ fits [(false, [none])] [r_18] ∧ ∃ (r_19 : D), PureD Try.prog 27 [x, D.agg [D.v (Value.int IntKind.i64 a), D.v (Value.int IntKind.i64 b)]] [r_19] ∧ fits [(false, [none])] [r_19] ∧ ∃ (r_20 : D), r_18.beq r_19 = some r_20 ∧ ∃ (b : Bool), r_20 = D.v (Value.bool b) ∧ (b = true → ∃ (r_21 : D), PureD Try.prog 28 [r, D.v (Value.int IntKind.i64 a)] [r_21] ∧ fits [(false, [none])] [r_21] ∧ ∃ (r : D), PureD Try.prog 29 [x, D.v (Value.int IntKind.i64 a)] [r] ∧ fits [(false, [none])] [r] ∧ ∃ (r_22 : D), D.bin BinOp.eql r_21 r = some r_22 ∧ ∃ (b : Bool), r_22 = D.v (Value.bool b) ∧ (b = true → ∃ (r : D), PureD Try.prog 7 [] [r] ∧ fits [(false, [none])] [r] ∧ ((∃ (y : Value), r = D.v y) ∧ True) ∧ [r] = [D.v (Value.bool true)]) ∧ (b = false → (True ∧ True) ∧ [D.v (Value.bool false)] = [D.v (Value.bool true)])) ∧ (b = false → (True ∧ True) ∧ [D.v (Value.bool false)] = [D.v (Value.bool true)])) ∧ (b_7 = false → (True ∧ True) ∧ [D.v (Value.bool false)] = [D.v (Value.bool true)])))) ∧ (b_4 = true → (True ∧ True) ∧ [D.v (Value.bool false)] = [D.v (Value.bool true)])) ∧ (b_3 = true → (True ∧ True) ∧ [D.v (Value.bool false)] = [D.v (Value.bool true)]))) ∧ (b_1 = true → ∃ (r : D), PureD Try.prog 7 [] [r] ∧ fits [(false, [none])] [r] ∧ ((∃ (y : Value), r = D.v y) ∧ True) ∧ [r] = [D.v (Value.bool true)])) := by kernel_rfl
set_option maxHeartbeats 16000000 in
theorem tell (x y : D) (zs os : List (Int × Int)) (a b : Int) (hX : IsL 2 (zs.map iv) x) (hY : IsL 2 (os.map iv) y) : PureD Try.prog 4 [x, y, .agg [.v (.int .i64 a), .v (.int .i64 b)]] [.v (.bool true)] := by
  refine pure_cond (Lp := (fun _ => none)) (by kernel_rfl) Try.func4 (by kernel_rfl) (by kernel_rfl) ?_
  rw [vc_tell x y zs os a b]
  simp only [hX.lenT, hY.lenT, List.length_map, Option.some.injEq, exists_eq_left']
  by_cases hl : zs.length ≤ 30 ∧ os.length ≤ 30
  · skip
    have hO := own_is zs
    have hP := own_is os
    have OX := ownI x zs hX (by omega)
    have OY := ownI y os hY (by omega)
    have C1 := check _ zs hO (by omega)
    have C2 := rcheck x zs hX (by omega)
    have N1 := count _ zs hO (by omega)
    have N2 := rcount x zs hX (by omega)
    have S1 := same _ _ zs os hO hP (by omega) (by omega)
    have S2 := rsame x y zs os hX hY (by omega) (by omega)
    have H1 := has _ zs a hO (by omega)
    have H2 := rhas x zs a hX (by omega)
    have G1 := holds _ zs a b hO (by omega)
    have G2 := rholds x zs a b hX (by omega)
    have F1 := first _ zs a hO (by omega)
    have F2 := rfirst x zs a hX (by omega)
    by_cases hz : chkF zs = 0
    · have hA := apt_of hz
      rw [hold_eq hA] at G2
      rw [first_eq hA] at F2
      rw [hz] at C1 C2
      repeat' (first
        | (refine ex_some (by simp (disch := omega) only [bin_shr, bin_shl, bin_and, bin_or, bin_xor, len_str, toStr_ofL, bin_add, bin_sub, bin_mul, bin_quo, bin_rem, bin_lss, bin_leq, bin_gtr, bin_geq, bin_eql, bin_neq, eqs_cn, eqs_ci, eqs_cb, eqs_cs, Option.map_some, lenT_ofL, lst_ofL, lstSz_ofL, chunk_one, lst_nil, lst_sl, lstSz_sl, lstSz_nil, Bool.and_true, Bool.true_and, Bool.and_false, Bool.false_and, beq_self_eq_true, beq_bb, bne_bb, un_not, un_neg, conv_int, min2_int, max2_int, w64, w32, wu8, wu16, wu32, wu64, tdiv_nn, tmod_nn, cell_zero, cell_succ, cell_v, cells_v, cells_agg, Bool.not_true, Bool.not_false, Int.reduceLT, Int.reduceLE, Int.reduceEq, Int.reduceNeg, Int.reduceAdd, Int.reduceSub, Int.reduceMul, intOf_v, decide_true, decide_false, hX.lenT, hY.lenT, List.length_map]; rfl) ?_)
        | (refine ex_bool ?_)
        | (refine ⟨_, awake, ?_⟩)
        | (refine ⟨_, OX, ?_⟩)
        | (refine ⟨_, OY, ?_⟩)
        | (refine ⟨_, C1, ?_⟩)
        | (refine ⟨_, C2, ?_⟩)
        | (refine ⟨_, N1, ?_⟩)
        | (refine ⟨_, N2, ?_⟩)
        | (refine ⟨_, S1, ?_⟩)
        | (refine ⟨_, S2, ?_⟩)
        | (refine ⟨_, H1, ?_⟩)
        | (refine ⟨_, H2, ?_⟩)
        | (refine ⟨_, G1, ?_⟩)
        | (refine ⟨_, G2, ?_⟩)
        | (refine ⟨_, F1, ?_⟩)
        | (refine ⟨_, F2, ?_⟩)
        | (refine And.intro ?_ ?_)
        | (intro hx; have hprop := (show ∀ (p : Prop), p → True from fun _ _ => True.intro) _ hx; clear hprop; first | (cases hx; done) | (exfalso; revert hx; simp (disch := omega) only [decide_eq_true_eq, decide_eq_false_iff_not, Bool.not_eq_true', Bool.not_eq_false', Bool.and_eq_true, Bool.and_eq_false_iff, Int.not_lt, Int.not_le, ne_eq, not_false_eq_true, not_true_eq_false, reduceCtorEq, Bool.true_eq_false, Bool.false_eq_true, beq_iff_eq, bne_iff_ne, beq_eq_false_iff_ne, false_or, or_false, true_and, and_true, hX.lenT, hY.lenT, List.length_map]; done) | (simp (disch := omega) only [decide_eq_true_eq, decide_eq_false_iff_not, Bool.not_eq_true', Bool.not_eq_false', Bool.and_eq_true, Bool.and_eq_false_iff, Int.not_lt, Int.not_le, ne_eq, not_false_eq_true, not_true_eq_false, reduceCtorEq, Bool.true_eq_false, Bool.false_eq_true, beq_iff_eq, bne_iff_ne, beq_eq_false_iff_ne, false_or, or_false, true_and, and_true, hX.lenT, hY.lenT, List.length_map] at hx; first | (exfalso; omega) | skip) | skip)
        | trivial
        | exact fit_ofL _ _
        | (simp (disch := omega) only [notAgg_v, notAgg_sl, plain_v, fits, fitsOne, fitsCells, xsOf, cell_zero, cell_succ, List.range, List.range.loop, List.map, cond_true, cond_false, D.v.injEq, exists_eq', exists_eq, and_self, and_true, true_and, D.agg.injEq, List.length, exists_eq_left', D.sl.injEq, reduceCtorEq, false_or, true_or, or_true, or_false, cell_zero, cell_succ, cell_v, cells_v, cells_agg, List.length_cons, List.length_nil, hX.lenT, hY.lenT, List.length_map]; done))
      all_goals first
        | (exfalso; omega)
        | omega
        | rfl
        | assumption
        | exact hX.notAgg
        | exact hY.notAgg
        | exact .inl rfl
        | exact .inr ⟨_, rfl⟩
        | exact fit_ofL _ _
        | exact ⟨_, rfl⟩
        | exact ⟨_, rfl, rfl⟩
        | (simp; done)
        | fail
    · skip
      repeat' (first
        | (refine ex_some (by simp (disch := omega) only [bin_shr, bin_shl, bin_and, bin_or, bin_xor, len_str, toStr_ofL, bin_add, bin_sub, bin_mul, bin_quo, bin_rem, bin_lss, bin_leq, bin_gtr, bin_geq, bin_eql, bin_neq, eqs_cn, eqs_ci, eqs_cb, eqs_cs, Option.map_some, lenT_ofL, lst_ofL, lstSz_ofL, chunk_one, lst_nil, lst_sl, lstSz_sl, lstSz_nil, Bool.and_true, Bool.true_and, Bool.and_false, Bool.false_and, beq_self_eq_true, beq_bb, bne_bb, un_not, un_neg, conv_int, min2_int, max2_int, w64, w32, wu8, wu16, wu32, wu64, tdiv_nn, tmod_nn, cell_zero, cell_succ, cell_v, cells_v, cells_agg, Bool.not_true, Bool.not_false, Int.reduceLT, Int.reduceLE, Int.reduceEq, Int.reduceNeg, Int.reduceAdd, Int.reduceSub, Int.reduceMul, intOf_v, decide_true, decide_false, hX.lenT, hY.lenT, List.length_map]; rfl) ?_)
        | (refine ex_bool ?_)
        | (refine ⟨_, awake, ?_⟩)
        | (refine ⟨_, OX, ?_⟩)
        | (refine ⟨_, OY, ?_⟩)
        | (refine ⟨_, C1, ?_⟩)
        | (refine ⟨_, C2, ?_⟩)
        | (refine ⟨_, N1, ?_⟩)
        | (refine ⟨_, N2, ?_⟩)
        | (refine ⟨_, S1, ?_⟩)
        | (refine ⟨_, S2, ?_⟩)
        | (refine ⟨_, H1, ?_⟩)
        | (refine ⟨_, H2, ?_⟩)
        | (refine ⟨_, G1, ?_⟩)
        | (refine ⟨_, G2, ?_⟩)
        | (refine ⟨_, F1, ?_⟩)
        | (refine ⟨_, F2, ?_⟩)
        | (refine And.intro ?_ ?_)
        | (intro hx; have hprop := (show ∀ (p : Prop), p → True from fun _ _ => True.intro) _ hx; clear hprop; first | (cases hx; done) | (exfalso; revert hx; simp (disch := omega) only [decide_eq_true_eq, decide_eq_false_iff_not, Bool.not_eq_true', Bool.not_eq_false', Bool.and_eq_true, Bool.and_eq_false_iff, Int.not_lt, Int.not_le, ne_eq, not_false_eq_true, not_true_eq_false, reduceCtorEq, Bool.true_eq_false, Bool.false_eq_true, beq_iff_eq, bne_iff_ne, beq_eq_false_iff_ne, false_or, or_false, true_and, and_true, hX.lenT, hY.lenT, List.length_map]; done) | (simp (disch := omega) only [decide_eq_true_eq, decide_eq_false_iff_not, Bool.not_eq_true', Bool.not_eq_false', Bool.and_eq_true, Bool.and_eq_false_iff, Int.not_lt, Int.not_le, ne_eq, not_false_eq_true, not_true_eq_false, reduceCtorEq, Bool.true_eq_false, Bool.false_eq_true, beq_iff_eq, bne_iff_ne, beq_eq_false_iff_ne, false_or, or_false, true_and, and_true, hX.lenT, hY.lenT, List.length_map] at hx; first | (exfalso; omega) | skip) | skip)
        | trivial
        | exact fit_ofL _ _
        | (simp (disch := omega) only [notAgg_v, notAgg_sl, plain_v, fits, fitsOne, fitsCells, xsOf, cell_zero, cell_succ, List.range, List.range.loop, List.map, cond_true, cond_false, D.v.injEq, exists_eq', exists_eq, and_self, and_true, true_and, D.agg.injEq, List.length, exists_eq_left', D.sl.injEq, reduceCtorEq, false_or, true_or, or_true, or_false, cell_zero, cell_succ, cell_v, cells_v, cells_agg, List.length_cons, List.length_nil, hX.lenT, hY.lenT, List.length_map]; done))
      all_goals first
        | (exfalso; omega)
        | omega
        | rfl
        | assumption
        | exact hX.notAgg
        | exact hY.notAgg
        | exact .inl rfl
        | exact .inr ⟨_, rfl⟩
        | exact fit_ofL _ _
        | exact ⟨_, rfl⟩
        | exact ⟨_, rfl, rfl⟩
        | (simp; done)
        | fail
  · skip
    repeat' (first
      | (refine ex_some (by simp (disch := omega) only [bin_shr, bin_shl, bin_and, bin_or, bin_xor, len_str, toStr_ofL, bin_add, bin_sub, bin_mul, bin_quo, bin_rem, bin_lss, bin_leq, bin_gtr, bin_geq, bin_eql, bin_neq, eqs_cn, eqs_ci, eqs_cb, eqs_cs, Option.map_some, lenT_ofL, lst_ofL, lstSz_ofL, chunk_one, lst_nil, lst_sl, lstSz_sl, lstSz_nil, Bool.and_true, Bool.true_and, Bool.and_false, Bool.false_and, beq_self_eq_true, beq_bb, bne_bb, un_not, un_neg, conv_int, min2_int, max2_int, w64, w32, wu8, wu16, wu32, wu64, tdiv_nn, tmod_nn, cell_zero, cell_succ, cell_v, cells_v, cells_agg, Bool.not_true, Bool.not_false, Int.reduceLT, Int.reduceLE, Int.reduceEq, Int.reduceNeg, Int.reduceAdd, Int.reduceSub, Int.reduceMul, intOf_v, decide_true, decide_false, hX.lenT, hY.lenT, List.length_map]; rfl) ?_)
      | (refine ex_bool ?_)
      | (refine ⟨_, awake, ?_⟩)
      | (refine And.intro ?_ ?_)
      | (intro hx; have hprop := (show ∀ (p : Prop), p → True from fun _ _ => True.intro) _ hx; clear hprop; first | (cases hx; done) | (exfalso; revert hx; simp (disch := omega) only [decide_eq_true_eq, decide_eq_false_iff_not, Bool.not_eq_true', Bool.not_eq_false', Bool.and_eq_true, Bool.and_eq_false_iff, Int.not_lt, Int.not_le, ne_eq, not_false_eq_true, not_true_eq_false, reduceCtorEq, Bool.true_eq_false, Bool.false_eq_true, beq_iff_eq, bne_iff_ne, beq_eq_false_iff_ne, false_or, or_false, true_and, and_true, hX.lenT, hY.lenT, List.length_map]; done) | (simp (disch := omega) only [decide_eq_true_eq, decide_eq_false_iff_not, Bool.not_eq_true', Bool.not_eq_false', Bool.and_eq_true, Bool.and_eq_false_iff, Int.not_lt, Int.not_le, ne_eq, not_false_eq_true, not_true_eq_false, reduceCtorEq, Bool.true_eq_false, Bool.false_eq_true, beq_iff_eq, bne_iff_ne, beq_eq_false_iff_ne, false_or, or_false, true_and, and_true, hX.lenT, hY.lenT, List.length_map] at hx; first | (exfalso; omega) | skip) | skip)
      | trivial
      | exact fit_ofL _ _
      | (simp (disch := omega) only [notAgg_v, notAgg_sl, plain_v, fits, fitsOne, fitsCells, xsOf, cell_zero, cell_succ, List.range, List.range.loop, List.map, cond_true, cond_false, D.v.injEq, exists_eq', exists_eq, and_self, and_true, true_and, D.agg.injEq, List.length, exists_eq_left', D.sl.injEq, reduceCtorEq, false_or, true_or, or_true, or_false, cell_zero, cell_succ, cell_v, cells_v, cells_agg, List.length_cons, List.length_nil, hX.lenT, hY.lenT, List.length_map]; done))
    all_goals first
      | (exfalso; omega)
      | omega
      | rfl
      | assumption
      | exact hX.notAgg
      | exact hY.notAgg
      | exact .inl rfl
      | exact .inr ⟨_, rfl⟩
      | exact fit_ofL _ _
      | exact ⟨_, rfl⟩
      | exact ⟨_, rfl, rfl⟩
      | (simp; done)
      | fail


theorem typed_ivs {x : D} (h : TypedA (false, [.sl true [.int .i64, .int .i64]]) x) : ∃ zs : List (Int × Int), IsL 2 (zs.map iv) x ∧ ∀ z ∈ zs, (Lit.int .i64 z.1).wf = true ∧ (Lit.int .i64 z.2).wf = true := by
  obtain ⟨zs, h1, _, h2⟩ := h.one.recs2
  exact ⟨zs, h1, h2⟩
theorem law_IvalsTell (xs : List D) (h : All2 TypedA [(false, [.sl true [.int .i64, .int .i64]]), (false, [.sl true [.int .i64, .int .i64]]), (true, [.int .i64, .int .i64])] xs) : PureD Try.prog 4 xs [.v (.bool true)] := by
  obtain ⟨x, xs, rfl, hx, h⟩ := h.cons_
  obtain ⟨y, xs, rfl, hy, h⟩ := h.cons_
  obtain ⟨z, xs, rfl, hz, h⟩ := h.cons_
  obtain rfl := h.nil_
  obtain ⟨zs, hX, _⟩ := typed_ivs hx
  obtain ⟨os, hY, _⟩ := typed_ivs hy
  obtain ⟨cs, rfl, hc⟩ := hz.agg
  obtain ⟨u, cs, rfl, hu, hc⟩ := hc.cons_
  obtain ⟨v, cs, rfl, hv, hc⟩ := hc.cons_
  obtain rfl := hc.nil_
  obtain ⟨a, rfl, _⟩ := hu.int_
  obtain ⟨b, rfl, _⟩ := hv.int_
  exact tell x y zs os a b hX hY

end Go.Proofs.Ytpbmlllffmkkdaa