/-
  Layer 17: RulesJudge.
-/
import Derived.Test.YtimfgdlkekghaaaT3
namespace Go.Proofs.Ytimfgdlkekghaaa
open Go.RowKit
set_option linter.unusedSimpArgs false
set_option linter.unusedVariables false


theorem ft_bd (e : Int) : 0 ≤ (ft e).1 ∧ (ft e).1 ≤ 3 ∧ 0 ≤ (ft e).2 ∧ (ft e).2 ≤ 6 := by unfold ft; (repeat' split) <;> simp
theorem wo_bd {a b : Int × Int} (h : 0 ≤ a.2 ∧ a.2 ≤ 6) (k : 0 ≤ b.2 ∧ b.2 ≤ 6) : 0 ≤ (wo a b).2 ∧ (wo a b).2 ≤ 6 := by unfold wo; split <;> assumption

theorem vc_judgeL (x y : D) (xs ys : List Int) (e : Int) : Cond Try.prog (fun k => if k = 4 then some ⟨[7], [], [0, 1, 2], []⟩ else if k = 7 then some ⟨[8], [], [0, 1, 2, 7], []⟩ else none) Try.f3 [x, y, .v (.int .u8 e)] [.v (.bool true)] = ((NotAgg x ∧ NotAgg y ∧ NotAgg (D.v (Value.int IntKind.u8 e)) ∧ True) ∧ ∃ (r : D), D.lenT (TypeDesc.slice 5) x = some r ∧ ∃ (r_1 : D), D.bin BinOp.gtr r (D.v (Value.int IntKind.i64 100)) = some r_1 ∧ ∃ (b : Bool), r_1 = D.v (Value.bool b) ∧ (b = false → ∃ (r : D), D.lenT (TypeDesc.slice 5) y = some r ∧ ∃ (r_2 : D), D.bin BinOp.gtr r (D.v (Value.int IntKind.i64 100)) = some r_2 ∧ ∃ (b : Bool), r_2 = D.v (Value.bool b) ∧ (b = true → ∃ (r : D), PureD Try.prog 6 [] [r] ∧ fits [(false, [none])] [r] ∧ ((∃ (y : Value), r = D.v y) ∧ True) ∧ [r] = [D.v (Value.bool true)]) ∧ (b = false → ∃ (I : List D → Prop), ∃ (μ : List D → Nat), ((D.v (Value.int IntKind.i64 0) = D.v (Value.int IntKind.i64 0) ∧ x = x ∧ y = y ∧ D.v (Value.int IntKind.u8 e) = D.v (Value.int IntKind.u8 e) ∧ True) ∧ True ∧ I [D.v (Value.int IntKind.i64 0)]) ∧ ∀ (r : D), I [r] → ∃ (r_3 : D), D.lenT (TypeDesc.slice 5) x = some r_3 ∧ ∃ (r_4 : D), D.bin BinOp.lss r r_3 = some r_4 ∧ ∃ (b : Bool), r_4 = D.v (Value.bool b) ∧ (b = true → ∃ (I_1 : List D → Prop), ∃ (μ_1 : List D → Nat), ((D.v (Value.int IntKind.i64 0) = D.v (Value.int IntKind.i64 0) ∧ x = x ∧ y = y ∧ D.v (Value.int IntKind.u8 e) = D.v (Value.int IntKind.u8 e) ∧ r = r ∧ True) ∧ True ∧ I_1 [D.v (Value.int IntKind.i64 0)]) ∧ ∀ (r_5 : D), I_1 [r_5] → ∃ (r_6 : D), D.lenT (TypeDesc.slice 5) y = some r_6 ∧ ∃ (r_7 : D), D.bin BinOp.lss r_5 r_6 = some r_7 ∧ ∃ (b : Bool), r_7 = D.v (Value.bool b) ∧ (b = true → ∃ (r_8 : D), D.bin BinOp.lss r_5 (D.v (Value.int IntKind.i64 8)) = some r_8 ∧ ∃ (b : Bool), r_8 = D.v (Value.bool b) ∧ (b = true → D.inb 1 x r ∧ 0 + 1 ≤ (x.at_ r).cells.length ∧ D.inb 1 y r_5 ∧ 0 + 1 ≤ (y.at_ r_5).cells.length ∧ ∃ (r_9 : D), PureD Try.prog 7 [(x.at_ r).cell 0, (y.at_ r_5).cell 0] [r_9] ∧ fits [(true, [none, none])] [r_9] ∧ D.inb 1 x r ∧ 0 + 1 ≤ (x.at_ r).cells.length ∧ D.inb 1 y r_5 ∧ 0 + 1 ≤ (y.at_ r_5).cells.length ∧ ∃ (r_10 : D), PureD Try.prog 8 [(x.at_ r).cell 0, (y.at_ r_5).cell 0] [r_10] ∧ fits [(true, [none, none])] [r_10] ∧ ∃ (r_11 : D), D.conv IntKind.i64 (D.v (Value.int IntKind.u8 e)) = some r_11 ∧ ∃ (r_12 : D), PureD Try.prog 9 [r_11] [r_12] ∧ fits [(true, [none, none])] [r_12] ∧ ∃ (r_13 : D), PureD Try.prog 10 [D.agg [r_9.cell 0, r_9.cell 1]] [r_13] ∧ fits [(true, [none, none])] [r_13] ∧ ∃ (r_14 : Bool), eqs [EqK.i, EqK.i] [r_13.cell 0, r_13.cell 1] [r_10.cell 0, r_10.cell 1] = some r_14 ∧ ∃ (b : Bool), D.v (Value.bool (match r_14 with | true => false | false => true)) = D.v (Value.bool b) ∧ (b = false → ∃ (r_15 : D), PureD Try.prog 11 [D.agg [r_12.cell 0, r_12.cell 1], D.agg [r_9.cell 0, r_9.cell 1]] [r_15] ∧ fits [(true, [none, none])] [r_15] ∧ ∃ (r_16 : D), PureD Try.prog 10 [D.agg [r_15.cell 0, r_15.cell 1]] [r_16] ∧ fits [(true, [none, none])] [r_16] ∧ ∃ (r_17 : D), D.conv IntKind.i64 (D.v (Value.int IntKind.u8 e)) = some r_17 ∧ ∃ (r_18 : D), PureD Try.prog 13 [r_17] [r_18] ∧ fits [(true, [none, none])] [r_18] ∧ ∃ (r_19 : D), PureD Try.prog 12 [D.agg [r_18.cell 0, r_18.cell 1], D.agg [r_10.cell 0, r_10.cell 1]] [r_19] ∧ fits [(true, [none, none])] [r_19] ∧ ∃ (r_20 : Bool), eqs [EqK.i, EqK.i] [r_16.cell 0, r_16.cell 1] [r_19.cell 0, r_19.cell 1] = some r_20 ∧ ∃ (b : Bool), D.v (Value.bool (match r_20 with | true => false | false => true)) = D.v (Value.bool b) ∧ (b = true → (True ∧ True) ∧ [D.v (Value.bool false)] = [D.v (Value.bool true)]) ∧ (b = false → ∃ (r_21 : D), D.bin BinOp.add r_5 (D.v (Value.int IntKind.i64 1)) = some r_21 ∧ (r_21 = r_21 ∧ x = x ∧ y = y ∧ D.v (Value.int IntKind.u8 e) = D.v (Value.int IntKind.u8 e) ∧ r = r ∧ True) ∧ True ∧ I_1 [r_21] ∧ μ_1 [r_21] < μ_1 [r_5])) ∧ (b = true → (True ∧ True) ∧ [D.v (Value.bool false)] = [D.v (Value.bool true)])) ∧ (b = false → D.inb 1 x r ∧ 0 + 1 ≤ (x.at_ r).cells.length ∧ ∃ (r_9 : D), PureD Try.prog 14 [(x.at_ r).cell 0] [r_9] ∧ fits [(false, [none])] [r_9] ∧ D.inb 1 x r ∧ 0 + 1 ≤ (x.at_ r).cells.length ∧ ∃ (r_10 : D), PureD Try.prog 15 [(x.at_ r).cell 0] [r_10] ∧ fits [(false, [none])] [r_10] ∧ ∃ (r_11 : D), r_9.bne r_10 = some r_11 ∧ ∃ (b : Bool), r_11 = D.v (Value.bool b) ∧ (b = true → (True ∧ True) ∧ [D.v (Value.bool false)] = [D.v (Value.bool true)]) ∧ (b = false → ∃ (r_12 : D), D.bin BinOp.add r (D.v (Value.int IntKind.i64 1)) = some r_12 ∧ (r_12 = r_12 ∧ x = x ∧ y = y ∧ D.v (Value.int IntKind.u8 e) = D.v (Value.int IntKind.u8 e) ∧ True) ∧ True ∧ I [r_12] ∧ μ [r_12] < μ [r]))) ∧ (b = false → D.inb 1 x r ∧ 0 + 1 ≤ (x.at_ r).cells.length ∧ ∃ (r_8 : D), PureD Try.prog 14 [(x.at_ r).cell 0] [r_8] ∧ fits [(false, [none])] [r_8] ∧ D.inb 1 x r ∧ 0 + 1 ≤ (x.at_ r).cells.length ∧ ∃ (r_9 : D), PureD Try.prog 15 [(x.at_ r).cell 0] [r_9] ∧ fits [(false, [none])] [r_9] ∧ ∃ (r_10 : D), r_8.bne r_9 = some r_10 ∧ ∃ (b : Bool), r_10 = D.v (Value.bool b) ∧ (b = true → (True ∧ True) ∧ [D.v (Value.bool false)] = [D.v (Value.bool true)]) ∧ (b = false → ∃ (r_11 : D), D.bin BinOp.add r (D.v (Value.int IntKind.i64 1)) = some r_11 ∧ (r_11 = r_11 ∧ x = x ∧ y = y ∧ D.v (Value.int IntKind.u8 e) = D.v (Value.int IntKind.u8 e) ∧ True) ∧ True ∧ I [r_11] ∧ μ [r_11] < μ [r]))) ∧ (b = false → ∃ (r : D), PureD Try.prog 16 [x, y] [r] ∧ fits [(true, [none, none])] [r] ∧ ∃ (r_5 : D), PureD Try.prog 10 [D.agg [r.cell 0, r.cell 1]] [r_5] ∧ fits [(true, [none, none])] [r_5] ∧ ∃ (r : D), PureD Try.prog 17 [x, y] [r] ∧ fits [(true, [none, none])] [r] ∧ ∃ (r_6 : Bool), eqs [EqK.i, EqK.i] [r_5.cell 0, r_5.cell 1] [r.cell 0, r.cell 1] = some r_6 ∧ ∃ (b : Bool), D.v (Value.bool r_6) = D.v (Value.bool b) ∧ (b = true → ∃ (r : D), D.conv IntKind.i64 (D.v (Value.int IntKind.u8 e)) = some r ∧ ∃ (r_7 : D), PureD Try.prog 9 [r] [r_7] ∧ fits [(true, [none, none])] [r_7] ∧ ∃ (r : D), PureD Try.prog 10 [D.agg [r_7.cell 0, r_7.cell 1]] [r] ∧ fits [(true, [none, none])] [r] ∧ ∃ (r_8 : D), D.conv IntKind.i64 (D.v (Value.int IntKind.u8 e)) = some r_8 ∧ ∃ (r_9 : D), PureD Try.prog 13 [r_8] [r_9] ∧ fits [(true, [none, none])] [r_9] ∧ ∃ (r_10 : Bool), eqs [EqK.i, EqK.i] [r.cell 0, r.cell 1] [r_9.cell 0, r_9.cell 1] = some r_10 ∧ ∃ (b : Bool), D.v (Value.bool r_10) = D.v (Value.bool b) ∧ (b = true → ∃ (r : D), PureD Try.prog 6 [] [r] ∧ fits [(false, [none])] [r] ∧ ((∃ (y : Value), r = D.v y) ∧ True) ∧ [r] = [D.v (Value.bool true)]) ∧ (b = false → (True ∧ True) ∧ [D.v (Value.bool false)] = [D.v (Value.bool true)])) ∧ (b = false → (True ∧ True) ∧ [D.v (Value.bool false)] = [D.v (Value.bool true)])))) ∧ (b = true → ∃ (r : D), PureD Try.prog 6 [] [r] ∧ fits [(false, [none])] [r] ∧ ((∃ (y : Value), r = D.v y) ∧ True) ∧ [r] = [D.v (Value.bool true)])) := by kernel_rfl
set_option maxHeartbeats 8000000 in
theorem judgeL (x y : D) (xs ys : List Int) (e : Int) (hX : IsL 1 (ints .u8 xs) x) (hY : IsL 1 (ints .u8 ys) y) (hxs : ∀ z ∈ xs, 0 ≤ z ∧ z < 256) (hys : ∀ z ∈ ys, 0 ≤ z ∧ z < 256) (ha : xs.length ≤ 9223372036854775807) (hb : ys.length ≤ 9223372036854775807) (e0 : 0 ≤ e) (e1 : e < 256) : PureD Try.prog 3 [x, y, .v (.int .u8 e)] [.v (.bool true)] := by
  refine pure_cond (Lp := (fun k => if k = 4 then some ⟨[7], [], [0, 1, 2], []⟩ else if k = 7 then some ⟨[8], [], [0, 1, 2, 7], []⟩ else none)) (by kernel_rfl) Try.func3 (by kernel_rfl) (by kernel_rfl) ?_
  rw [vc_judgeL x y xs ys e]
  simp only [hX.notAgg, hY.notAgg, hX.lenT, hY.lenT, ints_length, Option.some.injEq, exists_eq_left']
  by_cases hbig : 100 < xs.length ∨ 100 < ys.length
  · repeat' (first
      | (refine ex_some (by simp (disch := omega) only [bin_add, bin_sub, bin_mul, bin_quo, bin_rem, bin_lss, bin_leq, bin_gtr, bin_geq, bin_eql, bin_neq, eqs_cn, eqs_ci, eqs_cb, eqs_cs, Option.map_some, lenT_ofL, lst_ofL, lstSz_ofL, chunk_one, lst_nil, lst_sl, lstSz_sl, lstSz_nil, Bool.and_true, Bool.true_and, Bool.and_false, Bool.false_and, beq_self_eq_true, beq_bb, bne_bb, un_not, un_neg, conv_int, min2_int, max2_int, w64, w32, wu8, wu16, wu32, wu64, tdiv_nn, tmod_nn, cell_zero, cell_succ, cell_v, cells_v, cells_agg, Bool.not_true, Bool.not_false, Int.reduceLT, Int.reduceLE, Int.reduceEq, Int.reduceNeg, Int.reduceAdd, Int.reduceSub, Int.reduceMul, intOf_v, decide_true, decide_false]; rfl) ?_)
      | (refine ex_bool ?_)
      | (refine ⟨_, awake, ?_⟩)
      | (refine And.intro ?_ ?_)
      | (intro hx; first | (cases hx; done) | (exfalso; revert hx; simp (disch := omega) only [decide_eq_true_eq, decide_eq_false_iff_not, Bool.not_eq_true', Bool.not_eq_false', Bool.and_eq_true, Bool.and_eq_false_iff, Int.not_lt, Int.not_le, ne_eq, not_false_eq_true, not_true_eq_false, reduceCtorEq, Bool.true_eq_false, Bool.false_eq_true, beq_iff_eq, bne_iff_ne, beq_eq_false_iff_ne, false_or, or_false, true_and, and_true]; done) | (simp (disch := omega) only [decide_eq_true_eq, decide_eq_false_iff_not, Bool.not_eq_true', Bool.not_eq_false', Bool.and_eq_true, Bool.and_eq_false_iff, Int.not_lt, Int.not_le, ne_eq, not_false_eq_true, not_true_eq_false, reduceCtorEq, Bool.true_eq_false, Bool.false_eq_true, beq_iff_eq, bne_iff_ne, beq_eq_false_iff_ne, false_or, or_false, true_and, and_true] at hx; first | (exfalso; omega) | skip) | skip)
      | trivial
      | exact fit_ofL _ _
      | (simp (disch := omega) only [notAgg_v, notAgg_sl, plain_v, fits, fitsOne, fitsCells, xsOf, cell_zero, cell_succ, List.range, List.range.loop, List.map, cond_true, cond_false, D.v.injEq, exists_eq', exists_eq, and_self, and_true, true_and, D.agg.injEq, List.length, exists_eq_left', D.sl.injEq, reduceCtorEq, false_or, true_or, or_true, or_false, cell_zero, cell_succ, cell_v, cells_v, cells_agg, List.length_cons, List.length_nil]; done))
    all_goals first | (exfalso; omega) | (simp; done) | fail
  · have W := worst x y xs ys hX hY hxs hys (by omega) (by omega)
    have Wr := rworst x y xs ys hX hY hxs hys (by omega) (by omega)
    have bS := ws_bd (pairUp xs ys)
    have C3 := fault e
    have C3r := rfault e
    have bF := ft_bd e
    generalize wsF (pairUp xs ys) = S at W Wr bS
    obtain ⟨S1, S2⟩ := S
    generalize ft e = F at C3 C3r bF
    obtain ⟨f1, f2⟩ := F
    simp only at bS bF
    have C8 := back S1 S2 (by omega) (by omega)
    have C9 := back f1 f2 (by omega) (by omega)
    repeat' (first
      | (refine ex_some (by simp (disch := omega) only [bin_add, bin_sub, bin_mul, bin_quo, bin_rem, bin_lss, bin_leq, bin_gtr, bin_geq, bin_eql, bin_neq, eqs_cn, eqs_ci, eqs_cb, eqs_cs, Option.map_some, lenT_ofL, lst_ofL, lstSz_ofL, chunk_one, lst_nil, lst_sl, lstSz_sl, lstSz_nil, Bool.and_true, Bool.true_and, Bool.and_false, Bool.false_and, beq_self_eq_true, beq_bb, bne_bb, un_not, un_neg, conv_int, min2_int, max2_int, w64, w32, wu8, wu16, wu32, wu64, tdiv_nn, tmod_nn, cell_zero, cell_succ, cell_v, cells_v, cells_agg, Bool.not_true, Bool.not_false, Int.reduceLT, Int.reduceLE, Int.reduceEq, Int.reduceNeg, Int.reduceAdd, Int.reduceSub, Int.reduceMul, intOf_v, decide_true, decide_false]; rfl) ?_)
      | (refine ex_bool ?_)
      | (have := inl; refine ⟨(fun l => ∃ j : Nat, j ≤ ys.length ∧ j ≤ 8 ∧ l = [.v (.int .i64 (j : Nat))]), leftOf 8, ?_⟩)
      | (refine fun (r3 : D) (hI : (fun l => ∃ j : Nat, j ≤ ys.length ∧ j ≤ 8 ∧ l = [.v (.int .i64 (j : Nat))]) [r3]) => ?_; obtain ⟨j, hj, hj8, hl⟩ := hI; simp only [List.cons.injEq, and_true] at hl; subst hl; by_cases hlt : j < ys.length ∧ j < 8 <;> first | (have hj1 : j < ys.length := (by omega); have h2 := hY.at_ints hj1; have i2 := hY.inb_ints hj1; have z2 := hys (ys.getD j 0) (by simp [List.getD, hj1]); generalize ys.getD j 0 = v at h2 z2; have C1 := judge u v z1.1 z1.2 z2.1 z2.2; have C2 := rjudge u v z1.1 z1.2 z2.1 z2.2; have b1 := jd_bd u v; have b2 := wo_bd (a := (f1, f2)) (b := jd u v) (by simp only; omega) (by omega); generalize jd u v = q at C1 C2 b1 b2; obtain ⟨q1, q2⟩ := q; simp only at b1; have C4 := worse f1 f2 q1 q2; have C5 := rworse f1 f2 q1 q2; generalize wo (f1, f2) (q1, q2) = w at C4 C5 b2; obtain ⟨w1, w2⟩ := w; simp only at b2; have C6 := back q1 q2 (by omega) (by omega); have C7 := back w1 w2 (by omega) (by omega); simp only [h2, cell_v, cells_v]; have inj : True := trivial) | (have i2 : True := trivial; have h2 : True := trivial))
      | (refine ⟨(fun l => ∃ k : Nat, k ≤ xs.length ∧ l = [.v (.int .i64 (k : Nat))]), leftOf xs.length, ?_⟩)
      | (refine fun (r2 : D) (hI : (fun l => ∃ k : Nat, k ≤ xs.length ∧ l = [.v (.int .i64 (k : Nat))]) [r2]) => ?_; obtain ⟨k, hk, hl⟩ := hI; simp only [List.cons.injEq, and_true] at hl; subst hl; by_cases hlt : k < xs.length <;> first | (have hk1 : k < xs.length := (by omega); have h1 := hX.at_ints hk1; have i1 := hX.inb_ints hk1; have z1 := hxs (xs.getD k 0) (by simp [List.getD, hk1]); generalize xs.getD k 0 = u at h1 z1; have h2 : True := trivial; have K1 := carried u z1.1 z1.2; have K2 := rcarried u z1.1 z1.2; simp only [h1, cell_v, cells_v]; have inl : True := trivial) | (have h1 : True := trivial; have h2 : True := trivial; have i1 : True := trivial))
      | (exact i1)
      | (exact i2)
      | (have := inj; refine ⟨j + 1, by omega, by omega, ?_⟩)
      | (refine ⟨_, C1, ?_⟩)
      | (refine ⟨_, C2, ?_⟩)
      | (refine ⟨_, C3, ?_⟩)
      | (refine ⟨_, C3r, ?_⟩)
      | (refine ⟨_, C4, ?_⟩)
      | (refine ⟨_, C5, ?_⟩)
      | (refine ⟨_, C6, ?_⟩)
      | (refine ⟨_, C7, ?_⟩)
      | (refine ⟨_, C8, ?_⟩)
      | (refine ⟨_, C9, ?_⟩)
      | (refine ⟨_, K1, ?_⟩)
      | (refine ⟨_, K2, ?_⟩)
      | (refine ⟨_, W, ?_⟩)
      | (refine ⟨_, Wr, ?_⟩)
      | (refine ⟨_, awake, ?_⟩)
      | (exact ⟨0, Nat.zero_le _, rfl⟩)
      | (exact ⟨0, Nat.zero_le _, Nat.zero_le _, rfl⟩)
      | (refine ⟨k + 1, by omega, ?_⟩)
      | (refine And.intro ?_ ?_)
      | (intro hx; first | (cases hx; done) | (exfalso; revert hx; simp (disch := omega) only [decide_eq_true_eq, decide_eq_false_iff_not, Bool.not_eq_true', Bool.not_eq_false', Bool.and_eq_true, Bool.and_eq_false_iff, Int.not_lt, Int.not_le, ne_eq, not_false_eq_true, not_true_eq_false, reduceCtorEq, Bool.true_eq_false, Bool.false_eq_true, beq_iff_eq, bne_iff_ne, beq_eq_false_iff_ne, false_or, or_false, true_and, and_true]; done) | (simp (disch := omega) only [decide_eq_true_eq, decide_eq_false_iff_not, Bool.not_eq_true', Bool.not_eq_false', Bool.and_eq_true, Bool.and_eq_false_iff, Int.not_lt, Int.not_le, ne_eq, not_false_eq_true, not_true_eq_false, reduceCtorEq, Bool.true_eq_false, Bool.false_eq_true, beq_iff_eq, bne_iff_ne, beq_eq_false_iff_ne, false_or, or_false, true_and, and_true] at hx; first | (exfalso; omega) | skip) | skip)
      | trivial
      | exact fit_ofL _ _
      | (simp (disch := omega) only [notAgg_v, notAgg_sl, plain_v, fits, fitsOne, fitsCells, xsOf, cell_zero, cell_succ, List.range, List.range.loop, List.map, cond_true, cond_false, D.v.injEq, exists_eq', exists_eq, and_self, and_true, true_and, D.agg.injEq, List.length, exists_eq_left', D.sl.injEq, reduceCtorEq, false_or, true_or, or_true, or_false, cell_zero, cell_succ, cell_v, cells_v, cells_agg, List.length_cons, List.length_nil]; done))
    all_goals first
      | (exfalso; omega)
      | omega
      | (simp only [leftOf]; omega)
      | (simp; done)
      | (simp; omega)
      | fail

end Go.Proofs.Ytimfgdlkekghaaa