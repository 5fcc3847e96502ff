/-
  Layer 18: the law ArenaTells.
-/
import Derived.Test.YtlamjfdghhbkpaaT1
import Derived.Test.YtlamjfdghhbkpaaT2
import Derived.Test.YtlamjfdghhbkpaaT3
import Derived.Test.YtlamjfdghhbkpaaT4
import Derived.Test.YtlamjfdghhbkpaaT5
import Derived.Test.YtlamjfdghhbkpaaT6
import Derived.Test.YtlamjfdghhbkpaaT7
import Derived.Test.YtlamjfdghhbkpaaT8
import Derived.Test.YtlamjfdghhbkpaaT9
import Derived.Test.YtlamjfdghhbkpaaT10
import Derived.Test.YtlamjfdghhbkpaaT11
import Derived.Test.YtlamjfdghhbkpaaT12
namespace Go.Proofs.Ytlamjfdghhbkpaa
open Go.RowKit
set_option linter.unusedSimpArgs false
set_option linter.unusedVariables false


theorem sameS_iff (a b : List Cl) (f g u v : Int) : sameS a b f g u v = sameS a b f g u v := rfl
theorem spare_len (cs : List Cl) (f u : Int) : (spareF cs f u).length ≤ cs.length + 1 := by
  unfold spareF
  split
  · exact chL_len _ _ _
  · simp
theorem live_len (cs : List Cl) (f u : Int) : (liveF cs f u).length ≤ cs.length := by
  unfold liveF
  split
  · exact liveL_len _ _
  · simp
theorem sameIF_self (l : List Int) : sameIF l l = true := by simp [sameIF]

theorem vc_tells (x : D) (cs : List Cl) (f u : Int) (y : D) (ds : List Cl) (g v z : Int) : Cond Try.prog (fun _ => none) Try.f4 [.agg [x, .v (.int .i64 f), .v (.int .i64 u)], .agg [y, .v (.int .i64 g), .v (.int .i64 v)], .v (.int .i64 z)] [.v (.bool true)] = (((∃ (cs : List D), D.agg [x, D.v (Value.int IntKind.i64 f), D.v (Value.int IntKind.i64 u)] = D.agg cs ∧ cs.length = 3) ∧ (∃ (cs : List D), D.agg [y, D.v (Value.int IntKind.i64 g), D.v (Value.int IntKind.i64 v)] = D.agg cs ∧ cs.length = 3) ∧ NotAgg (D.v (Value.int IntKind.i64 z)) ∧ True) ∧ ∃ (r : D), D.lenT (TypeDesc.slice 63) x = some r ∧ ∃ (r_1 : D), D.bin BinOp.gtr r (D.v (Value.int IntKind.i64 80)) = some r_1 ∧ ∃ (b : Bool), r_1 = D.v (Value.bool b) ∧ (b = false → ∃ (r : D), D.lenT (TypeDesc.slice 63) y = some r ∧ ∃ (r_2 : D), D.bin BinOp.gtr r (D.v (Value.int IntKind.i64 80)) = some r_2 ∧ ∃ (b : Bool), r_2 = D.v (Value.bool b) ∧ (b = true → ∃ (r : D), PureD Try.prog 7 [] [r] ∧ fits [(false, [none])] [r] ∧ ((∃ (y : Value), r = D.v y) ∧ True) ∧ [r] = [D.v (Value.bool true)]) ∧ (b = false → ∃ (r : D), PureD Try.prog 8 [D.agg [x, D.v (Value.int IntKind.i64 f), D.v (Value.int IntKind.i64 u)]] [r] ∧ fits [(true, [some 3, none, none])] [r] ∧ ∃ (r_3 : D), ∃ (r_4 : D), PureD Try.prog 17 [D.agg [r.cell 0, r.cell 1, r.cell 2], D.v (Value.int IntKind.i64 z)] [r_3, r_4] ∧ fits [(false, [none]), (false, [none])] [r_3, r_4] ∧ ∃ (r_5 : D), ∃ (r_6 : D), PureD Try.prog 18 [D.agg [x, D.v (Value.int IntKind.i64 f), D.v (Value.int IntKind.i64 u)], D.v (Value.int IntKind.i64 z)] [r_5, r_6] ∧ fits [(false, [none]), (false, [none])] [r_5, r_6] ∧ ∃ (r_7 : D), PureD Try.prog 19 [D.agg [r.cell 0, r.cell 1, r.cell 2]] [r_7] ∧ fits [(false, [none])] [r_7] ∧ ∃ (r_8 : D), PureD Try.prog 20 [D.agg [x, D.v (Value.int IntKind.i64 f), D.v (Value.int IntKind.i64 u)]] [r_8] ∧ fits [(false, [none])] [r_8] ∧ ∃ (r_9 : D), D.bin BinOp.eql r_7 r_8 = some r_9 ∧ ∃ (b : Bool), r_9 = D.v (Value.bool b) ∧ (b = true → ∃ (r_10 : D), PureD Try.prog 22 [D.agg [r.cell 0, r.cell 1, r.cell 2]] [r_10] ∧ fits [(false, [some 1])] [r_10] ∧ ∃ (r_11 : D), PureD Try.prog 23 [D.agg [x, D.v (Value.int IntKind.i64 f), D.v (Value.int IntKind.i64 u)]] [r_11] ∧ fits [(false, [some 1])] [r_11] ∧ ∃ (r_12 : D), PureD Try.prog 21 [r_10, r_11] [r_12] ∧ fits [(false, [none])] [r_12] ∧ ∃ (b : Bool), r_12 = D.v (Value.bool b) ∧ (b = true → ∃ (r_13 : D), PureD Try.prog 24 [D.agg [r.cell 0, r.cell 1, r.cell 2]] [r_13] ∧ fits [(false, [some 1])] [r_13] ∧ ∃ (r_14 : D), PureD Try.prog 25 [D.agg [x, D.v (Value.int IntKind.i64 f), D.v (Value.int IntKind.i64 u)]] [r_14] ∧ fits [(false, [some 1])] [r_14] ∧ ∃ (r_15 : D), PureD Try.prog 21 [r_13, r_14] [r_15] ∧ fits [(false, [none])] [r_15] ∧ ∃ (b : Bool), r_15 = D.v (Value.bool b) ∧ (b = true → ∃ (r_16 : D), D.bin BinOp.eql r_3 r_5 = some r_16 ∧ ∃ (b : Bool), r_16 = D.v (Value.bool b) ∧ (b = true → ∃ (r_17 : D), r_4.beq r_6 = some r_17 ∧ ∃ (b : Bool), r_17 = D.v (Value.bool b) ∧ (b = true → ∃ (r_18 : D), PureD Try.prog 8 [D.agg [y, D.v (Value.int IntKind.i64 g), D.v (Value.int IntKind.i64 v)]] [r_18] ∧ fits [(true, [some 3, none, none])] [r_18] ∧ ∃ (r_19 : D), PureD Try.prog 26 [D.agg [r.cell 0, r.cell 1, r.cell 2], D.agg [r_18.cell 0, r_18.cell 1, r_18.cell 2]] [r_19] ∧ fits [(false, [none])] [r_19] ∧ ∃ (r : D), PureD Try.prog 15 [D.agg [x, D.v (Value.int IntKind.i64 f), D.v (Value.int IntKind.i64 u)], D.agg [y, D.v (Value.int IntKind.i64 g), D.v (Value.int IntKind.i64 v)]] [r] ∧ fits [(false, [none])] [r] ∧ ∃ (r_20 : D), r_19.beq r = some r_20 ∧ ∃ (b : Bool), r_20 = D.v (Value.bool b) ∧ (b = true → ∃ (r : D), PureD Try.prog 27 [] [r] ∧ fits [(true, [some 3, none, none])] [r] ∧ ∃ (r_21 : D), PureD Try.prog 16 [D.agg [r.cell 0, r.cell 1, r.cell 2]] [r_21] ∧ fits [(true, [some 3, none, none])] [r_21] ∧ ∃ (r : D), PureD Try.prog 28 [] [r] ∧ fits [(true, [some 3, none, none])] [r] ∧ ∃ (r_22 : D), PureD Try.prog 15 [D.agg [r_21.cell 0, r_21.cell 1, r_21.cell 2], D.agg [r.cell 0, r.cell 1, r.cell 2]] [r_22] ∧ fits [(false, [none])] [r_22] ∧ ∃ (b : Bool), r_22 = D.v (Value.bool b) ∧ (b = true → ∃ (r : D), PureD Try.prog 7 [] [r] ∧ fits [(false, [none])] [r] ∧ ((∃ (y : Value), r = D.v y) ∧ True) ∧ [r] = [D.v (Value.bool true)]) ∧ (b = false → (True ∧ True) ∧ [D.v (Value.bool false)] = [D.v (Value.bool true)])) ∧ (b = false → (True ∧ True) ∧ [D.v (Value.bool false)] = [D.v (Value.bool true)])) ∧ (b = false → (True ∧ True) ∧ [D.v (Value.bool false)] = [D.v (Value.bool true)])) ∧ (b = false → (True ∧ True) ∧ [D.v (Value.bool false)] = [D.v (Value.bool true)])) ∧ (b = false → (True ∧ True) ∧ [D.v (Value.bool false)] = [D.v (Value.bool true)])) ∧ (b = false → (True ∧ True) ∧ [D.v (Value.bool false)] = [D.v (Value.bool true)])) ∧ (b = false → (True ∧ True) ∧ [D.v (Value.bool false)] = [D.v (Value.bool true)]))) ∧ (b = true → ∃ (r : D), PureD Try.prog 7 [] [r] ∧ fits [(false, [none])] [r] ∧ ((∃ (y : Value), r = D.v y) ∧ True) ∧ [r] = [D.v (Value.bool true)])) := by kernel_rfl
set_option maxHeartbeats 16000000 in
theorem tells (x : D) (cs : List Cl) (f u : Int) (y : D) (ds : List Cl) (g v z : Int) (hX : IsL 3 (cls cs) x) (hY : IsL 3 (cls ds) y) : PureD Try.prog 4 [.agg [x, .v (.int .i64 f), .v (.int .i64 u)], .agg [y, .v (.int .i64 g), .v (.int .i64 v)], .v (.int .i64 z)] [.v (.bool true)] := by
  refine pure_cond (Lp := (fun _ => none)) (by kernel_rfl) Try.func4 (by kernel_rfl) (by kernel_rfl) ?_
  rw [vc_tells x cs f u y ds g v z]
  by_cases hl8 : cs.length ≤ 80 ∧ ds.length ≤ 80
  · skip
    have hl : cs.length ≤ 100000 := by omega
    have hk : ds.length ≤ 100000 := by omega
    have hO := isO cs
    have hOD := isO ds
    have OWN := ownC x cs f u hX hl
    have OWD := ownC y ds g v hY hk
    have T1 := get (ofL 3 (cls cs)) cs f u z hO hl
    have T2 := rget x cs f u z hX hl
    have C1 := check (ofL 3 (cls cs)) cs f u hO hl
    have C2 := rcheck x cs f u hX hl
    have L1 := live (ofL 3 (cls cs)) cs f u hO hl
    have L2 := rlive x cs f u hX hl
    have ll := live_len cs f u
    have L3 := sameI (ofL 1 (ints .i64 (liveF cs f u))) (ofL 1 (ints .i64 (liveF cs f u))) (liveF cs f u) (liveF cs f u) (isL_ofL _ _) (isL_ofL _ _) (by omega) (by omega)
    have S1 := spare (ofL 3 (cls cs)) cs f u hO hl
    have S2 := rspare x cs f u hX hl
    have sl := spare_len cs f u
    have S3 := sameI (ofL 1 (ints .i64 (spareF cs f u))) (ofL 1 (ints .i64 (spareF cs f u))) (spareF cs f u) (spareF cs f u) (isL_ofL _ _) (isL_ofL _ _) (by omega) (by omega)
    have M1 := same (ofL 3 (cls cs)) (ofL 3 (cls ds)) cs ds f u g v hO hOD hl hk
    have M2 := rsame x y cs ds f u g v hX hY hl hk
    have BN := backC (.v nilS) [] (-1) 0 (.inr ⟨rfl, rfl⟩) (by simp)
    have MN := rsame (ofL 3 (cls [])) (.v nilS) [] [] (-1) 0 (-1) 0 (isO _) (.inr ⟨rfl, rfl⟩) (by simp) (by simp)
    have hck := chk_cases cs f u
    rw [same_self] at MN
    rw [sameIF_self] at L3 S3
    generalize findB cs f u z = fb at T1 T2
    generalize sameS cs ds f g u v = sb at M1 M2
    simp only [hX.notAgg, hX.lenT, hY.notAgg, hY.lenT, cls_len, Option.some.injEq, exists_eq_left']
    repeat' (first
      | (refine ex_some (by simp (disch := omega) only [bin_shr, bin_shl, bin_and, bin_or, bin_xor, len_str, toStr_ofL, bin_add, bin_sub, bin_mul, bin_quo, bin_rem, bin_lss, bin_leq, bin_gtr, bin_geq, bin_eql, bin_neq, eqs_cn, eqs_ci, eqs_cb, eqs_cs, Option.map_some, lenT_ofL, lst_ofL, lstSz_ofL, chunk_one, lst_nil, lst_sl, lstSz_sl, lstSz_nil, Bool.and_true, Bool.true_and, Bool.and_false, Bool.false_and, beq_self_eq_true, beq_bb, bne_bb, un_not, un_neg, conv_int, min2_int, max2_int, w64, w32, wu8, wu16, wu32, wu64, tdiv_nn, tmod_nn, cell_zero, cell_succ, cell_v, cells_v, cells_agg, Bool.not_true, Bool.not_false, Int.reduceLT, Int.reduceLE, Int.reduceEq, Int.reduceNeg, Int.reduceAdd, Int.reduceSub, Int.reduceMul, intOf_v, decide_true, decide_false]; rfl) ?_)
      | (refine ex_bool ?_)
      | (refine ⟨_, awake, ?_⟩)
      | (refine ⟨_, new, ?_⟩)
      | (refine ⟨_, rnew, ?_⟩)
      | (refine ⟨_, OWN, ?_⟩)
      | (refine ⟨_, OWD, ?_⟩)
      | (refine ⟨_, _, T1, ?_⟩)
      | (refine ⟨_, _, T2, ?_⟩)
      | (refine ⟨_, C1, ?_⟩)
      | (refine ⟨_, C2, ?_⟩)
      | (refine ⟨_, L1, ?_⟩)
      | (refine ⟨_, L2, ?_⟩)
      | (refine ⟨_, L3, ?_⟩)
      | (refine ⟨_, S1, ?_⟩)
      | (refine ⟨_, S2, ?_⟩)
      | (refine ⟨_, S3, ?_⟩)
      | (refine ⟨_, M1, ?_⟩)
      | (refine ⟨_, M2, ?_⟩)
      | (refine ⟨_, BN, ?_⟩)
      | (refine ⟨_, MN, ?_⟩)
      | (refine And.intro ?_ ?_)
      | (intro hx; first | (cases hx; done) | (exfalso; revert hx; simp (disch := omega) only [decide_eq_true_eq, decide_eq_false_iff_not, Bool.not_eq_true', Bool.not_eq_false', Bool.and_eq_true, Bool.and_eq_false_iff, Int.not_lt, Int.not_le, ne_eq, not_false_eq_true, not_true_eq_false, reduceCtorEq, Bool.true_eq_false, Bool.false_eq_true, beq_iff_eq, bne_iff_ne, beq_eq_false_iff_ne, false_or, or_false, true_and, and_true]; done) | (simp (disch := omega) only [decide_eq_true_eq, decide_eq_false_iff_not, Bool.not_eq_true', Bool.not_eq_false', Bool.and_eq_true, Bool.and_eq_false_iff, Int.not_lt, Int.not_le, ne_eq, not_false_eq_true, not_true_eq_false, reduceCtorEq, Bool.true_eq_false, Bool.false_eq_true, beq_iff_eq, bne_iff_ne, beq_eq_false_iff_ne, false_or, or_false, true_and, and_true] at hx; first | (exfalso; omega) | skip) | skip)
      | trivial
      | exact fit_ofL _ _
      | (simp (disch := omega) only [notAgg_v, notAgg_sl, plain_v, fits, fitsOne, fitsCells, xsOf, cell_zero, cell_succ, List.range, List.range.loop, List.map, cond_true, cond_false, D.v.injEq, exists_eq', exists_eq, and_self, and_true, true_and, D.agg.injEq, List.length, exists_eq_left', D.sl.injEq, reduceCtorEq, false_or, true_or, or_true, or_false, cell_zero, cell_succ, cell_v, cells_v, cells_agg, List.length_cons, List.length_nil]; done))
    all_goals first
      | (exfalso; omega)
      | omega
      | rfl
      | exact fit_ofL _ _
      | exact ⟨_, rfl⟩
      | exact .inl rfl
      | exact ⟨_, rfl, rfl⟩
      | exact fitC hX
      | exact plainC hX
      | exact plainS hX
      | exact plainO
      | exact fitRe (isO _)
      | exact fitRe hX
      | (simp only [cell_zero]; first | exact fitRe hX | exact plainS hX)
      | (simp; done)
      | fail
  · simp only [hX.notAgg, hX.lenT, hY.notAgg, hY.lenT, cls_len, Option.some.injEq, exists_eq_left']
    repeat' (first
      | (refine ex_some (by simp (disch := omega) only [bin_shr, bin_shl, bin_and, bin_or, bin_xor, len_str, toStr_ofL, bin_add, bin_sub, bin_mul, bin_quo, bin_rem, bin_lss, bin_leq, bin_gtr, bin_geq, bin_eql, bin_neq, eqs_cn, eqs_ci, eqs_cb, eqs_cs, Option.map_some, lenT_ofL, lst_ofL, lstSz_ofL, chunk_one, lst_nil, lst_sl, lstSz_sl, lstSz_nil, Bool.and_true, Bool.true_and, Bool.and_false, Bool.false_and, beq_self_eq_true, beq_bb, bne_bb, un_not, un_neg, conv_int, min2_int, max2_int, w64, w32, wu8, wu16, wu32, wu64, tdiv_nn, tmod_nn, cell_zero, cell_succ, cell_v, cells_v, cells_agg, Bool.not_true, Bool.not_false, Int.reduceLT, Int.reduceLE, Int.reduceEq, Int.reduceNeg, Int.reduceAdd, Int.reduceSub, Int.reduceMul, intOf_v, decide_true, decide_false]; rfl) ?_)
      | (refine ex_bool ?_)
      | (refine ⟨_, awake, ?_⟩)
      | (refine And.intro ?_ ?_)
      | (intro hx; first | (cases hx; done) | (exfalso; revert hx; simp (disch := omega) only [decide_eq_true_eq, decide_eq_false_iff_not, Bool.not_eq_true', Bool.not_eq_false', Bool.and_eq_true, Bool.and_eq_false_iff, Int.not_lt, Int.not_le, ne_eq, not_false_eq_true, not_true_eq_false, reduceCtorEq, Bool.true_eq_false, Bool.false_eq_true, beq_iff_eq, bne_iff_ne, beq_eq_false_iff_ne, false_or, or_false, true_and, and_true]; done) | (simp (disch := omega) only [decide_eq_true_eq, decide_eq_false_iff_not, Bool.not_eq_true', Bool.not_eq_false', Bool.and_eq_true, Bool.and_eq_false_iff, Int.not_lt, Int.not_le, ne_eq, not_false_eq_true, not_true_eq_false, reduceCtorEq, Bool.true_eq_false, Bool.false_eq_true, beq_iff_eq, bne_iff_ne, beq_eq_false_iff_ne, false_or, or_false, true_and, and_true] at hx; first | (exfalso; omega) | skip) | skip)
      | trivial
      | exact fit_ofL _ _
      | (simp (disch := omega) only [notAgg_v, notAgg_sl, plain_v, fits, fitsOne, fitsCells, xsOf, cell_zero, cell_succ, List.range, List.range.loop, List.map, cond_true, cond_false, D.v.injEq, exists_eq', exists_eq, and_self, and_true, true_and, D.agg.injEq, List.length, exists_eq_left', D.sl.injEq, reduceCtorEq, false_or, true_or, or_true, or_false, cell_zero, cell_succ, cell_v, cells_v, cells_agg, List.length_cons, List.length_nil]; done))
    all_goals first
      | (exfalso; omega)
      | omega
      | rfl
      | exact fit_ofL _ _
      | exact ⟨_, rfl⟩
      | exact .inl rfl
      | exact ⟨_, rfl, rfl⟩
      | exact fitC hX
      | exact plainC hX
      | exact plainS hX
      | exact plainO
      | exact fitRe (isO _)
      | exact fitRe hX
      | (simp only [cell_zero]; first | exact fitRe hX | exact plainS hX)
      | (simp; done)
      | fail


theorem law_ArenaTells (xs : List D) (h : All2 TypedA [(true, [.sl true [.bool, .int .i64, .int .i64], .int .i64, .int .i64]), (true, [.sl true [.bool, .int .i64, .int .i64], .int .i64, .int .i64]), (false, [.int .i64])] xs) : PureD Try.prog 4 xs [.v (.bool true)] := by
  obtain ⟨x, xs, rfl, hx, h⟩ := h.cons_
  obtain ⟨y, xs, rfl, hy, h⟩ := h.cons_
  obtain ⟨z, xs, rfl, hz, h⟩ := h.cons_
  obtain rfl := h.nil_
  obtain ⟨x, cs, f, u, rfl, hX⟩ := typed_st hx
  obtain ⟨y, ds, g, v, rfl, hY⟩ := typed_st hy
  obtain ⟨q, rfl, _⟩ := hz.one.int_
  exact tells x cs f u y ds g v q hX hY

end Go.Proofs.Ytlamjfdghhbkpaa