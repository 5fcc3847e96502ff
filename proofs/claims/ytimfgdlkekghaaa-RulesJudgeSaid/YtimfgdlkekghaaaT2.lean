/-
  Layer 17: the worst of many.
-/
import Derived.Test.YtimfgdlkekghaaaT1
namespace Go.Proofs.Ytimfgdlkekghaaa
open Go.RowKit
set_option linter.unusedSimpArgs false
set_option linter.unusedVariables false


def wst (s : Int × Int) (z : Int × Int) : Int × Int := wo s (jd z.1 z.2)
def wsF (l : List (Int × Int)) : Int × Int := l.foldl wst (0, 0)
theorem wsF_snoc (l : List (Int × Int)) (z : Int × Int) : wsF (l ++ [z]) = wst (wsF l) z := by simp [wsF]
theorem ws_bd (l : List (Int × Int)) : 0 ≤ (wsF l).1 ∧ (wsF l).1 ≤ 3 ∧ 0 ≤ (wsF l).2 ∧ (wsF l).2 ≤ 5 := by
  have : ∀ (l : List (Int × Int)) (s : Int × Int), (0 ≤ s.1 ∧ s.1 ≤ 3 ∧ 0 ≤ s.2 ∧ s.2 ≤ 5) → (0 ≤ (l.foldl wst s).1 ∧ (l.foldl wst s).1 ≤ 3 ∧ 0 ≤ (l.foldl wst s).2 ∧ (l.foldl wst s).2 ≤ 5) := by
    intro l
    induction l with
    | nil => intro s h; exact h
    | cons z l ih =>
      intro s h
      refine ih _ ?_
      have := jd_bd z.1 z.2
      unfold wst wo
      split <;> assumption
  exact this l (0, 0) ⟨by decide, by decide, by decide, by decide⟩
def pairUp (a b : List Int) : List (Int × Int) := a.zip b
theorem pair_len (a b : List Int) : (pairUp a b).length = min a.length b.length := List.length_zip
theorem pair_take (a b : List Int) {k : Nat} (h1 : k < a.length) (h2 : k < b.length) : (pairUp a b).take (k + 1) = (pairUp a b).take k ++ [(a.getD k 0, b.getD k 0)] := by
  have h : k < (pairUp a b).length := by rw [pair_len]; omega
  rw [List.take_succ_eq_append_getElem h]
  simp [pairUp, List.getD, h1, h2]
def leftOf (n : Nat) : List D → Nat
  | .v (.int _ i) :: _ => n - i.toNat
  | _ => 0

theorem vc_worst (x y : D) (xs ys : List Int) : Cond Try.prog (fun k => if k = 3 then some ⟨[12], [], [0, 1, 4, 5, 11], [(5, [0, 1], [])]⟩ else none) Try.f16 [x, y] [.agg [.v (.int .i64 (wsF (pairUp xs ys)).1), .v (.int .u32 (wsF (pairUp xs ys)).2)]] = ((NotAgg x ∧ NotAgg y ∧ True) ∧ ∃ (r : D), D.lenT (TypeDesc.slice 5) x = some r ∧ ∃ (r_1 : D), D.lenT (TypeDesc.slice 5) y = some r_1 ∧ ∃ (r_2 : D), r.min2 r_1 = some r_2 ∧ ∃ (I : List D → Prop), ∃ (μ : List D → Nat), ((D.v (Value.int IntKind.i64 0) = D.v (Value.int IntKind.i64 0) ∧ x = x ∧ y = y ∧ (true = true ∧ true = true) ∧ (true = true ∧ true = true) ∧ r_2 = r_2 ∧ True) ∧ ((D.v (Value.int IntKind.i64 0) = D.v (Value.int IntKind.i64 0) ∧ D.v (Value.int IntKind.u32 0) = D.v (Value.int IntKind.u32 0) ∧ True) ∧ (D.v (Value.int IntKind.i64 0) = D.v (Value.int IntKind.i64 0) ∧ D.v (Value.int IntKind.u32 0) = D.v (Value.int IntKind.u32 0) ∧ True) ∧ True) ∧ I [D.v (Value.int IntKind.i64 0), D.v (Value.int IntKind.i64 0), D.v (Value.int IntKind.u32 0)]) ∧ ∀ (r r_3 r_4 : D), I [r, r_3, r_4] → ∃ (r_5 : D), D.bin BinOp.lss r r_2 = some r_5 ∧ ∃ (b : Bool), r_5 = D.v (Value.bool b) ∧ (b = true → D.inb 1 x r ∧ 0 + 1 ≤ (x.at_ r).cells.length ∧ D.inb 1 y r ∧ 0 + 1 ≤ (y.at_ r).cells.length ∧ ∃ (r_6 : D), PureD Try.prog 7 [(x.at_ r).cell 0, (y.at_ r).cell 0] [r_6] ∧ fits [(true, [none, none])] [r_6] ∧ ∃ (r_7 : D), PureD Try.prog 11 [D.agg [r_3, r_4], D.agg [r_6.cell 0, r_6.cell 1]] [r_7] ∧ fits [(true, [none, none])] [r_7] ∧ ∃ (r_8 : D), D.bin BinOp.add r (D.v (Value.int IntKind.i64 1)) = some r_8 ∧ (r_8 = r_8 ∧ x = x ∧ y = y ∧ (true = true ∧ true = true) ∧ (true = true ∧ true = true) ∧ r_2 = r_2 ∧ True) ∧ ((r_7.cell 0 = r_7.cell 0 ∧ r_7.cell 1 = r_7.cell 1 ∧ True) ∧ (D.v (Value.int IntKind.i64 0) = D.v (Value.int IntKind.i64 0) ∧ D.v (Value.int IntKind.u32 0) = D.v (Value.int IntKind.u32 0) ∧ True) ∧ True) ∧ I [r_8, r_7.cell 0, r_7.cell 1] ∧ μ [r_8, r_7.cell 0, r_7.cell 1] < μ [r, r_3, r_4]) ∧ (b = false → ((∃ (y : Value), r_3 = D.v y) ∧ (∃ (y : Value), r_4 = D.v y) ∧ True) ∧ [D.agg [r_3, r_4]] = [D.agg [D.v (Value.int IntKind.i64 (wsF (pairUp xs ys)).fst), D.v (Value.int IntKind.u32 (wsF (pairUp xs ys)).snd)]])) := by kernel_rfl
theorem worst (x y : D) (xs ys : List Int) (hX : IsL 1 (ints .u8 xs) x) (hY : IsL 1 (ints .u8 ys) y) (hxs : ∀ z ∈ xs, 0 ≤ z ∧ z < 256) (hys : ∀ z ∈ ys, 0 ≤ z ∧ z < 256) (ha : xs.length ≤ 9223372036854775807) (hb : ys.length ≤ 9223372036854775807) : PureD Try.prog 16 [x, y] [.agg [.v (.int .i64 (wsF (pairUp xs ys)).1), .v (.int .u32 (wsF (pairUp xs ys)).2)]] := by
  refine pure_cond (Lp := (fun k => if k = 3 then some ⟨[12], [], [0, 1, 4, 5, 11], [(5, [0, 1], [])]⟩ else none)) (by kernel_rfl) Try.func16 (by kernel_rfl) (by kernel_rfl) ?_
  rw [vc_worst]
  simp only [hX.notAgg, hY.notAgg, hX.lenT, hY.lenT, ints_length, bin_add, bin_sub, bin_mul, bin_quo, bin_rem, bin_lss, bin_leq, bin_gtr, bin_geq, bin_eql, bin_neq, notAgg_v, notAgg_sl, plain_v, lst_nil, lst_sl, lstSz_sl, lstSz_nil, chunk_one, ex_eqs_nil, ex_eqs_i, ex_eqs_b, ex_eqs_s, Bool.and_true, Bool.true_and, Bool.and_false, Bool.false_and, Bool.and_eq_true, Bool.and_eq_false_iff, beq_self_eq_true, beq_bb, bne_bb, un_not, un_neg, conv_int, min2_int, max2_int, w64, w32, wu8, wu16, wu32, wu64, tdiv_nn, tmod_nn, cell_zero, cell_succ, Option.some.injEq, D.v.injEq, D.agg.injEq, D.sl.injEq, Value.bool.injEq, Value.int.injEq, Value.string.injEq, List.cons.injEq, exists_eq_left', exists_eq_left, exists_eq', exists_eq, true_and, and_true, decide_eq_true_eq, decide_eq_false_iff_not, Bool.not_eq_true', Bool.not_eq_false', Bool.not_true, Bool.not_false, Int.not_lt, Int.not_le, ne_eq, not_false_eq_true, not_true_eq_false, reduceCtorEq, false_and, and_false, forall_const, false_implies, true_implies, implies_true, Int.reduceLT, Int.reduceLE, Int.reduceEq, Int.reduceNeg, decide_true, decide_false, Bool.true_eq_false, Bool.false_eq_true, and_self, if_true, if_false]
  repeat' (first
    | (refine ex_some (by simp (disch := omega) only [bin_add, bin_sub, bin_mul, bin_quo, bin_rem, bin_lss, bin_leq, bin_gtr, bin_geq, bin_eql, bin_neq, eqs_cn, eqs_ci, eqs_cb, eqs_cs, Option.map_some, lenT_ofL, lst_ofL, lstSz_ofL, chunk_one, lst_nil, lst_sl, lstSz_sl, lstSz_nil, Bool.and_true, Bool.true_and, Bool.and_false, Bool.false_and, beq_self_eq_true, beq_bb, bne_bb, un_not, un_neg, conv_int, min2_int, max2_int, w64, w32, wu8, wu16, wu32, wu64, tdiv_nn, tmod_nn, cell_zero, cell_succ, cell_v, cells_v, cells_agg, Bool.not_true, Bool.not_false, Int.reduceLT, Int.reduceLE, Int.reduceEq, Int.reduceNeg, Int.reduceAdd, Int.reduceSub, Int.reduceMul, intOf_v, decide_true, decide_false, h1, h2]; rfl) ?_)
    | (refine ex_bool ?_)
    | (refine ⟨(fun l => ∃ k : Nat, k ≤ min xs.length ys.length ∧ l = [.v (.int .i64 (k : Nat)), .v (.int .i64 (wsF ((pairUp xs ys).take k)).1), .v (.int .u32 (wsF ((pairUp xs ys).take k)).2)]), leftOf (min xs.length ys.length), ?_⟩)
    | (refine fun (r2 r3 r4 : D) (hI : (fun l => ∃ k : Nat, k ≤ min xs.length ys.length ∧ l = [.v (.int .i64 (k : Nat)), .v (.int .i64 (wsF ((pairUp xs ys).take k)).1), .v (.int .u32 (wsF ((pairUp xs ys).take k)).2)]) [r2, r3, r4]) => ?_; obtain ⟨k, hk, hl⟩ := hI; simp only [List.cons.injEq, and_true] at hl; obtain ⟨rfl, rfl, rfl⟩ := hl; by_cases hlt : k < min xs.length ys.length <;> first | (generalize hR : wsF ((pairUp xs ys).take k) = R; obtain ⟨v1, v2⟩ := R; have hk1 : k < xs.length := (by omega); have hk2 : k < ys.length := (by omega); have h1 := hX.at_ints hk1; have h2 := hY.at_ints hk2; have i1 := hX.inb_ints hk1; have i2 := hY.inb_ints hk2; have z1 := hxs (xs.getD k 0) (by simp [List.getD, hk1]); have z2 := hys (ys.getD k 0) (by simp [List.getD, hk2]); have hs : wsF ((pairUp xs ys).take (k + 1)) = wo (v1, v2) (jd (xs.getD k 0) (ys.getD k 0)) := (by rw [pair_take xs ys hk1 hk2, wsF_snoc, hR]; rfl); generalize hq : jd (xs.getD k 0) (ys.getD k 0) = q at hs; obtain ⟨q1, q2⟩ := q; have C1 := judge _ _ z1.1 z1.2 z2.1 z2.2; rw [hq] at C1; simp only [h1, h2, cell_v, cells_v]; have h3 : True := trivial) | (have h1 : True := trivial; have h2 : True := trivial; have h3 : wsF ((pairUp xs ys).take k) = wsF (pairUp xs ys) := (by rw [List.take_of_length_le (by rw [pair_len]; omega)])))
    | (exact i1)
    | (exact i2)
    | (refine ⟨_, C1, ?_⟩)
    | (refine ⟨_, worse _ _ _ _, ?_⟩)
    | (exact ⟨0, Nat.zero_le _, rfl⟩)
    | (refine ⟨k + 1, by omega, ?_⟩)
    | (refine And.intro ?_ ?_)
    | (intro hx; first | (cases hx; done) | (exfalso; revert hx; simp (disch := omega) only [decide_eq_true_eq, decide_eq_false_iff_not, Bool.not_eq_true', Bool.not_eq_false', Bool.and_eq_true, Bool.and_eq_false_iff, Int.not_lt, Int.not_le, ne_eq, not_false_eq_true, not_true_eq_false, reduceCtorEq, Bool.true_eq_false, Bool.false_eq_true, beq_iff_eq, bne_iff_ne, beq_eq_false_iff_ne, false_or, or_false, true_and, and_true, h1, h2]; done) | (simp (disch := omega) only [decide_eq_true_eq, decide_eq_false_iff_not, Bool.not_eq_true', Bool.not_eq_false', Bool.and_eq_true, Bool.and_eq_false_iff, Int.not_lt, Int.not_le, ne_eq, not_false_eq_true, not_true_eq_false, reduceCtorEq, Bool.true_eq_false, Bool.false_eq_true, beq_iff_eq, bne_iff_ne, beq_eq_false_iff_ne, false_or, or_false, true_and, and_true, h1, h2] at hx; first | (exfalso; omega) | skip) | skip)
    | trivial
    | exact fit_ofL _ _
    | (simp (disch := omega) only [notAgg_v, notAgg_sl, plain_v, fits, fitsOne, fitsCells, xsOf, cell_zero, cell_succ, List.range, List.range.loop, List.map, cond_true, cond_false, D.v.injEq, exists_eq', exists_eq, and_self, and_true, true_and, D.agg.injEq, List.length, exists_eq_left', D.sl.injEq, reduceCtorEq, false_or, true_or, or_true, or_false, cell_zero, cell_succ, cell_v, cells_v, cells_agg, List.length_cons, List.length_nil, h1, h2]; done))
  all_goals first
    | (exfalso; omega)
    | omega
    | (simp only [leftOf]; omega)
    | (rw [hs]; rfl)
    | (rw [h3]; done)
    | (simp [h3]; done)
    | fail

theorem vc_rworst (x y : D) (xs ys : List Int) : Cond Try.prog (fun k => if k = 3 then some ⟨[6], [], [0, 1, 4, 5], [(5, [0, 1], [])]⟩ else none) Try.f17 [x, y] [.agg [.v (.int .i64 (wsF (pairUp xs ys)).1), .v (.int .i64 (wsF (pairUp xs ys)).2)]] = ((NotAgg x ∧ NotAgg y ∧ True) ∧ ∃ (I : List D → Prop), ∃ (μ : List D → Nat), ((D.v (Value.int IntKind.i64 0) = D.v (Value.int IntKind.i64 0) ∧ x = x ∧ y = y ∧ (true = true ∧ true = true) ∧ (true = true ∧ true = true) ∧ True) ∧ ((D.v (Value.int IntKind.i64 0) = D.v (Value.int IntKind.i64 0) ∧ D.v (Value.int IntKind.i64 0) = D.v (Value.int IntKind.i64 0) ∧ True) ∧ (D.v (Value.int IntKind.i64 0) = D.v (Value.int IntKind.i64 0) ∧ D.v (Value.int IntKind.i64 0) = D.v (Value.int IntKind.i64 0) ∧ True) ∧ True) ∧ I [D.v (Value.int IntKind.i64 0), D.v (Value.int IntKind.i64 0), D.v (Value.int IntKind.i64 0)]) ∧ ∀ (r r_1 r_2 : D), I [r, r_1, r_2] → ∃ (r_3 : D), D.lenT (TypeDesc.slice 5) x = some r_3 ∧ ∃ (r_4 : D), D.bin BinOp.lss r r_3 = some r_4 ∧ ∃ (b : Bool), r_4 = D.v (Value.bool b) ∧ (b = true → ∃ (r_5 : D), D.lenT (TypeDesc.slice 5) y = some r_5 ∧ ∃ (r_6 : D), D.bin BinOp.lss r r_5 = some r_6 ∧ ∃ (b : Bool), r_6 = D.v (Value.bool b) ∧ (b = true → D.inb 1 x r ∧ 0 + 1 ≤ (x.at_ r).cells.length ∧ D.inb 1 y r ∧ 0 + 1 ≤ (y.at_ r).cells.length ∧ ∃ (r_7 : D), PureD Try.prog 8 [(x.at_ r).cell 0, (y.at_ r).cell 0] [r_7] ∧ fits [(true, [none, none])] [r_7] ∧ ∃ (r_8 : D), PureD Try.prog 12 [D.agg [r_1, r_2], D.agg [r_7.cell 0, r_7.cell 1]] [r_8] ∧ fits [(true, [none, none])] [r_8] ∧ ∃ (r_9 : D), D.bin BinOp.add r (D.v (Value.int IntKind.i64 1)) = some r_9 ∧ (r_9 = r_9 ∧ x = x ∧ y = y ∧ (true = true ∧ true = true) ∧ (true = true ∧ true = true) ∧ True) ∧ ((r_8.cell 0 = r_8.cell 0 ∧ r_8.cell 1 = r_8.cell 1 ∧ True) ∧ (D.v (Value.int IntKind.i64 0) = D.v (Value.int IntKind.i64 0) ∧ D.v (Value.int IntKind.i64 0) = D.v (Value.int IntKind.i64 0) ∧ True) ∧ True) ∧ I [r_9, r_8.cell 0, r_8.cell 1] ∧ μ [r_9, r_8.cell 0, r_8.cell 1] < μ [r, r_1, r_2]) ∧ (b = false → ((∃ (y : Value), r_1 = D.v y) ∧ (∃ (y : Value), r_2 = D.v y) ∧ True) ∧ [D.agg [r_1, r_2]] = [D.agg [D.v (Value.int IntKind.i64 (wsF (pairUp xs ys)).fst), D.v (Value.int IntKind.i64 (wsF (pairUp xs ys)).snd)]])) ∧ (b = false → ((∃ (y : Value), r_1 = D.v y) ∧ (∃ (y : Value), r_2 = D.v y) ∧ True) ∧ [D.agg [r_1, r_2]] = [D.agg [D.v (Value.int IntKind.i64 (wsF (pairUp xs ys)).fst), D.v (Value.int IntKind.i64 (wsF (pairUp xs ys)).snd)]])) := by kernel_rfl
theorem rworst (x y : D) (xs ys : List Int) (hX : IsL 1 (ints .u8 xs) x) (hY : IsL 1 (ints .u8 ys) y) (hxs : ∀ z ∈ xs, 0 ≤ z ∧ z < 256) (hys : ∀ z ∈ ys, 0 ≤ z ∧ z < 256) (ha : xs.length ≤ 9223372036854775807) (hb : ys.length ≤ 9223372036854775807) : PureD Try.prog 17 [x, y] [.agg [.v (.int .i64 (wsF (pairUp xs ys)).1), .v (.int .i64 (wsF (pairUp xs ys)).2)]] := by
  refine pure_cond (Lp := (fun k => if k = 3 then some ⟨[6], [], [0, 1, 4, 5], [(5, [0, 1], [])]⟩ else none)) (by kernel_rfl) Try.func17 (by kernel_rfl) (by kernel_rfl) ?_
  rw [vc_rworst]
  simp only [hX.notAgg, hY.notAgg, hX.lenT, hY.lenT, ints_length, bin_add, bin_sub, bin_mul, bin_quo, bin_rem, bin_lss, bin_leq, bin_gtr, bin_geq, bin_eql, bin_neq, notAgg_v, notAgg_sl, plain_v, lst_nil, lst_sl, lstSz_sl, lstSz_nil, chunk_one, ex_eqs_nil, ex_eqs_i, ex_eqs_b, ex_eqs_s, Bool.and_true, Bool.true_and, Bool.and_false, Bool.false_and, Bool.and_eq_true, Bool.and_eq_false_iff, beq_self_eq_true, beq_bb, bne_bb, un_not, un_neg, conv_int, min2_int, max2_int, w64, w32, wu8, wu16, wu32, wu64, tdiv_nn, tmod_nn, cell_zero, cell_succ, Option.some.injEq, D.v.injEq, D.agg.injEq, D.sl.injEq, Value.bool.injEq, Value.int.injEq, Value.string.injEq, List.cons.injEq, exists_eq_left', exists_eq_left, exists_eq', exists_eq, true_and, and_true, decide_eq_true_eq, decide_eq_false_iff_not, Bool.not_eq_true', Bool.not_eq_false', Bool.not_true, Bool.not_false, Int.not_lt, Int.not_le, ne_eq, not_false_eq_true, not_true_eq_false, reduceCtorEq, false_and, and_false, forall_const, false_implies, true_implies, implies_true, Int.reduceLT, Int.reduceLE, Int.reduceEq, Int.reduceNeg, decide_true, decide_false, Bool.true_eq_false, Bool.false_eq_true, and_self, if_true, if_false]
  repeat' (first
    | (refine ex_some (by simp (disch := omega) only [bin_add, bin_sub, bin_mul, bin_quo, bin_rem, bin_lss, bin_leq, bin_gtr, bin_geq, bin_eql, bin_neq, eqs_cn, eqs_ci, eqs_cb, eqs_cs, Option.map_some, lenT_ofL, lst_ofL, lstSz_ofL, chunk_one, lst_nil, lst_sl, lstSz_sl, lstSz_nil, Bool.and_true, Bool.true_and, Bool.and_false, Bool.false_and, beq_self_eq_true, beq_bb, bne_bb, un_not, un_neg, conv_int, min2_int, max2_int, w64, w32, wu8, wu16, wu32, wu64, tdiv_nn, tmod_nn, cell_zero, cell_succ, cell_v, cells_v, cells_agg, Bool.not_true, Bool.not_false, Int.reduceLT, Int.reduceLE, Int.reduceEq, Int.reduceNeg, Int.reduceAdd, Int.reduceSub, Int.reduceMul, intOf_v, decide_true, decide_false, h1, h2]; rfl) ?_)
    | (refine ex_bool ?_)
    | (refine ⟨(fun l => ∃ k : Nat, k ≤ min xs.length ys.length ∧ l = [.v (.int .i64 (k : Nat)), .v (.int .i64 (wsF ((pairUp xs ys).take k)).1), .v (.int .i64 (wsF ((pairUp xs ys).take k)).2)]), leftOf (min xs.length ys.length), ?_⟩)
    | (refine fun (r2 r3 r4 : D) (hI : (fun l => ∃ k : Nat, k ≤ min xs.length ys.length ∧ l = [.v (.int .i64 (k : Nat)), .v (.int .i64 (wsF ((pairUp xs ys).take k)).1), .v (.int .i64 (wsF ((pairUp xs ys).take k)).2)]) [r2, r3, r4]) => ?_; obtain ⟨k, hk, hl⟩ := hI; simp only [List.cons.injEq, and_true] at hl; obtain ⟨rfl, rfl, rfl⟩ := hl; by_cases hlt : k < min xs.length ys.length <;> first | (generalize hR : wsF ((pairUp xs ys).take k) = R; obtain ⟨v1, v2⟩ := R; have hk1 : k < xs.length := (by omega); have hk2 : k < ys.length := (by omega); have h1 := hX.at_ints hk1; have h2 := hY.at_ints hk2; have i1 := hX.inb_ints hk1; have i2 := hY.inb_ints hk2; have z1 := hxs (xs.getD k 0) (by simp [List.getD, hk1]); have z2 := hys (ys.getD k 0) (by simp [List.getD, hk2]); have hs : wsF ((pairUp xs ys).take (k + 1)) = wo (v1, v2) (jd (xs.getD k 0) (ys.getD k 0)) := (by rw [pair_take xs ys hk1 hk2, wsF_snoc, hR]; rfl); generalize hq : jd (xs.getD k 0) (ys.getD k 0) = q at hs; obtain ⟨q1, q2⟩ := q; have C1 := rjudge _ _ z1.1 z1.2 z2.1 z2.2; rw [hq] at C1; simp only [h1, h2, cell_v, cells_v]; have h3 : True := trivial) | (have h1 : True := trivial; have h2 : True := trivial; have h3 : wsF ((pairUp xs ys).take k) = wsF (pairUp xs ys) := (by rw [List.take_of_length_le (by rw [pair_len]; omega)])))
    | (exact i1)
    | (exact i2)
    | (refine ⟨_, C1, ?_⟩)
    | (refine ⟨_, rworse _ _ _ _, ?_⟩)
    | (exact ⟨0, Nat.zero_le _, rfl⟩)
    | (refine ⟨k + 1, by omega, ?_⟩)
    | (refine And.intro ?_ ?_)
    | (intro hx; first | (cases hx; done) | (exfalso; revert hx; simp (disch := omega) only [decide_eq_true_eq, decide_eq_false_iff_not, Bool.not_eq_true', Bool.not_eq_false', Bool.and_eq_true, Bool.and_eq_false_iff, Int.not_lt, Int.not_le, ne_eq, not_false_eq_true, not_true_eq_false, reduceCtorEq, Bool.true_eq_false, Bool.false_eq_true, beq_iff_eq, bne_iff_ne, beq_eq_false_iff_ne, false_or, or_false, true_and, and_true, h1, h2]; done) | (simp (disch := omega) only [decide_eq_true_eq, decide_eq_false_iff_not, Bool.not_eq_true', Bool.not_eq_false', Bool.and_eq_true, Bool.and_eq_false_iff, Int.not_lt, Int.not_le, ne_eq, not_false_eq_true, not_true_eq_false, reduceCtorEq, Bool.true_eq_false, Bool.false_eq_true, beq_iff_eq, bne_iff_ne, beq_eq_false_iff_ne, false_or, or_false, true_and, and_true, h1, h2] at hx; first | (exfalso; omega) | skip) | skip)
    | trivial
    | exact fit_ofL _ _
    | (simp (disch := omega) only [notAgg_v, notAgg_sl, plain_v, fits, fitsOne, fitsCells, xsOf, cell_zero, cell_succ, List.range, List.range.loop, List.map, cond_true, cond_false, D.v.injEq, exists_eq', exists_eq, and_self, and_true, true_and, D.agg.injEq, List.length, exists_eq_left', D.sl.injEq, reduceCtorEq, false_or, true_or, or_true, or_false, cell_zero, cell_succ, cell_v, cells_v, cells_agg, List.length_cons, List.length_nil, h1, h2]; done))
  all_goals first
    | (exfalso; omega)
    | omega
    | (simp only [leftOf]; omega)
    | (rw [hs]; rfl)
    | (rw [h3]; done)
    | (simp [h3]; done)
    | fail

end Go.Proofs.Ytimfgdlkekghaaa