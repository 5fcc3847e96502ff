/-
  Layer 17: RulesWorst, RulesJudge.
-/
import Derived.Test.YtimfgdlkekghaaaT3
namespace Go.Proofs.Ytimfgdlkekghaaa
open Go.RowKit
set_option linter.unusedSimpArgs false
set_option linter.unusedVariables false


theorem wo_assoc (a b c : Int × Int) : wo (wo a b) c = wo a (wo b c) := by
  obtain ⟨a1, a2⟩ := a; obtain ⟨b1, b2⟩ := b; obtain ⟨c1, c2⟩ := c
  unfold wo
  simp only
  (repeat' split) <;> first | rfl | (exfalso; simp only at *; omega)
theorem wo_zero (s : Int × Int) (h : 0 ≤ s.1) : wo s (0, 0) = s := by
  unfold wo
  exact if_neg (fun e => by have e : (0 : Int) > s.1 := e; omega)
theorem wo_pos {a b : Int × Int} (h : 0 ≤ a.1) (k : 0 ≤ b.1) : 0 ≤ (wo a b).1 := by unfold wo; split <;> assumption
theorem ws_from (l : List (Int × Int)) : ∀ s : Int × Int, 0 ≤ s.1 → l.foldl wst s = wo s (wsF l) := by
  have key : ∀ (l : List (Int × Int)) (s : Int × Int), 0 ≤ s.1 → l.foldl wst s = wo s (l.foldl wst (0, 0)) := by
    intro l
    induction l with
    | nil => intro s h; exact (wo_zero s h).symm
    | cons z l ih =>
      intro s h
      have b := jd_bd z.1 z.2
      have b0 : 0 ≤ (wst (0, 0) z).1 := wo_pos (Int.le_refl 0) b.1
      have b1 : 0 ≤ (wst s z).1 := wo_pos h b.1
      simp only [List.foldl_cons]
      rw [ih _ b1, ih _ b0]
      show wo (wo s (jd z.1 z.2)) _ = wo s (wo (wo (0, 0) (jd z.1 z.2)) _)
      rw [← wo_assoc s (wo (0, 0) _), ← wo_assoc s (0, 0), wo_zero s h]
  exact key l
theorem ws_app (l m : List (Int × Int)) : wsF (l ++ m) = wo (wsF l) (wsF m) := by
  have := ws_from m (wsF l) (ws_bd l).1
  rw [← this]; simp [wsF]
theorem ws_mem (l : List (Int × Int)) : ∀ z ∈ l, (jd z.1 z.2).1 ≤ (wsF l).1 := by
  intro z hz
  obtain ⟨a, b, rfl⟩ := List.append_of_mem hz
  have h1 : wsF (z :: b) = wo (wsF [z]) (wsF b) := ws_app [z] b
  have h2 : wsF [z] = wo (0, 0) (jd z.1 z.2) := rfl
  rw [ws_app, h1, h2]
  have := jd_bd z.1 z.2
  unfold wo
  (repeat' split) <;> simp only [] at * <;> omega
theorem zip_take_len {α β : Type} : ∀ (a : List α) (b : List β), a.zip (b.take a.length) = a.zip b
  | [], b => by simp
  | x :: a, [] => by simp
  | x :: a, y :: b => by simp [zip_take_len a b]
theorem zip_len_take {α β : Type} : ∀ (a : List α) (b : List β) (k : Nat), (a.zip b).take k = (a.take k).zip (b.take k)
  | _, _, 0 => by simp
  | [], b, k + 1 => by simp
  | x :: a, [], k + 1 => by simp
  | x :: a, y :: b, k + 1 => by simp [zip_len_take a b k]
theorem zip_len_drop {α β : Type} : ∀ (a : List α) (b : List β) (k : Nat), (a.zip b).drop k = (a.drop k).zip (b.drop k)
  | _, _, 0 => by simp
  | [], b, k + 1 => by simp
  | x :: a, [], k + 1 => by simp
  | x :: a, y :: b, k + 1 => by simp [zip_len_drop a b k]
theorem ws_cut (xs ys : List Int) (k : Nat) : wo (wsF (pairUp (xs.take k) (ys.take k))) (wsF (pairUp (xs.drop k) ((ys.drop k).take (xs.length - k)))) = wsF (pairUp xs ys) := by
  rw [← ws_app]
  have e1 : pairUp (xs.take k) (ys.take k) = (pairUp xs ys).take k := (zip_len_take xs ys k).symm
  have e2 : pairUp (xs.drop k) ((ys.drop k).take (xs.length - k)) = (pairUp xs ys).drop k := by
    have := zip_take_len (xs.drop k) (ys.drop k)
    rw [List.length_drop] at this
    unfold pairUp
    rw [this, zip_len_drop]
  rw [e1, e2, List.take_append_drop]
theorem pair_mem (a b : List Int) {k : Nat} (h1 : k < a.length) (h2 : k < b.length) : (a.getD k 0, b.getD k 0) ∈ pairUp a b := by
  have := pair_take a b h1 h2
  have h : (a.getD k 0, b.getD k 0) ∈ (pairUp a b).take (k + 1) := by rw [this]; simp
  exact List.mem_of_mem_take h
theorem wo_self (a : Int × Int) : wo a a = a := by unfold wo; split <;> rfl
theorem wo_one (a b : Int × Int) : wo a b = a ∨ wo a b = b := by unfold wo; split <;> simp

theorem vc_rworstL (x y : D) (xs ys : List Int) (c : Int) : Cond Try.prog (fun k => if k = 9 then some ⟨[13], [], [0, 1, 6, 8, 9, 10, 11, 12], []⟩ else none) Try.f5 [x, y, .v (.int .u8 c)] [.v (.bool true)] = ((NotAgg x ∧ NotAgg y ∧ NotAgg (D.v (Value.int IntKind.u8 c)) ∧ True) ∧ ∃ (r : D), D.lenT (TypeDesc.slice 5) x = some r ∧ ∃ (r_1 : D), D.bin BinOp.gtr r (D.v (Value.int IntKind.i64 60)) = some r_1 ∧ ∃ (b : Bool), r_1 = D.v (Value.bool b) ∧ (b = false → ∃ (r : D), D.lenT (TypeDesc.slice 5) y = some r ∧ ∃ (r_2 : D), D.lenT (TypeDesc.slice 5) x = some r_2 ∧ ∃ (r_3 : D), D.bin BinOp.lss r r_2 = some r_3 ∧ ∃ (b : Bool), r_3 = D.v (Value.bool b) ∧ (b = true → ∃ (r : D), PureD Try.prog 6 [] [r] ∧ fits [(false, [none])] [r] ∧ ((∃ (y : Value), r = D.v y) ∧ True) ∧ [r] = [D.v (Value.bool true)]) ∧ (b = false → ∃ (r : D), D.conv IntKind.i64 (D.v (Value.int IntKind.u8 c)) = some r ∧ ∃ (r_4 : D), D.lenT (TypeDesc.slice 5) x = some r_4 ∧ ∃ (r_5 : D), D.bin BinOp.add r_4 (D.v (Value.int IntKind.i64 1)) = some r_5 ∧ ∃ (r_6 : D), D.bin BinOp.rem r r_5 = some r_6 ∧ ∃ (r : D), D.lenT (TypeDesc.slice 5) x = some r ∧ ∃ (r_7 : D), PureD Try.prog 16 [x, y] [r_7] ∧ fits [(true, [none, none])] [r_7] ∧ ∃ (r_8 : D), D.cutL 1 x none (some r_6) none = some r_8 ∧ ∃ (r_9 : D), D.cutL 1 y none (some r_6) none = some r_9 ∧ ∃ (r_10 : D), PureD Try.prog 16 [r_8, r_9] [r_10] ∧ fits [(true, [none, none])] [r_10] ∧ ∃ (r_11 : D), D.cutL 1 x (some r_6) none none = some r_11 ∧ ∃ (r_12 : D), D.cutL 1 y (some r_6) (some r) none = some r_12 ∧ ∃ (r_13 : D), PureD Try.prog 16 [r_11, r_12] [r_13] ∧ fits [(true, [none, none])] [r_13] ∧ ∃ (r_14 : D), PureD Try.prog 11 [D.agg [r_10.cell 0, r_10.cell 1], D.agg [r_13.cell 0, r_13.cell 1]] [r_14] ∧ fits [(true, [none, none])] [r_14] ∧ ∃ (I : List D → Prop), ∃ (μ : List D → Nat), ((D.v (Value.int IntKind.i64 0) = D.v (Value.int IntKind.i64 0) ∧ x = x ∧ y = y ∧ Value.bool false = Value.bool false ∧ r = r ∧ (true = true ∧ true = true) ∧ (true = true ∧ true = true) ∧ (true = true ∧ true = true) ∧ (true = true ∧ true = true) ∧ True) ∧ ((r_7.cell 0 = r_7.cell 0 ∧ r_7.cell 1 = r_7.cell 1 ∧ True) ∧ (r_10.cell 0 = r_10.cell 0 ∧ r_10.cell 1 = r_10.cell 1 ∧ True) ∧ (r_13.cell 0 = r_13.cell 0 ∧ r_13.cell 1 = r_13.cell 1 ∧ True) ∧ (r_14.cell 0 = r_14.cell 0 ∧ r_14.cell 1 = r_14.cell 1 ∧ True) ∧ True) ∧ I [D.v (Value.int IntKind.i64 0)]) ∧ ∀ (r_15 : D), I [r_15] → ∃ (r_16 : D), D.bin BinOp.lss r_15 r = some r_16 ∧ ∃ (b : Bool), r_16 = D.v (Value.bool b) ∧ (b = true → D.inb 1 x r_15 ∧ 0 + 1 ≤ (x.at_ r_15).cells.length ∧ D.inb 1 y r_15 ∧ 0 + 1 ≤ (y.at_ r_15).cells.length ∧ ∃ (r_17 : D), PureD Try.prog 7 [(x.at_ r_15).cell 0, (y.at_ r_15).cell 0] [r_17] ∧ fits [(true, [none, none])] [r_17] ∧ ∃ (r_18 : D), D.bin BinOp.gtr (r_17.cell 0) (r_7.cell 0) = some r_18 ∧ ∃ (b : Bool), r_18 = D.v (Value.bool b) ∧ (b = true → (True ∧ True) ∧ [D.v (Value.bool false)] = [D.v (Value.bool true)]) ∧ (b = false → ∃ (r_19 : D), D.bin BinOp.add r_15 (D.v (Value.int IntKind.i64 1)) = some r_19 ∧ (r_19 = r_19 ∧ x = x ∧ y = y ∧ Value.bool false = Value.bool false ∧ r = r ∧ (true = true ∧ true = true) ∧ (true = true ∧ true = true) ∧ (true = true ∧ true = true) ∧ (true = true ∧ true = true) ∧ True) ∧ ((r_7.cell 0 = r_7.cell 0 ∧ r_7.cell 1 = r_7.cell 1 ∧ True) ∧ (r_10.cell 0 = r_10.cell 0 ∧ r_10.cell 1 = r_10.cell 1 ∧ True) ∧ (r_13.cell 0 = r_13.cell 0 ∧ r_13.cell 1 = r_13.cell 1 ∧ True) ∧ (r_14.cell 0 = r_14.cell 0 ∧ r_14.cell 1 = r_14.cell 1 ∧ True) ∧ True) ∧ I [r_19] ∧ μ [r_19] < μ [r_15])) ∧ (b = false → ∃ (r : Bool), eqs [EqK.i, EqK.i] [r_14.cell 0, r_14.cell 1] [r_7.cell 0, r_7.cell 1] = some r ∧ ∃ (b : Bool), D.v (Value.bool r) = D.v (Value.bool b) ∧ (b = true → ∃ (r : Bool), eqs [EqK.i, EqK.i] [r_14.cell 0, r_14.cell 1] [r_10.cell 0, r_10.cell 1] = some r ∧ ∃ (b : Bool), D.v (Value.bool r) = D.v (Value.bool b) ∧ (b = false → ∃ (r : Bool), eqs [EqK.i, EqK.i] [r_14.cell 0, r_14.cell 1] [r_13.cell 0, r_13.cell 1] = some r ∧ ∃ (b : Bool), D.v (Value.bool r) = D.v (Value.bool b) ∧ (b = true → ∃ (r : D), PureD Try.prog 11 [D.agg [r_10.cell 0, r_10.cell 1], D.agg [r_10.cell 0, r_10.cell 1]] [r] ∧ fits [(true, [none, none])] [r] ∧ ∃ (r_17 : Bool), eqs [EqK.i, EqK.i] [r.cell 0, r.cell 1] [r_10.cell 0, r_10.cell 1] = some r_17 ∧ ∃ (b : Bool), D.v (Value.bool r_17) = D.v (Value.bool b) ∧ (b = true → ∃ (r : D), PureD Try.prog 6 [] [r] ∧ fits [(false, [none])] [r] ∧ ((∃ (y : Value), r = D.v y) ∧ True) ∧ [r] = [D.v (Value.bool true)]) ∧ (b = false → (True ∧ True) ∧ [D.v (Value.bool false)] = [D.v (Value.bool true)])) ∧ (b = false → (True ∧ True) ∧ [D.v (Value.bool false)] = [D.v (Value.bool true)])) ∧ (b = true → ∃ (r : D), PureD Try.prog 11 [D.agg [r_10.cell 0, r_10.cell 1], D.agg [r_10.cell 0, r_10.cell 1]] [r] ∧ fits [(true, [none, none])] [r] ∧ ∃ (r_17 : Bool), eqs [EqK.i, EqK.i] [r.cell 0, r.cell 1] [r_10.cell 0, r_10.cell 1] = some r_17 ∧ ∃ (b : Bool), D.v (Value.bool r_17) = D.v (Value.bool b) ∧ (b = true → ∃ (r : D), PureD Try.prog 6 [] [r] ∧ fits [(false, [none])] [r] ∧ ((∃ (y : Value), r = D.v y) ∧ True) ∧ [r] = [D.v (Value.bool true)]) ∧ (b = false → (True ∧ True) ∧ [D.v (Value.bool false)] = [D.v (Value.bool true)]))) ∧ (b = false → (True ∧ True) ∧ [D.v (Value.bool false)] = [D.v (Value.bool true)])))) ∧ (b = true → ∃ (r : D), PureD Try.prog 6 [] [r] ∧ fits [(false, [none])] [r] ∧ ((∃ (y : Value), r = D.v y) ∧ True) ∧ [r] = [D.v (Value.bool true)])) := by kernel_rfl
set_option maxHeartbeats 4000000 in
theorem rworstL (x y : D) (xs ys : List Int) (c : Int) (hX : IsL 1 (ints .u8 xs) x) (hY : IsL 1 (ints .u8 ys) y) (hxs : ∀ z ∈ xs, 0 ≤ z ∧ z < 256) (hys : ∀ z ∈ ys, 0 ≤ z ∧ z < 256) (ha : xs.length ≤ 9223372036854775807) (hb : ys.length ≤ 9223372036854775807) (c0 : 0 ≤ c) (c1 : c < 256) : PureD Try.prog 5 [x, y, .v (.int .u8 c)] [.v (.bool true)] := by
  refine pure_cond (Lp := (fun k => if k = 9 then some ⟨[13], [], [0, 1, 6, 8, 9, 10, 11, 12], []⟩ else none)) (by kernel_rfl) Try.func5 (by kernel_rfl) (by kernel_rfl) ?_
  rw [vc_rworstL x y xs ys c]
  simp only [hX.notAgg, hY.notAgg, hX.lenT, hY.lenT, ints_length, bin_add, bin_sub, bin_mul, bin_quo, bin_rem, bin_lss, bin_leq, bin_gtr, bin_geq, bin_eql, bin_neq, notAgg_v, notAgg_sl, plain_v, lst_nil, lst_sl, lstSz_sl, lstSz_nil, chunk_one, ex_eqs_nil, ex_eqs_i, ex_eqs_b, ex_eqs_s, Bool.and_true, Bool.true_and, Bool.and_false, Bool.false_and, Bool.and_eq_true, Bool.and_eq_false_iff, beq_self_eq_true, beq_bb, bne_bb, un_not, un_neg, conv_int, min2_int, max2_int, w64, w32, wu8, wu16, wu32, wu64, tdiv_nn, tmod_nn, cell_zero, cell_succ, Option.some.injEq, D.v.injEq, D.agg.injEq, D.sl.injEq, Value.bool.injEq, Value.int.injEq, Value.string.injEq, List.cons.injEq, exists_eq_left', exists_eq_left, exists_eq', exists_eq, true_and, and_true, decide_eq_true_eq, decide_eq_false_iff_not, Bool.not_eq_true', Bool.not_eq_false', Bool.not_true, Bool.not_false, Int.not_lt, Int.not_le, ne_eq, not_false_eq_true, not_true_eq_false, reduceCtorEq, false_and, and_false, forall_const, false_implies, true_implies, implies_true, Int.reduceLT, Int.reduceLE, Int.reduceEq, Int.reduceNeg, decide_true, decide_false, Bool.true_eq_false, Bool.false_eq_true, and_self, if_true, if_false]
  by_cases hbig : 60 < xs.length ∨ ys.length < xs.length
  · repeat' (first
      | (refine ex_some (by simp (disch := omega) only [bin_add, bin_sub, bin_mul, bin_quo, bin_rem, bin_lss, bin_leq, bin_gtr, bin_geq, bin_eql, bin_neq, eqs_cn, eqs_ci, eqs_cb, eqs_cs, Option.map_some, lenT_ofL, lst_ofL, lstSz_ofL, chunk_one, lst_nil, lst_sl, lstSz_sl, lstSz_nil, Bool.and_true, Bool.true_and, Bool.and_false, Bool.false_and, beq_self_eq_true, beq_bb, bne_bb, un_not, un_neg, conv_int, min2_int, max2_int, w64, w32, wu8, wu16, wu32, wu64, tdiv_nn, tmod_nn, cell_zero, cell_succ, cell_v, cells_v, cells_agg, Bool.not_true, Bool.not_false, Int.reduceLT, Int.reduceLE, Int.reduceEq, Int.reduceNeg, Int.reduceAdd, Int.reduceSub, Int.reduceMul, intOf_v, decide_true, decide_false]; rfl) ?_)
      | (refine ex_bool ?_)
      | (refine ⟨_, awake, ?_⟩)
      | (refine And.intro ?_ ?_)
      | (intro hx; first | (cases hx; done) | (exfalso; revert hx; simp (disch := omega) only [decide_eq_true_eq, decide_eq_false_iff_not, Bool.not_eq_true', Bool.not_eq_false', Bool.and_eq_true, Bool.and_eq_false_iff, Int.not_lt, Int.not_le, ne_eq, not_false_eq_true, not_true_eq_false, reduceCtorEq, Bool.true_eq_false, Bool.false_eq_true, beq_iff_eq, bne_iff_ne, beq_eq_false_iff_ne, false_or, or_false, true_and, and_true]; done) | (simp (disch := omega) only [decide_eq_true_eq, decide_eq_false_iff_not, Bool.not_eq_true', Bool.not_eq_false', Bool.and_eq_true, Bool.and_eq_false_iff, Int.not_lt, Int.not_le, ne_eq, not_false_eq_true, not_true_eq_false, reduceCtorEq, Bool.true_eq_false, Bool.false_eq_true, beq_iff_eq, bne_iff_ne, beq_eq_false_iff_ne, false_or, or_false, true_and, and_true] at hx; first | (exfalso; omega) | skip) | skip)
      | trivial
      | exact fit_ofL _ _
      | (simp (disch := omega) only [notAgg_v, notAgg_sl, plain_v, fits, fitsOne, fitsCells, xsOf, cell_zero, cell_succ, List.range, List.range.loop, List.map, cond_true, cond_false, D.v.injEq, exists_eq', exists_eq, and_self, and_true, true_and, D.agg.injEq, List.length, exists_eq_left', D.sl.injEq, reduceCtorEq, false_or, true_or, or_true, or_false, cell_zero, cell_succ, cell_v, cells_v, cells_agg, List.length_cons, List.length_nil]; done))
    all_goals first | (exfalso; omega) | (simp; done) | fail
  · have hm : c % (xs.length + 1 : Int) = ((c % (xs.length + 1 : Int)).toNat : Nat) := (Int.toNat_of_nonneg (Int.emod_nonneg _ (by omega))).symm
    have hmlt : c % (xs.length + 1 : Int) < xs.length + 1 := Int.emod_lt_of_pos _ (by omega)
    generalize hq : (c % (xs.length + 1 : Int)).toNat = k at hm
    have hkl : k ≤ xs.length := by omega
    have W := worst x y xs ys hX hY hxs hys (by omega) (by omega)
    obtain ⟨x1, ex1, hX1⟩ := hX.cut (dl := none) (dh := some (.v (.int .i64 (k : Nat)))) (dm := none) (l := 0) (hh := (k : Nat)) (m := (xs.length : Nat)) rfl rfl (by rw [ints_length]; rfl) (by omega) (by omega) (by omega) (by rw [ints_length]; omega)
    obtain ⟨y1, ey1, hY1⟩ := hY.cut (dl := none) (dh := some (.v (.int .i64 (k : Nat)))) (dm := none) (l := 0) (hh := (k : Nat)) (m := (ys.length : Nat)) rfl rfl (by rw [ints_length]; rfl) (by omega) (by omega) (by omega) (by rw [ints_length]; omega)
    obtain ⟨x2, ex2, hX2⟩ := hX.cut (dl := some (.v (.int .i64 (k : Nat)))) (dh := none) (dm := none) (l := (k : Nat)) (hh := (xs.length : Nat)) (m := (xs.length : Nat)) rfl (by rw [ints_length]; rfl) (by rw [ints_length]; rfl) (by omega) (by omega) (by omega) (by rw [ints_length]; omega)
    obtain ⟨y2, ey2, hY2⟩ := hY.cut (dl := some (.v (.int .i64 (k : Nat)))) (dh := some (.v (.int .i64 (xs.length : Nat)))) (dm := none) (l := (k : Nat)) (hh := (xs.length : Nat)) (m := (ys.length : Nat)) rfl rfl (by rw [ints_length]; rfl) (by omega) (by omega) (by omega) (by rw [ints_length]; omega)
    simp only [ints_drop, ints_take, Int.toNat_zero, List.drop_zero, Int.sub_zero, Int.toNat_natCast] at hX1 hY1 hX2 hY2
    rw [show ((xs.length : Int) - (k : Int)).toNat = xs.length - k by omega] at hX2 hY2
    rw [List.take_of_length_le (l := xs.drop k) (by simp)] at hX2
    have W1 := worst x1 y1 _ _ hX1 hY1 (fun z hz => hxs z (List.mem_of_mem_take hz)) (fun z hz => hys z (List.mem_of_mem_take hz)) (by simp; omega) (by simp; omega)
    have W2 := worst x2 y2 _ _ hX2 hY2 (fun z hz => hxs z (List.mem_of_mem_drop hz)) (fun z hz => hys z (List.mem_of_mem_drop (List.mem_of_mem_take hz))) (by simp; omega) (by simp; omega)
    have hc := ws_cut xs ys k
    have b1 := ws_bd (pairUp (xs.take k) (ys.take k))
    have o1 := wo_one (wsF (pairUp (xs.take k) (ys.take k))) (wsF (pairUp (xs.drop k) ((ys.drop k).take (xs.length - k))))
    generalize wsF (pairUp (xs.take k) (ys.take k)) = A at W1 hc o1 b1
    generalize wsF (pairUp (xs.drop k) ((ys.drop k).take (xs.length - k))) = B at W2 hc o1
    obtain ⟨A1, A2⟩ := A
    obtain ⟨B1, B2⟩ := B
    have W3 := worse A1 A2 B1 B2
    have W4 := worse A1 A2 A1 A2
    rw [wo_self] at W4
    rw [hc] at W3 o1
    generalize hS : wsF (pairUp xs ys) = S at W W3 o1
    obtain ⟨S1, S2⟩ := S
    simp only [Prod.mk.injEq] at o1
    repeat' (first
      | (refine ex_some (by simp (disch := omega) only [bin_add, bin_sub, bin_mul, bin_quo, bin_rem, bin_lss, bin_leq, bin_gtr, bin_geq, bin_eql, bin_neq, eqs_cn, eqs_ci, eqs_cb, eqs_cs, Option.map_some, lenT_ofL, lst_ofL, lstSz_ofL, chunk_one, lst_nil, lst_sl, lstSz_sl, lstSz_nil, Bool.and_true, Bool.true_and, Bool.and_false, Bool.false_and, beq_self_eq_true, beq_bb, bne_bb, un_not, un_neg, conv_int, min2_int, max2_int, w64, w32, wu8, wu16, wu32, wu64, tdiv_nn, tmod_nn, cell_zero, cell_succ, cell_v, cells_v, cells_agg, Bool.not_true, Bool.not_false, Int.reduceLT, Int.reduceLE, Int.reduceEq, Int.reduceNeg, Int.reduceAdd, Int.reduceSub, Int.reduceMul, intOf_v, decide_true, decide_false, hm]; rfl) ?_)
      | (refine ex_bool ?_)
      | (refine ⟨(fun l => ∃ k : Nat, k ≤ xs.length ∧ l = [.v (.int .i64 (k : Nat))]), leftOf xs.length, ?_⟩)
      | (refine fun (r2 : D) (hI : (fun l => ∃ k : Nat, k ≤ xs.length ∧ l = [.v (.int .i64 (k : Nat))]) [r2]) => ?_; obtain ⟨k, hk, hl⟩ := hI; simp only [List.cons.injEq, and_true] at hl; subst hl; by_cases hlt : k < xs.length <;> first | (have hk1 : k < xs.length := (by omega); have hk2 : k < ys.length := (by omega); have h1 := hX.at_ints hk1; have h2 := hY.at_ints hk2; have i1 := hX.inb_ints hk1; have i2 := hY.inb_ints hk2; have z1 := hxs (xs.getD k 0) (by simp [List.getD, hk1]); have z2 := hys (ys.getD k 0) (by simp [List.getD, hk2]); have C1 := judge _ _ z1.1 z1.2 z2.1 z2.2; have m1 := ws_mem (pairUp xs ys) (xs.getD k 0, ys.getD k 0) (pair_mem xs ys hk1 hk2); simp only [h1, h2, cell_v, cells_v]; have h3 : True := trivial) | (have h1 : True := trivial; have h2 : True := trivial; have h3 : True := trivial))
      | (exact i1)
      | (exact i2)
      | (refine ⟨_, ex1, ?_⟩)
      | (refine ⟨_, ey1, ?_⟩)
      | (refine ⟨_, ex2, ?_⟩)
      | (refine ⟨_, ey2, ?_⟩)
      | (refine ⟨_, W, ?_⟩)
      | (refine ⟨_, W1, ?_⟩)
      | (refine ⟨_, W2, ?_⟩)
      | (refine ⟨_, W3, ?_⟩)
      | (refine ⟨_, W4, ?_⟩)
      | (refine ⟨_, C1, ?_⟩)
      | (refine ⟨_, awake, ?_⟩)
      | (exact ⟨0, Nat.zero_le _, rfl⟩)
      | (refine ⟨k + 1, by omega, ?_⟩)
      | (refine And.intro ?_ ?_)
      | (intro hx; first | (cases hx; done) | (exfalso; revert hx; simp (disch := omega) only [decide_eq_true_eq, decide_eq_false_iff_not, Bool.not_eq_true', Bool.not_eq_false', Bool.and_eq_true, Bool.and_eq_false_iff, Int.not_lt, Int.not_le, ne_eq, not_false_eq_true, not_true_eq_false, reduceCtorEq, Bool.true_eq_false, Bool.false_eq_true, beq_iff_eq, bne_iff_ne, beq_eq_false_iff_ne, false_or, or_false, true_and, and_true, hm]; done) | (simp (disch := omega) only [decide_eq_true_eq, decide_eq_false_iff_not, Bool.not_eq_true', Bool.not_eq_false', Bool.and_eq_true, Bool.and_eq_false_iff, Int.not_lt, Int.not_le, ne_eq, not_false_eq_true, not_true_eq_false, reduceCtorEq, Bool.true_eq_false, Bool.false_eq_true, beq_iff_eq, bne_iff_ne, beq_eq_false_iff_ne, false_or, or_false, true_and, and_true, hm] at hx; first | (exfalso; omega) | skip) | skip)
      | trivial
      | exact fit_ofL _ _
      | (simp (disch := omega) only [notAgg_v, notAgg_sl, plain_v, fits, fitsOne, fitsCells, xsOf, cell_zero, cell_succ, List.range, List.range.loop, List.map, cond_true, cond_false, D.v.injEq, exists_eq', exists_eq, and_self, and_true, true_and, D.agg.injEq, List.length, exists_eq_left', D.sl.injEq, reduceCtorEq, false_or, true_or, or_true, or_false, cell_zero, cell_succ, cell_v, cells_v, cells_agg, List.length_cons, List.length_nil, hm]; done))
    all_goals first
      | (exfalso; omega)
      | omega
      | (simp only [leftOf]; omega)
      | (simp; done)
      | (simp; omega)
      | (rw [hS] at m1; simp only at m1; exfalso; omega)
      | fail

end Go.Proofs.Ytimfgdlkekghaaa