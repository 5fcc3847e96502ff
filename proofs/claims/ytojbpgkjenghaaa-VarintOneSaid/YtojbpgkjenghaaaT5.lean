/-
  Layer 2: what every right program makes; VarintPuts, VarintGets.
-/
import Derived.Test.YtojbpgkjenghaaaT4
namespace Go.Proofs.Ytojbpgkjenghaaa
open Go.RowKit
set_option linter.unusedSimpArgs false
set_option linter.unusedVariables false


theorem enc_bytes (n : Int) : Bytes (encV n) := by
  by_cases h : szF n = 0
  · unfold encV; rw [h]; simp [encS, be]; exact Bytes.nil
  · obtain ⟨s, h1, h2, h3, _, h4⟩ := sz_nat h
    unfold encV
    rw [h1, Int.toNat_natCast]
    intro x hx
    have hb := b0_bd h3 h4
    have hm := mkR_F h2
    rcases List.mem_or_eq_of_mem_set hx with hx | rfl
    · obtain ⟨j, _, rfl⟩ := List.mem_map.1 hx
      omega
    · have : (be n s).getD 0 0 = b0 n s := by have := be_get [] n (s := s) (by omega); simpa using this
      rw [this]; omega
theorem join_bytes (l : List Int) : Bytes (joinF l).1 := by
  unfold joinF
  split
  · intro x hx
    obtain ⟨n, _, hn⟩ := List.mem_flatMap.1 hx
    exact enc_bytes n x hn
  · exact Bytes.nil
theorem str_eq {l m : List Int} (h1 : Bytes l) (h2 : Bytes m) (h : l = m) : D.bin .eql (str l) (str m) = some (.v (.bool true)) := by
  rw [bin_seql h1 h2]; simp [h]

theorem A_len (l : List Int) (h : l.length ≤ 100) : (A l).1.length ≤ 1000 := by
  have key : ∀ (f : Nat) (l : List Int), (allF f l).1.length ≤ f := by
    intro f
    induction f with
    | zero => intro l; exact Nat.le_refl _
    | succ f ih =>
      intro l
      rw [allF_succ]
      have := ih (l.drop (getF l).2.1.toNat)
      (repeat' split) <;> simp only [List.length_nil, List.length_cons] <;> omega
  have := key (l.length + 1) l
  unfold A; omega

theorem vc_awake  : Cond Try.prog (fun _ => none) Try.f7 [] [.v (.bool true)] = (True ∧ ∃ (r : D), ∃ (r_1 : D), PureD Try.prog 8 [D.v (Value.int IntKind.i64 15293)] [r, r_1] ∧ fits [(false, [some 1]), (false, [none])] [r, r_1] ∧ ∃ (r_2 : D), ∃ (r_3 : D), ∃ (r_4 : D), PureD Try.prog 14 [D.v (Value.string { data := { toList := [157, 127, 62, 125, 0] } })] [r_2, r_3, r_4] ∧ fits [(false, [none]), (false, [none]), (false, [none])] [r_2, r_3, r_4] ∧ ∃ (r_5 : D), ∃ (r_6 : D), ∃ (r_7 : D), PureD Try.prog 14 [D.v (Value.string { data := { toList := [64, 37] } })] [r_5, r_6, r_7] ∧ fits [(false, [none]), (false, [none]), (false, [none])] [r_5, r_6, r_7] ∧ ∃ (r_8 : D), ∃ (r_9 : D), PureD Try.prog 8 [D.v (Value.int IntKind.i64 (-1))] [r_8, r_9] ∧ fits [(false, [some 1]), (false, [none])] [r_8, r_9] ∧ ∃ (r_10 : D), ∃ (r_11 : D), PureD Try.prog 16 [D.v (Value.string { data := { toList := [37, 123, 189] } })] [r_10, r_11] ∧ fits [(false, [some 1]), (false, [none])] [r_10, r_11] ∧ ∃ (r_12 : D), ∃ (r_13 : D), PureD Try.prog 10 [D.sl 1 (chunks false 1 2 [D.v (Value.int IntKind.i64 37), D.v (Value.int IntKind.i64 1073741824)])] [r_12, r_13] ∧ fits [(false, [some 1]), (false, [none])] [r_12, r_13] ∧ ∃ (r_14 : D), r.toStr = some r_14 ∧ ∃ (r : D), D.bin BinOp.eql r_14 (D.v (Value.string { data := { toList := [123, 189] } })) = some r ∧ ∃ (b : Bool), r = D.v (Value.bool b) ∧ (b = true → ∃ (r : D), D.bin BinOp.eql r_1 (D.v (Value.int IntKind.i64 0)) = some r ∧ ∃ (b : Bool), r = D.v (Value.bool b) ∧ (b = true → ∃ (r : D), D.bin BinOp.eql r_2 (D.v (Value.int IntKind.i64 494878333)) = some r ∧ ∃ (b : Bool), r = D.v (Value.bool b) ∧ (b = true → ∃ (r : D), D.bin BinOp.eql r_3 (D.v (Value.int IntKind.i64 4)) = some r ∧ ∃ (b : Bool), r = D.v (Value.bool b) ∧ (b = true → ∃ (r : D), D.bin BinOp.eql r_4 (D.v (Value.int IntKind.i64 0)) = some r ∧ ∃ (b : Bool), r = D.v (Value.bool b) ∧ (b = true → ∃ (r : D), D.bin BinOp.eql r_7 (D.v (Value.int IntKind.i64 4)) = some r ∧ ∃ (b : Bool), r = D.v (Value.bool b) ∧ (b = true → ∃ (r : D), D.bin BinOp.eql r_9 (D.v (Value.int IntKind.i64 8)) = some r ∧ ∃ (b : Bool), r = D.v (Value.bool b) ∧ (b = true → ∃ (r : D), PureD Try.prog 18 [r_10, D.sl 1 (chunks false 1 2 [D.v (Value.int IntKind.i64 37), D.v (Value.int IntKind.i64 15293)])] [r] ∧ fits [(false, [none])] [r] ∧ ∃ (b : Bool), r = D.v (Value.bool b) ∧ (b = true → ∃ (r : D), D.bin BinOp.eql r_11 (D.v (Value.int IntKind.i64 0)) = some r ∧ ∃ (b : Bool), r = D.v (Value.bool b) ∧ (b = true → ∃ (r : D), r_12.toStr = some r ∧ ∃ (r_15 : D), D.bin BinOp.eql r (D.v (Value.string { data := { toList := [37, 192, 0, 0, 0, 64, 0, 0, 0] } })) = some r_15 ∧ ∃ (b : Bool), r_15 = D.v (Value.bool b) ∧ (b = true → ∃ (r : D), D.bin BinOp.eql r_13 (D.v (Value.int IntKind.i64 0)) = some r ∧ ∃ (b : Bool), r = D.v (Value.bool b) ∧ (b = true → ∃ (r : D), PureD Try.prog 12 [D.v (Value.int IntKind.i64 64)] [r] ∧ fits [(false, [none])] [r] ∧ ∃ (r_16 : D), D.bin BinOp.eql r (D.v (Value.int IntKind.i64 2)) = some r_16 ∧ ∃ (b : Bool), r_16 = D.v (Value.bool b) ∧ (b = true → ∃ (r : D), PureD Try.prog 12 [D.v (Value.int IntKind.i64 (-1))] [r] ∧ fits [(false, [none])] [r] ∧ ∃ (r_17 : D), D.bin BinOp.eql r (D.v (Value.int IntKind.i64 0)) = some r_17 ∧ ∃ (b : Bool), r_17 = D.v (Value.bool b) ∧ ∃ (b : Bool), r_17 = D.v (Value.bool b) ∧ ∃ (b : Bool), r_17 = D.v (Value.bool b) ∧ ∃ (b : Bool), r_17 = D.v (Value.bool b) ∧ ((∃ (y : Value), r_17 = D.v y) ∧ True) ∧ [r_17] = [D.v (Value.bool true)]) ∧ (b = false → (True ∧ True) ∧ [D.v (Value.bool false)] = [D.v (Value.bool true)])) ∧ (b = false → (True ∧ True) ∧ [D.v (Value.bool false)] = [D.v (Value.bool true)])) ∧ (b = false → (True ∧ True) ∧ [D.v (Value.bool false)] = [D.v (Value.bool true)])) ∧ (b = false → (True ∧ True) ∧ [D.v (Value.bool false)] = [D.v (Value.bool true)])) ∧ (b = false → (True ∧ True) ∧ [D.v (Value.bool false)] = [D.v (Value.bool true)])) ∧ (b = false → (True ∧ True) ∧ [D.v (Value.bool false)] = [D.v (Value.bool true)])) ∧ (b = false → (True ∧ True) ∧ [D.v (Value.bool false)] = [D.v (Value.bool true)])) ∧ (b = false → (True ∧ True) ∧ [D.v (Value.bool false)] = [D.v (Value.bool true)])) ∧ (b = false → (True ∧ True) ∧ [D.v (Value.bool false)] = [D.v (Value.bool true)])) ∧ (b = false → (True ∧ True) ∧ [D.v (Value.bool false)] = [D.v (Value.bool true)])) ∧ (b = false → (True ∧ True) ∧ [D.v (Value.bool false)] = [D.v (Value.bool true)])) ∧ (b = false → (True ∧ True) ∧ [D.v (Value.bool false)] = [D.v (Value.bool true)])) := by kernel_rfl
set_option maxHeartbeats 8000000 in
theorem awake   : PureD Try.prog 7 [] [.v (.bool true)] := by
  refine pure_cond (Lp := (fun _ => none)) (by kernel_rfl) Try.func7 (by kernel_rfl) (by kernel_rfl) ?_
  rw [vc_awake]
  have P0 := put 15293
  rw [show joinF [15293] = ([123, 189], 0) by decide] at P0
  simp only at P0
  have P1 := put (-1)
  rw [show joinF [(-1)] = ([], 8) by decide] at P1
  simp only at P1
  have G0 : PureD Try.prog 14 [.v (.string ⟨#[157, 127, 62, 125, 0]⟩)] _ := get [157, 127, 62, 125, 0] (by unfold Bytes; decide) (by decide)
  rw [show getF [157, 127, 62, 125, 0] = (494878333, 4, 0) by decide] at G0
  simp only at G0
  have G1 : PureD Try.prog 14 [.v (.string ⟨#[64, 37]⟩)] _ := get [64, 37] (by unfold Bytes; decide) (by decide)
  rw [show getF [64, 37] = (0, 0, 4) by decide] at G1
  simp only at G1
  have A0 : PureD Try.prog 16 [.v (.string ⟨#[37, 123, 189]⟩)] _ := all [37, 123, 189] (by unfold Bytes; decide) (by decide)
  rw [show A [37, 123, 189] = ([37, 15293], 0) by decide] at A0
  simp only at A0
  have J0 := join _ [37, 1073741824] (isL_sl _ _) (by decide)
  rw [show joinF [37, 1073741824] = ([37, 192, 0, 0, 0, 64, 0, 0, 0], 0) by decide] at J0
  simp only at J0
  have S0 := size 64
  rw [show szF 64 = 2 by decide] at S0
  have S1 := size (-1)
  rw [show szF (-1) = 0 by decide] at S1
  have M0 := same _ _ [37, 15293] [37, 15293] (isL_ofL _ _) (isL_sl _ _) (by decide) (by decide)
  rw [show sameL [37, 15293] [37, 15293] = true by decide] at M0
  have q0 : D.bin .eql (str [123, 189]) (.v (.string ⟨#[123, 189]⟩)) = some (.v (.bool true)) := str_eq (l := [123, 189]) (m := [123, 189]) (by unfold Bytes; decide) (by unfold Bytes; decide) rfl
  have q1 : D.bin .eql (str [37, 192, 0, 0, 0, 64, 0, 0, 0]) (.v (.string ⟨#[37, 192, 0, 0, 0, 64, 0, 0, 0]⟩)) = some (.v (.bool true)) := str_eq (l := [37, 192, 0, 0, 0, 64, 0, 0, 0]) (m := [37, 192, 0, 0, 0, 64, 0, 0, 0]) (by unfold Bytes; decide) (by unfold Bytes; decide) rfl
  repeat' (first
    | (refine ex_some (by simp (disch := omega) only [bin_shr, bin_shl, bin_and, bin_or, bin_xor, len_str, toStr_ofL, bin_add, bin_sub, bin_mul, bin_quo, bin_rem, bin_lss, bin_leq, bin_gtr, bin_geq, bin_eql, bin_neq, eqs_cn, eqs_ci, eqs_cb, eqs_cs, Option.map_some, lenT_ofL, lst_ofL, lstSz_ofL, chunk_one, lst_nil, lst_sl, lstSz_sl, lstSz_nil, Bool.and_true, Bool.true_and, Bool.and_false, Bool.false_and, beq_self_eq_true, beq_bb, bne_bb, un_not, un_neg, conv_int, min2_int, max2_int, w64, w32, wu8, wu16, wu32, wu64, tdiv_nn, tmod_nn, cell_zero, cell_succ, cell_v, cells_v, cells_agg, Bool.not_true, Bool.not_false, Int.reduceLT, Int.reduceLE, Int.reduceEq, Int.reduceNeg, Int.reduceAdd, Int.reduceSub, Int.reduceMul, intOf_v, decide_true, decide_false]; rfl) ?_)
    | (refine ex_bool ?_)
    | (refine ⟨_, _, P0, ?_⟩)
    | (refine ⟨_, _, P1, ?_⟩)
    | (refine ⟨_, _, _, G0, ?_⟩)
    | (refine ⟨_, _, _, G1, ?_⟩)
    | (refine ⟨_, _, A0, ?_⟩)
    | (refine ⟨_, _, J0, ?_⟩)
    | (refine ⟨_, S0, ?_⟩)
    | (refine ⟨_, S1, ?_⟩)
    | (refine ⟨_, M0, ?_⟩)
    | (refine ex_some q0 ?_)
    | (refine ex_some q1 ?_)
    | (refine And.intro ?_ ?_)
    | (intro hx; first | (cases hx; done) | (exfalso; revert hx; simp (disch := omega) only [decide_eq_true_eq, decide_eq_false_iff_not, Bool.not_eq_true', Bool.not_eq_false', Bool.and_eq_true, Bool.and_eq_false_iff, Int.not_lt, Int.not_le, ne_eq, not_false_eq_true, not_true_eq_false, reduceCtorEq, Bool.true_eq_false, Bool.false_eq_true, beq_iff_eq, bne_iff_ne, beq_eq_false_iff_ne, false_or, or_false, true_and, and_true]; done) | (simp (disch := omega) only [decide_eq_true_eq, decide_eq_false_iff_not, Bool.not_eq_true', Bool.not_eq_false', Bool.and_eq_true, Bool.and_eq_false_iff, Int.not_lt, Int.not_le, ne_eq, not_false_eq_true, not_true_eq_false, reduceCtorEq, Bool.true_eq_false, Bool.false_eq_true, beq_iff_eq, bne_iff_ne, beq_eq_false_iff_ne, false_or, or_false, true_and, and_true] at hx; first | (exfalso; omega) | skip) | skip)
    | trivial
    | exact fit_ofL _ _
    | (simp (disch := omega) only [notAgg_v, notAgg_sl, plain_v, fits, fitsOne, fitsCells, xsOf, cell_zero, cell_succ, List.range, List.range.loop, List.map, cond_true, cond_false, D.v.injEq, exists_eq', exists_eq, and_self, and_true, true_and, D.agg.injEq, List.length, exists_eq_left', D.sl.injEq, reduceCtorEq, false_or, true_or, or_true, or_false, cell_zero, cell_succ, cell_v, cells_v, cells_agg, List.length_cons, List.length_nil]; done))
  all_goals first | exact fit_ofL _ _ | (simp; done) | fail

theorem vc_putsL (n : Int) (x : D) (l : List Int) : Cond Try.prog (fun _ => none) Try.f3 [.v (.int .i64 n), x] [.v (.bool true)] = ((NotAgg (D.v (Value.int IntKind.i64 n)) ∧ NotAgg x ∧ True) ∧ ∃ (r : D), D.lenT (TypeDesc.slice 3) x = some r ∧ ∃ (r_1 : D), D.bin BinOp.gtr r (D.v (Value.int IntKind.i64 40)) = some r_1 ∧ ∃ (b : Bool), r_1 = D.v (Value.bool b) ∧ (b = true → ∃ (r : D), PureD Try.prog 7 [] [r] ∧ fits [(false, [none])] [r] ∧ ((∃ (y : Value), r = D.v y) ∧ True) ∧ [r] = [D.v (Value.bool true)]) ∧ (b = false → ∃ (r : D), ∃ (r_2 : D), PureD Try.prog 8 [D.v (Value.int IntKind.i64 n)] [r, r_2] ∧ fits [(false, [some 1]), (false, [none])] [r, r_2] ∧ ∃ (r_3 : D), ∃ (r_4 : D), PureD Try.prog 9 [D.v (Value.int IntKind.i64 n)] [r_3, r_4] ∧ fits [(false, [some 1]), (false, [none])] [r_3, r_4] ∧ ∃ (r_5 : D), ∃ (r_6 : D), PureD Try.prog 10 [x] [r_5, r_6] ∧ fits [(false, [some 1]), (false, [none])] [r_5, r_6] ∧ ∃ (r_7 : D), ∃ (r_8 : D), PureD Try.prog 11 [x] [r_7, r_8] ∧ fits [(false, [some 1]), (false, [none])] [r_7, r_8] ∧ ∃ (r_9 : D), r.toStr = some r_9 ∧ ∃ (r : D), r_3.toStr = some r ∧ ∃ (r_10 : D), D.bin BinOp.eql r_9 r = some r_10 ∧ ∃ (b : Bool), r_10 = D.v (Value.bool b) ∧ (b = true → ∃ (r : D), D.bin BinOp.eql r_2 r_4 = some r ∧ ∃ (b : Bool), r = D.v (Value.bool b) ∧ (b = true → ∃ (r : D), r_5.toStr = some r ∧ ∃ (r_11 : D), r_7.toStr = some r_11 ∧ ∃ (r_12 : D), D.bin BinOp.eql r r_11 = some r_12 ∧ ∃ (b : Bool), r_12 = D.v (Value.bool b) ∧ (b = true → ∃ (r : D), D.bin BinOp.eql r_6 r_8 = some r ∧ ∃ (b : Bool), r = D.v (Value.bool b) ∧ (b = true → ∃ (r : D), PureD Try.prog 12 [D.v (Value.int IntKind.i64 n)] [r] ∧ fits [(false, [none])] [r] ∧ ∃ (r_13 : D), PureD Try.prog 13 [D.v (Value.int IntKind.i64 n)] [r_13] ∧ fits [(false, [none])] [r_13] ∧ ∃ (r_14 : D), D.bin BinOp.eql r r_13 = some r_14 ∧ ∃ (b : Bool), r_14 = D.v (Value.bool b) ∧ (b = true → ∃ (r : D), PureD Try.prog 7 [] [r] ∧ fits [(false, [none])] [r] ∧ ((∃ (y : Value), r = D.v y) ∧ True) ∧ [r] = [D.v (Value.bool true)]) ∧ (b = false → (True ∧ True) ∧ [D.v (Value.bool false)] = [D.v (Value.bool true)])) ∧ (b = false → (True ∧ True) ∧ [D.v (Value.bool false)] = [D.v (Value.bool true)])) ∧ (b = false → (True ∧ True) ∧ [D.v (Value.bool false)] = [D.v (Value.bool true)])) ∧ (b = false → (True ∧ True) ∧ [D.v (Value.bool false)] = [D.v (Value.bool true)])) ∧ (b = false → (True ∧ True) ∧ [D.v (Value.bool false)] = [D.v (Value.bool true)]))) := by kernel_rfl
set_option maxHeartbeats 4000000 in
theorem putsL (n : Int) (x : D) (l : List Int) (hX : IsL 1 (ints .i64 l) x) : PureD Try.prog 3 [.v (.int .i64 n), x] [.v (.bool true)] := by
  refine pure_cond (Lp := (fun _ => none)) (by kernel_rfl) Try.func3 (by kernel_rfl) (by kernel_rfl) ?_
  rw [vc_putsL n x l]
  simp only [hX.notAgg, hX.lenT, ints_length, Option.some.injEq, exists_eq_left']
  by_cases hbig : 40 < l.length
  · repeat' (first
      | (refine ex_some (by simp (disch := omega) only [bin_shr, bin_shl, bin_and, bin_or, bin_xor, len_str, toStr_ofL, bin_add, bin_sub, bin_mul, bin_quo, bin_rem, bin_lss, bin_leq, bin_gtr, bin_geq, bin_eql, bin_neq, eqs_cn, eqs_ci, eqs_cb, eqs_cs, Option.map_some, lenT_ofL, lst_ofL, lstSz_ofL, chunk_one, lst_nil, lst_sl, lstSz_sl, lstSz_nil, Bool.and_true, Bool.true_and, Bool.and_false, Bool.false_and, beq_self_eq_true, beq_bb, bne_bb, un_not, un_neg, conv_int, min2_int, max2_int, w64, w32, wu8, wu16, wu32, wu64, tdiv_nn, tmod_nn, cell_zero, cell_succ, cell_v, cells_v, cells_agg, Bool.not_true, Bool.not_false, Int.reduceLT, Int.reduceLE, Int.reduceEq, Int.reduceNeg, Int.reduceAdd, Int.reduceSub, Int.reduceMul, intOf_v, decide_true, decide_false]; rfl) ?_)
      | (refine ex_bool ?_)
      | (refine ⟨_, awake, ?_⟩)
      | (refine And.intro ?_ ?_)
      | (intro hx; first | (cases hx; done) | (exfalso; revert hx; simp (disch := omega) only [decide_eq_true_eq, decide_eq_false_iff_not, Bool.not_eq_true', Bool.not_eq_false', Bool.and_eq_true, Bool.and_eq_false_iff, Int.not_lt, Int.not_le, ne_eq, not_false_eq_true, not_true_eq_false, reduceCtorEq, Bool.true_eq_false, Bool.false_eq_true, beq_iff_eq, bne_iff_ne, beq_eq_false_iff_ne, false_or, or_false, true_and, and_true]; done) | (simp (disch := omega) only [decide_eq_true_eq, decide_eq_false_iff_not, Bool.not_eq_true', Bool.not_eq_false', Bool.and_eq_true, Bool.and_eq_false_iff, Int.not_lt, Int.not_le, ne_eq, not_false_eq_true, not_true_eq_false, reduceCtorEq, Bool.true_eq_false, Bool.false_eq_true, beq_iff_eq, bne_iff_ne, beq_eq_false_iff_ne, false_or, or_false, true_and, and_true] at hx; first | (exfalso; omega) | skip) | skip)
      | trivial
      | exact fit_ofL _ _
      | (simp (disch := omega) only [notAgg_v, notAgg_sl, plain_v, fits, fitsOne, fitsCells, xsOf, cell_zero, cell_succ, List.range, List.range.loop, List.map, cond_true, cond_false, D.v.injEq, exists_eq', exists_eq, and_self, and_true, true_and, D.agg.injEq, List.length, exists_eq_left', D.sl.injEq, reduceCtorEq, false_or, true_or, or_true, or_false, cell_zero, cell_succ, cell_v, cells_v, cells_agg, List.length_cons, List.length_nil]; done))
    all_goals first | (exfalso; omega) | (simp; done) | fail
  · have C1 := put n
    have C2 := rput n
    have C3 := join x l hX (by omega)
    have C4 := rjoin x l hX (by omega)
    have q1 := str_eq (join_bytes [n]) (join_bytes [n]) rfl
    have q2 := str_eq (join_bytes l) (join_bytes l) rfl
    generalize joinF [n] = p at C1 C2 q1
    generalize joinF l = r at C3 C4 q2
    obtain ⟨p1, p2⟩ := p
    obtain ⟨r1, r2⟩ := r
    repeat' (first
      | (refine ex_some (by simp (disch := omega) only [bin_shr, bin_shl, bin_and, bin_or, bin_xor, len_str, toStr_ofL, bin_add, bin_sub, bin_mul, bin_quo, bin_rem, bin_lss, bin_leq, bin_gtr, bin_geq, bin_eql, bin_neq, eqs_cn, eqs_ci, eqs_cb, eqs_cs, Option.map_some, lenT_ofL, lst_ofL, lstSz_ofL, chunk_one, lst_nil, lst_sl, lstSz_sl, lstSz_nil, Bool.and_true, Bool.true_and, Bool.and_false, Bool.false_and, beq_self_eq_true, beq_bb, bne_bb, un_not, un_neg, conv_int, min2_int, max2_int, w64, w32, wu8, wu16, wu32, wu64, tdiv_nn, tmod_nn, cell_zero, cell_succ, cell_v, cells_v, cells_agg, Bool.not_true, Bool.not_false, Int.reduceLT, Int.reduceLE, Int.reduceEq, Int.reduceNeg, Int.reduceAdd, Int.reduceSub, Int.reduceMul, intOf_v, decide_true, decide_false]; rfl) ?_)
      | (refine ex_bool ?_)
      | (refine ⟨_, _, C1, ?_⟩)
      | (refine ⟨_, _, C2, ?_⟩)
      | (refine ⟨_, _, C3, ?_⟩)
      | (refine ⟨_, _, C4, ?_⟩)
      | (refine ⟨_, size _, ?_⟩)
      | (refine ⟨_, rsize _, ?_⟩)
      | (refine ⟨_, awake, ?_⟩)
      | (refine ex_some q1 ?_)
      | (refine ex_some q2 ?_)
      | (refine And.intro ?_ ?_)
      | (intro hx; first | (cases hx; done) | (exfalso; revert hx; simp (disch := omega) only [decide_eq_true_eq, decide_eq_false_iff_not, Bool.not_eq_true', Bool.not_eq_false', Bool.and_eq_true, Bool.and_eq_false_iff, Int.not_lt, Int.not_le, ne_eq, not_false_eq_true, not_true_eq_false, reduceCtorEq, Bool.true_eq_false, Bool.false_eq_true, beq_iff_eq, bne_iff_ne, beq_eq_false_iff_ne, false_or, or_false, true_and, and_true]; done) | (simp (disch := omega) only [decide_eq_true_eq, decide_eq_false_iff_not, Bool.not_eq_true', Bool.not_eq_false', Bool.and_eq_true, Bool.and_eq_false_iff, Int.not_lt, Int.not_le, ne_eq, not_false_eq_true, not_true_eq_false, reduceCtorEq, Bool.true_eq_false, Bool.false_eq_true, beq_iff_eq, bne_iff_ne, beq_eq_false_iff_ne, false_or, or_false, true_and, and_true] at hx; first | (exfalso; omega) | skip) | skip)
      | trivial
      | exact fit_ofL _ _
      | (simp (disch := omega) only [notAgg_v, notAgg_sl, plain_v, fits, fitsOne, fitsCells, xsOf, cell_zero, cell_succ, List.range, List.range.loop, List.map, cond_true, cond_false, D.v.injEq, exists_eq', exists_eq, and_self, and_true, true_and, D.agg.injEq, List.length, exists_eq_left', D.sl.injEq, reduceCtorEq, false_or, true_or, or_true, or_false, cell_zero, cell_succ, cell_v, cells_v, cells_agg, List.length_cons, List.length_nil]; done))
    all_goals first | (exfalso; omega) | exact fit_ofL _ _ | (simp; done) | fail

theorem vc_getsL (l : List Int) : Cond Try.prog (fun _ => none) Try.f4 [str l] [.v (.bool true)] = ((NotAgg (str l) ∧ True) ∧ ∃ (r : D), D.lenT TypeDesc.string (str l) = some r ∧ ∃ (r_1 : D), D.bin BinOp.gtr r (D.v (Value.int IntKind.i64 100)) = some r_1 ∧ ∃ (b : Bool), r_1 = D.v (Value.bool b) ∧ (b = true → ∃ (r : D), PureD Try.prog 7 [] [r] ∧ fits [(false, [none])] [r] ∧ ((∃ (y : Value), r = D.v y) ∧ True) ∧ [r] = [D.v (Value.bool true)]) ∧ (b = false → ∃ (r : D), ∃ (r_2 : D), ∃ (r_3 : D), PureD Try.prog 14 [str l] [r, r_2, r_3] ∧ fits [(false, [none]), (false, [none]), (false, [none])] [r, r_2, r_3] ∧ ∃ (r_4 : D), ∃ (r_5 : D), ∃ (r_6 : D), PureD Try.prog 15 [str l] [r_4, r_5, r_6] ∧ fits [(false, [none]), (false, [none]), (false, [none])] [r_4, r_5, r_6] ∧ ∃ (r_7 : D), ∃ (r_8 : D), PureD Try.prog 16 [str l] [r_7, r_8] ∧ fits [(false, [some 1]), (false, [none])] [r_7, r_8] ∧ ∃ (r_9 : D), ∃ (r_10 : D), PureD Try.prog 17 [str l] [r_9, r_10] ∧ fits [(false, [some 1]), (false, [none])] [r_9, r_10] ∧ ∃ (r_11 : D), D.bin BinOp.eql r r_4 = some r_11 ∧ ∃ (b : Bool), r_11 = D.v (Value.bool b) ∧ (b = true → ∃ (r : D), D.bin BinOp.eql r_2 r_5 = some r ∧ ∃ (b : Bool), r = D.v (Value.bool b) ∧ (b = true → ∃ (r : D), D.bin BinOp.eql r_3 r_6 = some r ∧ ∃ (b : Bool), r = D.v (Value.bool b) ∧ (b = true → ∃ (r : D), PureD Try.prog 18 [r_7, r_9] [r] ∧ fits [(false, [none])] [r] ∧ ∃ (b : Bool), r = D.v (Value.bool b) ∧ (b = true → ∃ (r : D), D.bin BinOp.eql r_8 r_10 = some r ∧ ∃ (b : Bool), r = D.v (Value.bool b) ∧ (b = true → ∃ (r : D), PureD Try.prog 7 [] [r] ∧ fits [(false, [none])] [r] ∧ ((∃ (y : Value), r = D.v y) ∧ True) ∧ [r] = [D.v (Value.bool true)]) ∧ (b = false → (True ∧ True) ∧ [D.v (Value.bool false)] = [D.v (Value.bool true)])) ∧ (b = false → (True ∧ True) ∧ [D.v (Value.bool false)] = [D.v (Value.bool true)])) ∧ (b = false → (True ∧ True) ∧ [D.v (Value.bool false)] = [D.v (Value.bool true)])) ∧ (b = false → (True ∧ True) ∧ [D.v (Value.bool false)] = [D.v (Value.bool true)])) ∧ (b = false → (True ∧ True) ∧ [D.v (Value.bool false)] = [D.v (Value.bool true)]))) := by kernel_rfl
set_option maxHeartbeats 4000000 in
theorem getsL (l : List Int) (hB : Bytes l) : PureD Try.prog 4 [str l] [.v (.bool true)] := by
  refine pure_cond (Lp := (fun _ => none)) (by kernel_rfl) Try.func4 (by kernel_rfl) (by kernel_rfl) ?_
  rw [vc_getsL l]
  by_cases hbig : 100 < l.length
  · repeat' (first
      | (refine ex_some (by simp (disch := omega) only [bin_shr, bin_shl, bin_and, bin_or, bin_xor, len_str, toStr_ofL, bin_add, bin_sub, bin_mul, bin_quo, bin_rem, bin_lss, bin_leq, bin_gtr, bin_geq, bin_eql, bin_neq, eqs_cn, eqs_ci, eqs_cb, eqs_cs, Option.map_some, lenT_ofL, lst_ofL, lstSz_ofL, chunk_one, lst_nil, lst_sl, lstSz_sl, lstSz_nil, Bool.and_true, Bool.true_and, Bool.and_false, Bool.false_and, beq_self_eq_true, beq_bb, bne_bb, un_not, un_neg, conv_int, min2_int, max2_int, w64, w32, wu8, wu16, wu32, wu64, tdiv_nn, tmod_nn, cell_zero, cell_succ, cell_v, cells_v, cells_agg, Bool.not_true, Bool.not_false, Int.reduceLT, Int.reduceLE, Int.reduceEq, Int.reduceNeg, Int.reduceAdd, Int.reduceSub, Int.reduceMul, intOf_v, decide_true, decide_false]; rfl) ?_)
      | (refine ex_bool ?_)
      | (exact notAgg_v _)
      | (refine ⟨_, awake, ?_⟩)
      | (refine And.intro ?_ ?_)
      | (intro hx; first | (cases hx; done) | (exfalso; revert hx; simp (disch := omega) only [decide_eq_true_eq, decide_eq_false_iff_not, Bool.not_eq_true', Bool.not_eq_false', Bool.and_eq_true, Bool.and_eq_false_iff, Int.not_lt, Int.not_le, ne_eq, not_false_eq_true, not_true_eq_false, reduceCtorEq, Bool.true_eq_false, Bool.false_eq_true, beq_iff_eq, bne_iff_ne, beq_eq_false_iff_ne, false_or, or_false, true_and, and_true]; done) | (simp (disch := omega) only [decide_eq_true_eq, decide_eq_false_iff_not, Bool.not_eq_true', Bool.not_eq_false', Bool.and_eq_true, Bool.and_eq_false_iff, Int.not_lt, Int.not_le, ne_eq, not_false_eq_true, not_true_eq_false, reduceCtorEq, Bool.true_eq_false, Bool.false_eq_true, beq_iff_eq, bne_iff_ne, beq_eq_false_iff_ne, false_or, or_false, true_and, and_true] at hx; first | (exfalso; omega) | skip) | skip)
      | trivial
      | exact fit_ofL _ _
      | (simp (disch := omega) only [notAgg_v, notAgg_sl, plain_v, fits, fitsOne, fitsCells, xsOf, cell_zero, cell_succ, List.range, List.range.loop, List.map, cond_true, cond_false, D.v.injEq, exists_eq', exists_eq, and_self, and_true, true_and, D.agg.injEq, List.length, exists_eq_left', D.sl.injEq, reduceCtorEq, false_or, true_or, or_true, or_false, cell_zero, cell_succ, cell_v, cells_v, cells_agg, List.length_cons, List.length_nil]; done))
    all_goals first | (exfalso; omega) | (simp; done) | fail
  · have C1 := get l hB (by omega)
    have C2 := rget l hB (by omega)
    have C3 := all l hB (by omega)
    have C4 := rall l hB (by omega)
    have hAl : (A l).1.length ≤ 1000 := A_len l (by omega)
    generalize getF l = p at C1 C2
    generalize A l = r at C3 C4 hAl
    obtain ⟨p1, p2, p3⟩ := p
    obtain ⟨r1, r2⟩ := r
    have M := same _ _ r1 r1 (isL_ofL _ _) (isL_ofL _ _) (by simp only at hAl; omega) (by simp only at hAl; omega)
    rw [show sameL r1 r1 = true by simp [sameL]] at M
    repeat' (first
      | (refine ex_some (by simp (disch := omega) only [bin_shr, bin_shl, bin_and, bin_or, bin_xor, len_str, toStr_ofL, bin_add, bin_sub, bin_mul, bin_quo, bin_rem, bin_lss, bin_leq, bin_gtr, bin_geq, bin_eql, bin_neq, eqs_cn, eqs_ci, eqs_cb, eqs_cs, Option.map_some, lenT_ofL, lst_ofL, lstSz_ofL, chunk_one, lst_nil, lst_sl, lstSz_sl, lstSz_nil, Bool.and_true, Bool.true_and, Bool.and_false, Bool.false_and, beq_self_eq_true, beq_bb, bne_bb, un_not, un_neg, conv_int, min2_int, max2_int, w64, w32, wu8, wu16, wu32, wu64, tdiv_nn, tmod_nn, cell_zero, cell_succ, cell_v, cells_v, cells_agg, Bool.not_true, Bool.not_false, Int.reduceLT, Int.reduceLE, Int.reduceEq, Int.reduceNeg, Int.reduceAdd, Int.reduceSub, Int.reduceMul, intOf_v, decide_true, decide_false]; rfl) ?_)
      | (refine ex_bool ?_)
      | (exact notAgg_v _)
      | (refine ⟨_, _, _, C1, ?_⟩)
      | (refine ⟨_, _, _, C2, ?_⟩)
      | (refine ⟨_, _, C3, ?_⟩)
      | (refine ⟨_, _, C4, ?_⟩)
      | (refine ⟨_, M, ?_⟩)
      | (refine ⟨_, awake, ?_⟩)
      | (refine And.intro ?_ ?_)
      | (intro hx; first | (cases hx; done) | (exfalso; revert hx; simp (disch := omega) only [decide_eq_true_eq, decide_eq_false_iff_not, Bool.not_eq_true', Bool.not_eq_false', Bool.and_eq_true, Bool.and_eq_false_iff, Int.not_lt, Int.not_le, ne_eq, not_false_eq_true, not_true_eq_false, reduceCtorEq, Bool.true_eq_false, Bool.false_eq_true, beq_iff_eq, bne_iff_ne, beq_eq_false_iff_ne, false_or, or_false, true_and, and_true]; done) | (simp (disch := omega) only [decide_eq_true_eq, decide_eq_false_iff_not, Bool.not_eq_true', Bool.not_eq_false', Bool.and_eq_true, Bool.and_eq_false_iff, Int.not_lt, Int.not_le, ne_eq, not_false_eq_true, not_true_eq_false, reduceCtorEq, Bool.true_eq_false, Bool.false_eq_true, beq_iff_eq, bne_iff_ne, beq_eq_false_iff_ne, false_or, or_false, true_and, and_true] at hx; first | (exfalso; omega) | skip) | skip)
      | trivial
      | exact fit_ofL _ _
      | (simp (disch := omega) only [notAgg_v, notAgg_sl, plain_v, fits, fitsOne, fitsCells, xsOf, cell_zero, cell_succ, List.range, List.range.loop, List.map, cond_true, cond_false, D.v.injEq, exists_eq', exists_eq, and_self, and_true, true_and, D.agg.injEq, List.length, exists_eq_left', D.sl.injEq, reduceCtorEq, false_or, true_or, or_true, or_false, cell_zero, cell_succ, cell_v, cells_v, cells_agg, List.length_cons, List.length_nil]; done))
    all_goals first | (exfalso; omega) | exact fit_ofL _ _ | (simp; done) | fail

end Go.Proofs.Ytojbpgkjenghaaa