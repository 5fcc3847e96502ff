/-
  Layer 2: what is put is got; VarintOne.
-/
import Derived.Test.YtojbpgkjenghaaaT5
namespace Go.Proofs.Ytojbpgkjenghaaa
open Go.RowKit
set_option linter.unusedSimpArgs false
set_option linter.unusedVariables false


theorem encS_get0 (n : Int) {s : Nat} (h : 0 < s) : (encS n s).getD 0 0 = b0 n s + mkF s := by
  have : (be n s).getD 0 0 = b0 n s := by have := be_get [] n h; simpa using this
  unfold encS
  rw [List.getD_eq_getElem?_getD, List.getElem?_set_self (by rw [be_len]; exact h), this]; rfl
theorem encS_getS (n : Int) {s k : Nat} (h : k + 1 < s) : (encS n s).getD (k + 1) 0 = n / 256 ^ (s - 1 - (k + 1)) % 256 := by
  unfold encS
  rw [List.getD_eq_getElem?_getD, List.getElem?_set_ne (by omega)]
  simp [be, h]
theorem sz0_mark {x : Int} {s : Nat} (hs : s = 1 ∨ s = 2 ∨ s = 4 ∨ s = 8) (h0 : 0 ≤ x) (h1 : x < 64) : sz0 (x + mkF s) = s := by
  rcases hs with rfl | rfl | rfl | rfl
  · rw [show mkF 1 = 0 from rfl]; unfold sz0; rw [if_pos (by omega)]
  · rw [show mkF 2 = 64 from rfl]; unfold sz0; rw [if_neg (by omega), if_pos (by omega)]
  · rw [show mkF 4 = 128 from rfl]; unfold sz0; rw [if_neg (by omega), if_neg (by omega), if_pos (by omega)]
  · rw [show mkF 8 = 192 from rfl]; unfold sz0; rw [if_neg (by omega), if_neg (by omega), if_neg (by omega)]
theorem mark_sz0 {c : Int} (h0 : 0 ≤ c) (h1 : c < 256) : c % 64 + mkF (sz0 c) = c := by
  unfold sz0; (repeat' split) <;> (unfold mkF; simp; omega)
theorem sz0_in (c : Int) : sz0 c = 1 ∨ sz0 c = 2 ∨ sz0 c = 4 ∨ sz0 c = 8 := by unfold sz0; (repeat' split) <;> simp
theorem getD_app {a b : List Int} {k : Nat} (h : k < a.length) : (a ++ b).getD k 0 = a.getD k 0 := by
  rw [List.getD_eq_getElem?_getD, List.getD_eq_getElem?_getD, List.getElem?_append_left h]
theorem div_step (n : Int) (j : Nat) : n / 256 ^ (j + 1) * 256 + n / 256 ^ j % 256 = n / 256 ^ j := by
  have := q_next n j
  rw [← this]; omega
theorem vF_enc {n : Int} {s : Nat} (h0 : 0 ≤ n) (h1 : n < 64 * 256 ^ (s - 1)) (hs : s = 1 ∨ s = 2 ∨ s = 4 ∨ s = 8) (t : List Int) : ∀ k : Nat, k < s → vF (encS n s ++ t) (k + 1) = n / 256 ^ (s - 1 - k)
  | 0, h => by
    have hb := b0_bd h0 h1
    simp only [vF]
    rw [getD_app (by rw [encS_len]; omega), encS_get0 n (by omega)]
    have e : (0 : Int) < 256 ^ (s - 1) := Int.pow_pos (by decide)
    have h2 : 0 ≤ n / 256 ^ (s - 1) := Int.ediv_nonneg h0 (Int.le_of_lt e)
    have h3 : n / 256 ^ (s - 1) < 64 := Int.ediv_lt_of_lt_mul e h1
    have h4 : b0 n s = n / 256 ^ (s - 1) := by unfold b0; omega
    have h5 : mkF s % 64 = 0 := by rcases hs with rfl | rfl | rfl | rfl <;> decide
    simp only [Nat.sub_zero]
    omega
  | k + 1, h => by
    have ih := vF_enc h0 h1 hs t k (by omega)
    simp only [vF]
    rw [ih, getD_app (by rw [encS_len]; omega), encS_getS n h]
    have := div_step n (s - 1 - (k + 1))
    rw [show s - 1 - (k + 1) + 1 = s - 1 - k by omega] at this
    exact this
theorem getF_enc {n : Int} (h : szF n ≠ 0) (t : List Int) : getF (encV n ++ t) = (n, szF n, 0) := by
  obtain ⟨s, h1, h2, h3, h5, h4⟩ := sz_nat h
  have hb := b0_bd h3 h4
  have hc : (encV n ++ t).getD 0 0 = b0 n s + mkF s := by
    unfold encV; rw [h1, Int.toNat_natCast, getD_app (by rw [encS_len]; omega), encS_get0 n (by omega)]
  have hz : sz0 ((encV n ++ t).getD 0 0) = s := by rw [hc]; exact sz0_mark h2 hb.1 hb.2
  have hv : vF (encV n ++ t) s = n := by
    have e : encV n = encS n s := by unfold encV; rw [h1, Int.toNat_natCast]
    rw [e]
    have := vF_enc h3 h4 h2 t (s - 1) (by omega)
    rw [show s - 1 + 1 = s by omega, Nat.sub_self] at this
    simpa using this
  have hl : (encV n ++ t).length ≥ s := by unfold encV; rw [h1, Int.toNat_natCast, List.length_append, encS_len]; omega
  unfold getF
  rw [if_neg (by intro e; rw [e] at hl; simp at hl; omega), hz, if_neg (by omega), hv, if_pos h1, h1]
theorem vF_div {l : List Int} (hB : Bytes l) (k : Nat) : vF l (k + 2) / 256 = vF l (k + 1) ∧ vF l (k + 2) % 256 = l.getD (k + 1) 0 := by
  have := hB.getD (k + 1)
  simp only [vF]; omega
theorem vF_down {l : List Int} (hB : Bytes l) : ∀ (d k : Nat), vF l (k + 1 + d) / 256 ^ d = vF l (k + 1)
  | 0, k => by simp
  | d + 1, k => by
    rw [← q_next]
    have ih := vF_down hB d (k + 1)
    rw [show k + 1 + (d + 1) = k + 1 + 1 + d by omega, ih]
    exact (vF_div hB k).1
theorem be_get' (n : Int) {s j : Nat} (h : j < s) : (be n s)[j]? = some (n / 256 ^ (s - 1 - j) % 256) := by simp [be, h]
theorem enc_of {l : List Int} (hB : Bytes l) {s : Nat} (hs : sz0 (l.getD 0 0) = s) (hl : s ≤ l.length) : encS (vF l s) s = l.take s := by
  have hs1 := sz0_le (l.getD 0 0)
  have hc := hB.getD 0
  have key : ∀ j : Nat, j < s → vF l s / 256 ^ (s - 1 - j) = vF l (j + 1) := fun j hj => by
    have := vF_down hB (s - 1 - j) j
    rwa [show j + 1 + (s - 1 - j) = s by omega] at this
  apply List.ext_getElem?
  intro j
  by_cases hj : j < s
  · rw [List.getElem?_take, if_pos hj]
    have hlj : l[j]? = some (l.getD j 0) := by rw [List.getD_eq_getElem?_getD, List.getElem?_eq_getElem (by omega)]; rfl
    rw [hlj]
    cases j with
    | zero =>
      have h1 := encS_get0 (vF l s) (s := s) (by omega)
      have h2 : b0 (vF l s) s = l.getD 0 0 % 64 := by
        have h3 := key 0 hj
        simp only [Nat.sub_zero] at h3
        unfold b0; rw [h3]; simp only [vF]; omega
      have h4 := mark_sz0 hc.1 hc.2
      rw [hs] at h4
      rw [h2, h4] at h1
      rw [List.getElem?_eq_getElem (by rw [encS_len]; exact hj)]
      rw [List.getD_eq_getElem?_getD, List.getElem?_eq_getElem (by rw [encS_len]; exact hj)] at h1
      exact congrArg some h1
    | succ k =>
      unfold encS
      rw [List.getElem?_set_ne (by omega), be_get' _ hj, key (k + 1) hj]
      have := (vF_div hB k).2
      exact congrArg some this
  · rw [List.getElem?_eq_none (by rw [encS_len]; omega), List.getElem?_eq_none (by rw [List.length_take]; omega)]
theorem getF_short {l : List Int} {i : Nat} (h : i < sz0 (l.getD 0 0)) : getF (l.take i) = (0, 0, 3) := by
  unfold getF
  by_cases he : l.take i = []
  · rw [if_pos he]
  · rw [if_neg he]
    have hi : 0 < i := by
      rcases Nat.eq_zero_or_pos i with rfl | h0
      · simp at he
      · exact h0
    have e : (l.take i).getD 0 0 = l.getD 0 0 := by
      rw [List.getD_eq_getElem?_getD, List.getElem?_take, if_pos hi, ← List.getD_eq_getElem?_getD]
    rw [e, if_pos (by rw [List.length_take]; omega)]

theorem vc_oneL (l : List Int) : Cond Try.prog (fun k => if k = 10 then some ⟨[8], [], [0, 3, 4, 6, 7], []⟩ else none) Try.f6 [str l] [.v (.bool true)] = ((NotAgg (str l) ∧ True) ∧ ∃ (r : D), D.lenT TypeDesc.string (str l) = some r ∧ ∃ (r_1 : D), D.bin BinOp.gtr r (D.v (Value.int IntKind.i64 100)) = some r_1 ∧ ∃ (b : Bool), r_1 = D.v (Value.bool b) ∧ (b = true → ∃ (r : D), PureD Try.prog 7 [] [r] ∧ fits [(false, [none])] [r] ∧ ((∃ (y : Value), r = D.v y) ∧ True) ∧ [r] = [D.v (Value.bool true)]) ∧ (b = false → ∃ (r : D), ∃ (r_2 : D), ∃ (r_3 : D), PureD Try.prog 14 [str l] [r, r_2, r_3] ∧ fits [(false, [none]), (false, [none]), (false, [none])] [r, r_2, r_3] ∧ ∃ (r_4 : D), D.bin BinOp.neq r_3 (D.v (Value.int IntKind.i64 0)) = some r_4 ∧ ∃ (b : Bool), r_4 = D.v (Value.bool b) ∧ (b = true → ∃ (r_5 : D), D.bin BinOp.eql r (D.v (Value.int IntKind.i64 0)) = some r_5 ∧ ∃ (b : Bool), r_5 = D.v (Value.bool b) ∧ (b = true → ∃ (r : D), D.bin BinOp.eql r_2 (D.v (Value.int IntKind.i64 0)) = some r ∧ ∃ (b : Bool), r = D.v (Value.bool b) ∧ (b = true → ∃ (r : D), PureD Try.prog 7 [] [r] ∧ fits [(false, [none])] [r] ∧ ((∃ (y : Value), r = D.v y) ∧ True) ∧ [r] = [D.v (Value.bool true)]) ∧ (b = false → (True ∧ True) ∧ [D.v (Value.bool false)] = [D.v (Value.bool true)])) ∧ (b = false → (True ∧ True) ∧ [D.v (Value.bool false)] = [D.v (Value.bool true)])) ∧ (b = false → ∃ (r_5 : D), D.bin BinOp.lss r_2 (D.v (Value.int IntKind.i64 1)) = some r_5 ∧ ∃ (b : Bool), r_5 = D.v (Value.bool b) ∧ (b = false → ∃ (r_6 : D), D.lenT TypeDesc.string (str l) = some r_6 ∧ ∃ (r_7 : D), D.bin BinOp.gtr r_2 r_6 = some r_7 ∧ ∃ (b : Bool), r_7 = D.v (Value.bool b) ∧ (b = false → ∃ (r_8 : D), D.bin BinOp.gtr r_2 (D.v (Value.int IntKind.i64 8)) = some r_8 ∧ ∃ (b : Bool), r_8 = D.v (Value.bool b) ∧ (b = true → (True ∧ True) ∧ [D.v (Value.bool false)] = [D.v (Value.bool true)]) ∧ (b = false → ∃ (r_9 : D), ∃ (r_10 : D), PureD Try.prog 8 [r] [r_9, r_10] ∧ fits [(false, [some 1]), (false, [none])] [r_9, r_10] ∧ ∃ (I : List D → Prop), ∃ (μ : List D → Nat), ((D.v (Value.int IntKind.i64 0) = D.v (Value.int IntKind.i64 0) ∧ str l = str l ∧ r = r ∧ r_2 = r_2 ∧ true = true ∧ r_10 = r_10 ∧ True) ∧ ((true = true ∧ r_9 = r_9) ∧ True) ∧ I [D.v (Value.int IntKind.i64 0)]) ∧ ∀ (r_11 : D), I [r_11] → ∃ (r_12 : D), D.bin BinOp.lss r_11 r_2 = some r_12 ∧ ∃ (b : Bool), r_12 = D.v (Value.bool b) ∧ (b = true → ∃ (r_13 : D), (str l).cutS none (some r_11) = some r_13 ∧ ∃ (r_14 : D), ∃ (r_15 : D), ∃ (r_16 : D), PureD Try.prog 14 [r_13] [r_14, r_15, r_16] ∧ fits [(false, [none]), (false, [none]), (false, [none])] [r_14, r_15, r_16] ∧ ∃ (r_17 : D), D.bin BinOp.neq r_16 (D.v (Value.int IntKind.i64 3)) = some r_17 ∧ ∃ (b : Bool), r_17 = D.v (Value.bool b) ∧ (b = true → (True ∧ True) ∧ [D.v (Value.bool false)] = [D.v (Value.bool true)]) ∧ (b = false → ∃ (r_18 : D), D.bin BinOp.add r_11 (D.v (Value.int IntKind.i64 1)) = some r_18 ∧ (r_18 = r_18 ∧ str l = str l ∧ r = r ∧ r_2 = r_2 ∧ true = true ∧ r_10 = r_10 ∧ True) ∧ ((true = true ∧ r_9 = r_9) ∧ True) ∧ I [r_18] ∧ μ [r_18] < μ [r_11])) ∧ (b = false → ∃ (r_13 : D), r_9.toStr = some r_13 ∧ ∃ (r_14 : D), (str l).cutS none (some r_2) = some r_14 ∧ ∃ (r_15 : D), D.bin BinOp.eql r_13 r_14 = some r_15 ∧ ∃ (b : Bool), r_15 = D.v (Value.bool b) ∧ (b = true → ∃ (r_16 : D), D.bin BinOp.eql r_10 (D.v (Value.int IntKind.i64 0)) = some r_16 ∧ ∃ (b : Bool), r_16 = D.v (Value.bool b) ∧ (b = true → ∃ (r_17 : D), PureD Try.prog 12 [r] [r_17] ∧ fits [(false, [none])] [r_17] ∧ ∃ (r : D), D.bin BinOp.eql r_17 r_2 = some r ∧ ∃ (b : Bool), r = D.v (Value.bool b) ∧ (b = true → ∃ (r : D), PureD Try.prog 7 [] [r] ∧ fits [(false, [none])] [r] ∧ ((∃ (y : Value), r = D.v y) ∧ True) ∧ [r] = [D.v (Value.bool true)]) ∧ (b = false → (True ∧ True) ∧ [D.v (Value.bool false)] = [D.v (Value.bool true)])) ∧ (b = false → (True ∧ True) ∧ [D.v (Value.bool false)] = [D.v (Value.bool true)])) ∧ (b = false → (True ∧ True) ∧ [D.v (Value.bool false)] = [D.v (Value.bool true)])))) ∧ (b = true → (True ∧ True) ∧ [D.v (Value.bool false)] = [D.v (Value.bool true)])) ∧ (b = true → (True ∧ True) ∧ [D.v (Value.bool false)] = [D.v (Value.bool true)])))) := by kernel_rfl
set_option maxHeartbeats 4000000 in
theorem oneL (l : List Int) (hB : Bytes l) : PureD Try.prog 6 [str l] [.v (.bool true)] := by
  refine pure_cond (Lp := (fun k => if k = 10 then some ⟨[8], [], [0, 3, 4, 6, 7], []⟩ else none)) (by kernel_rfl) Try.func6 (by kernel_rfl) (by kernel_rfl) ?_
  rw [vc_oneL l]
  by_cases hbig : 100 < l.length
  · repeat' (first
      | (refine ex_some (by simp (disch := omega) only [bin_shr, bin_shl, bin_and, bin_or, bin_xor, len_str, toStr_ofL, bin_add, bin_sub, bin_mul, bin_quo, bin_rem, bin_lss, bin_leq, bin_gtr, bin_geq, bin_eql, bin_neq, eqs_cn, eqs_ci, eqs_cb, eqs_cs, Option.map_some, lenT_ofL, lst_ofL, lstSz_ofL, chunk_one, lst_nil, lst_sl, lstSz_sl, lstSz_nil, Bool.and_true, Bool.true_and, Bool.and_false, Bool.false_and, beq_self_eq_true, beq_bb, bne_bb, un_not, un_neg, conv_int, min2_int, max2_int, w64, w32, wu8, wu16, wu32, wu64, tdiv_nn, tmod_nn, cell_zero, cell_succ, cell_v, cells_v, cells_agg, Bool.not_true, Bool.not_false, Int.reduceLT, Int.reduceLE, Int.reduceEq, Int.reduceNeg, Int.reduceAdd, Int.reduceSub, Int.reduceMul, intOf_v, decide_true, decide_false]; rfl) ?_)
      | (refine ex_bool ?_)
      | (exact notAgg_v _)
      | (refine ⟨_, awake, ?_⟩)
      | (refine And.intro ?_ ?_)
      | (intro hx; first | (cases hx; done) | (exfalso; revert hx; simp (disch := omega) only [decide_eq_true_eq, decide_eq_false_iff_not, Bool.not_eq_true', Bool.not_eq_false', Bool.and_eq_true, Bool.and_eq_false_iff, Int.not_lt, Int.not_le, ne_eq, not_false_eq_true, not_true_eq_false, reduceCtorEq, Bool.true_eq_false, Bool.false_eq_true, beq_iff_eq, bne_iff_ne, beq_eq_false_iff_ne, false_or, or_false, true_and, and_true]; done) | (simp (disch := omega) only [decide_eq_true_eq, decide_eq_false_iff_not, Bool.not_eq_true', Bool.not_eq_false', Bool.and_eq_true, Bool.and_eq_false_iff, Int.not_lt, Int.not_le, ne_eq, not_false_eq_true, not_true_eq_false, reduceCtorEq, Bool.true_eq_false, Bool.false_eq_true, beq_iff_eq, bne_iff_ne, beq_eq_false_iff_ne, false_or, or_false, true_and, and_true] at hx; first | (exfalso; omega) | skip) | skip)
      | trivial
      | exact fit_ofL _ _
      | (simp (disch := omega) only [notAgg_v, notAgg_sl, plain_v, fits, fitsOne, fitsCells, xsOf, cell_zero, cell_succ, List.range, List.range.loop, List.map, cond_true, cond_false, D.v.injEq, exists_eq', exists_eq, and_self, and_true, true_and, D.agg.injEq, List.length, exists_eq_left', D.sl.injEq, reduceCtorEq, false_or, true_or, or_true, or_false, cell_zero, cell_succ, cell_v, cells_v, cells_agg, List.length_cons, List.length_nil]; done))
    all_goals first | (exfalso; omega) | exact fit_ofL _ _ | omega | (simp only [leftG]; omega) | (simp; done) | fail
  · have C1 := get l hB (by omega)
    rcases getF_cases l with hg | hg | ⟨hg1, hg2, hg3, hg4⟩
    · rw [hg] at C1
      repeat' (first
        | (refine ex_some (by simp (disch := omega) only [bin_shr, bin_shl, bin_and, bin_or, bin_xor, len_str, toStr_ofL, bin_add, bin_sub, bin_mul, bin_quo, bin_rem, bin_lss, bin_leq, bin_gtr, bin_geq, bin_eql, bin_neq, eqs_cn, eqs_ci, eqs_cb, eqs_cs, Option.map_some, lenT_ofL, lst_ofL, lstSz_ofL, chunk_one, lst_nil, lst_sl, lstSz_sl, lstSz_nil, Bool.and_true, Bool.true_and, Bool.and_false, Bool.false_and, beq_self_eq_true, beq_bb, bne_bb, un_not, un_neg, conv_int, min2_int, max2_int, w64, w32, wu8, wu16, wu32, wu64, tdiv_nn, tmod_nn, cell_zero, cell_succ, cell_v, cells_v, cells_agg, Bool.not_true, Bool.not_false, Int.reduceLT, Int.reduceLE, Int.reduceEq, Int.reduceNeg, Int.reduceAdd, Int.reduceSub, Int.reduceMul, intOf_v, decide_true, decide_false]; rfl) ?_)
        | (refine ex_bool ?_)
        | (exact notAgg_v _)
        | (refine ⟨_, _, _, C1, ?_⟩)
        | (refine ⟨_, awake, ?_⟩)
        | (refine And.intro ?_ ?_)
        | (intro hx; first | (cases hx; done) | (exfalso; revert hx; simp (disch := omega) only [decide_eq_true_eq, decide_eq_false_iff_not, Bool.not_eq_true', Bool.not_eq_false', Bool.and_eq_true, Bool.and_eq_false_iff, Int.not_lt, Int.not_le, ne_eq, not_false_eq_true, not_true_eq_false, reduceCtorEq, Bool.true_eq_false, Bool.false_eq_true, beq_iff_eq, bne_iff_ne, beq_eq_false_iff_ne, false_or, or_false, true_and, and_true]; done) | (simp (disch := omega) only [decide_eq_true_eq, decide_eq_false_iff_not, Bool.not_eq_true', Bool.not_eq_false', Bool.and_eq_true, Bool.and_eq_false_iff, Int.not_lt, Int.not_le, ne_eq, not_false_eq_true, not_true_eq_false, reduceCtorEq, Bool.true_eq_false, Bool.false_eq_true, beq_iff_eq, bne_iff_ne, beq_eq_false_iff_ne, false_or, or_false, true_and, and_true] at hx; first | (exfalso; omega) | skip) | skip)
        | trivial
        | exact fit_ofL _ _
        | (simp (disch := omega) only [notAgg_v, notAgg_sl, plain_v, fits, fitsOne, fitsCells, xsOf, cell_zero, cell_succ, List.range, List.range.loop, List.map, cond_true, cond_false, D.v.injEq, exists_eq', exists_eq, and_self, and_true, true_and, D.agg.injEq, List.length, exists_eq_left', D.sl.injEq, reduceCtorEq, false_or, true_or, or_true, or_false, cell_zero, cell_succ, cell_v, cells_v, cells_agg, List.length_cons, List.length_nil]; done))
      all_goals first | (exfalso; omega) | exact fit_ofL _ _ | omega | (simp only [leftG]; omega) | (simp; done) | fail
    · rw [hg] at C1
      repeat' (first
        | (refine ex_some (by simp (disch := omega) only [bin_shr, bin_shl, bin_and, bin_or, bin_xor, len_str, toStr_ofL, bin_add, bin_sub, bin_mul, bin_quo, bin_rem, bin_lss, bin_leq, bin_gtr, bin_geq, bin_eql, bin_neq, eqs_cn, eqs_ci, eqs_cb, eqs_cs, Option.map_some, lenT_ofL, lst_ofL, lstSz_ofL, chunk_one, lst_nil, lst_sl, lstSz_sl, lstSz_nil, Bool.and_true, Bool.true_and, Bool.and_false, Bool.false_and, beq_self_eq_true, beq_bb, bne_bb, un_not, un_neg, conv_int, min2_int, max2_int, w64, w32, wu8, wu16, wu32, wu64, tdiv_nn, tmod_nn, cell_zero, cell_succ, cell_v, cells_v, cells_agg, Bool.not_true, Bool.not_false, Int.reduceLT, Int.reduceLE, Int.reduceEq, Int.reduceNeg, Int.reduceAdd, Int.reduceSub, Int.reduceMul, intOf_v, decide_true, decide_false]; rfl) ?_)
        | (refine ex_bool ?_)
        | (exact notAgg_v _)
        | (refine ⟨_, _, _, C1, ?_⟩)
        | (refine ⟨_, awake, ?_⟩)
        | (refine And.intro ?_ ?_)
        | (intro hx; first | (cases hx; done) | (exfalso; revert hx; simp (disch := omega) only [decide_eq_true_eq, decide_eq_false_iff_not, Bool.not_eq_true', Bool.not_eq_false', Bool.and_eq_true, Bool.and_eq_false_iff, Int.not_lt, Int.not_le, ne_eq, not_false_eq_true, not_true_eq_false, reduceCtorEq, Bool.true_eq_false, Bool.false_eq_true, beq_iff_eq, bne_iff_ne, beq_eq_false_iff_ne, false_or, or_false, true_and, and_true]; done) | (simp (disch := omega) only [decide_eq_true_eq, decide_eq_false_iff_not, Bool.not_eq_true', Bool.not_eq_false', Bool.and_eq_true, Bool.and_eq_false_iff, Int.not_lt, Int.not_le, ne_eq, not_false_eq_true, not_true_eq_false, reduceCtorEq, Bool.true_eq_false, Bool.false_eq_true, beq_iff_eq, bne_iff_ne, beq_eq_false_iff_ne, false_or, or_false, true_and, and_true] at hx; first | (exfalso; omega) | skip) | skip)
        | trivial
        | exact fit_ofL _ _
        | (simp (disch := omega) only [notAgg_v, notAgg_sl, plain_v, fits, fitsOne, fitsCells, xsOf, cell_zero, cell_succ, List.range, List.range.loop, List.map, cond_true, cond_false, D.v.injEq, exists_eq', exists_eq, and_self, and_true, true_and, D.agg.injEq, List.length, exists_eq_left', D.sl.injEq, reduceCtorEq, false_or, true_or, or_true, or_false, cell_zero, cell_succ, cell_v, cells_v, cells_agg, List.length_cons, List.length_nil]; done))
      all_goals first | (exfalso; omega) | exact fit_ofL _ _ | omega | (simp only [leftG]; omega) | (simp; done) | fail
    · rw [hg4] at C1
      have hk := sz0_le (l.getD 0 0)
      have he := enc_of hB rfl hg2
      generalize hkk : sz0 (l.getD 0 0) = k at C1 hg2 hg3 hk he
      have hP : joinF [vF l k] = (l.take k, 0) := by rw [putF, if_neg (by omega)]; unfold encV; rw [hg3, Int.toNat_natCast, he]
      have P := put (vF l k)
      rw [hP] at P
      have Z := size (vF l k)
      rw [hg3] at Z
      have q := str_eq (hB.take k) (hB.take k) rfl
      have hcut2 := cutS_to l .i64 (a := k) hg2
      repeat' (first
        | (refine ex_some (by simp (disch := omega) only [bin_shr, bin_shl, bin_and, bin_or, bin_xor, len_str, toStr_ofL, bin_add, bin_sub, bin_mul, bin_quo, bin_rem, bin_lss, bin_leq, bin_gtr, bin_geq, bin_eql, bin_neq, eqs_cn, eqs_ci, eqs_cb, eqs_cs, Option.map_some, lenT_ofL, lst_ofL, lstSz_ofL, chunk_one, lst_nil, lst_sl, lstSz_sl, lstSz_nil, Bool.and_true, Bool.true_and, Bool.and_false, Bool.false_and, beq_self_eq_true, beq_bb, bne_bb, un_not, un_neg, conv_int, min2_int, max2_int, w64, w32, wu8, wu16, wu32, wu64, tdiv_nn, tmod_nn, cell_zero, cell_succ, cell_v, cells_v, cells_agg, Bool.not_true, Bool.not_false, Int.reduceLT, Int.reduceLE, Int.reduceEq, Int.reduceNeg, Int.reduceAdd, Int.reduceSub, Int.reduceMul, intOf_v, decide_true, decide_false]; rfl) ?_)
        | (refine ex_bool ?_)
        | (exact notAgg_v _)
        | (refine ⟨_, _, _, C1, ?_⟩)
        | (refine ⟨_, _, P, ?_⟩)
        | (refine ⟨_, Z, ?_⟩)
        | (refine ⟨_, awake, ?_⟩)
        | (refine ⟨(fun r => ∃ i : Nat, i ≤ k ∧ r = [.v (.int .i64 (i : Nat))]), leftG k, ?_⟩)
        | (refine fun (r2 : D) (hI : (fun r => ∃ i : Nat, i ≤ k ∧ r = [.v (.int .i64 (i : Nat))]) [r2]) => ?_; obtain ⟨i, hi, hl0⟩ := hI; simp only [List.cons.injEq, and_true] at hl0; subst hl0; by_cases hlt : i < k <;> first | (have hi1 : i < k := (by omega); have C2 := get (l.take i) (hB.take i) (by rw [List.length_take]; omega); rw [getF_short (l := l) (i := i) (by omega)] at C2; simp only at C2; have hcut := cutS_to l .i64 (a := i) (by omega); have inl : True := trivial) | (have inl2 : True := trivial))
        | (refine ex_some hcut ?_)
        | (refine ⟨_, _, _, C2, ?_⟩)
        | (refine ex_some hcut2 ?_)
        | (refine ex_some q ?_)
        | (have := inl; refine ⟨i + 1, by omega, ?_⟩)
        | (refine ⟨0, Nat.zero_le _, rfl⟩)
        | (refine And.intro ?_ ?_)
        | (intro hx; first | (cases hx; done) | (exfalso; revert hx; simp (disch := omega) only [decide_eq_true_eq, decide_eq_false_iff_not, Bool.not_eq_true', Bool.not_eq_false', Bool.and_eq_true, Bool.and_eq_false_iff, Int.not_lt, Int.not_le, ne_eq, not_false_eq_true, not_true_eq_false, reduceCtorEq, Bool.true_eq_false, Bool.false_eq_true, beq_iff_eq, bne_iff_ne, beq_eq_false_iff_ne, false_or, or_false, true_and, and_true]; done) | (simp (disch := omega) only [decide_eq_true_eq, decide_eq_false_iff_not, Bool.not_eq_true', Bool.not_eq_false', Bool.and_eq_true, Bool.and_eq_false_iff, Int.not_lt, Int.not_le, ne_eq, not_false_eq_true, not_true_eq_false, reduceCtorEq, Bool.true_eq_false, Bool.false_eq_true, beq_iff_eq, bne_iff_ne, beq_eq_false_iff_ne, false_or, or_false, true_and, and_true] at hx; first | (exfalso; omega) | skip) | skip)
        | trivial
        | exact fit_ofL _ _
        | (simp (disch := omega) only [notAgg_v, notAgg_sl, plain_v, fits, fitsOne, fitsCells, xsOf, cell_zero, cell_succ, List.range, List.range.loop, List.map, cond_true, cond_false, D.v.injEq, exists_eq', exists_eq, and_self, and_true, true_and, D.agg.injEq, List.length, exists_eq_left', D.sl.injEq, reduceCtorEq, false_or, true_or, or_true, or_false, cell_zero, cell_succ, cell_v, cells_v, cells_agg, List.length_cons, List.length_nil]; done))
      all_goals first | (exfalso; omega) | exact fit_ofL _ _ | omega | (simp only [leftG]; omega) | (simp; done) | fail

end Go.Proofs.Ytojbpgkjenghaaa