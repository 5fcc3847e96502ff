/-
  Layer 1: what every right program reads; CursorBack.
-/
import Derived.Test.YtfjmfimalibhfaaT2
namespace Go.Proofs.Ytfjmfimalibhfaa
open Go.RowKit
set_option linter.unusedSimpArgs false
set_option linter.unusedVariables false


theorem str_eq {l m : List Int} (h1 : Bytes l) (h2 : Bytes m) (h : l = m) : D.bin .eql (str l) (str m) = some (.v (.bool true)) := by
  rw [bin_seql h1 h2]; simp [h]

def wN (ws : List Int) (i : Nat) : Nat := (4 + ws.getD i 0 % 4).toNat
def J (xs ws : List Int) : Nat → List Int
  | 0 => []
  | i + 1 => J xs ws i ++ be (xs.getD i 0) (wN ws i)
theorem wN_bd (ws : List Int) (i : Nat) : 4 ≤ wN ws i ∧ wN ws i ≤ 7 := by unfold wN; omega
theorem J_len_succ (xs ws : List Int) (i : Nat) : (J xs ws (i + 1)).length = (J xs ws i).length + wN ws i := by simp [J, be_len]
theorem J_len_le (xs ws : List Int) : ∀ i : Nat, (J xs ws i).length ≤ 7 * i
  | 0 => by simp [J]
  | i + 1 => by have := J_len_le xs ws i; have := (wN_bd ws i).2; rw [J_len_succ]; omega
theorem J_mono (xs ws : List Int) {i : Nat} : ∀ d : Nat, (J xs ws (i + d)).take (J xs ws i).length = J xs ws i ∧ (J xs ws i).length ≤ (J xs ws (i + d)).length
  | 0 => by simp
  | d + 1 => by
    obtain ⟨h1, h2⟩ := J_mono xs ws (i := i) d
    rw [← Nat.add_assoc]
    refine ⟨?_, by rw [J_len_succ]; omega⟩
    show (J xs ws (i + d) ++ _).take _ = _
    rw [List.take_append_of_le_length h2, h1]
theorem J_bytes (xs ws : List Int) : ∀ i : Nat, Bytes (J xs ws i)
  | 0 => Bytes.nil
  | i + 1 => (J_bytes xs ws i).append (be_bytes _ _)
theorem vN_be {n : Int} (h0 : 0 ≤ n) : ∀ {s : Nat}, n < 256 ^ s → vN (be n s) = n := by
  intro s h
  have q_next : ∀ i : Nat, n / 256 ^ i / 256 = n / 256 ^ (i + 1) := fun i => by rw [Int.pow_succ, Int.ediv_ediv_of_nonneg (Int.pow_nonneg (by decide))]
  have key : ∀ k : Nat, k ≤ s → vN ((be n s).take k) = n / 256 ^ (s - k) := by
    intro k
    induction k with
    | zero => intro _; rw [List.take_zero, Nat.sub_zero, Int.ediv_eq_zero_of_lt h0 h]; rfl
    | succ k ih =>
      intro hk
      rw [be_take n (by omega), vN_snoc, ih (by omega)]
      have := q_next (s - 1 - k)
      rw [show s - 1 - k + 1 = s - k by omega] at this
      rw [show s - (k + 1) = s - 1 - k by omega]
      omega
  have := key s (Nat.le_refl _)
  rw [List.take_of_length_le (by rw [be_len]; exact Nat.le_refl _), Nat.sub_self] at this
  simpa using this
theorem pow_le256 {w : Nat} (h : 4 ≤ w ∧ w ≤ 7) : (4294967296 : Int) ≤ 256 ^ w := by
  rcases (show w = 4 ∨ w = 5 ∨ w = 6 ∨ w = 7 by omega) with rfl | rfl | rfl | rfl <;> decide
theorem fi_ok {n : Int} {w : Nat} (h0 : 0 ≤ n) (h1 : n < 4294967296) (h : 4 ≤ w ∧ w ≤ 7) : fiF n (w : Nat) = true := by
  unfold fiF
  rw [decide_eq_true_eq]
  refine ⟨by omega, by omega, h0, ?_⟩
  have e : (2 : Int) ^ (8 * ((w : Nat) : Int)).toNat = 256 ^ w := by
    rw [show (8 * ((w : Nat) : Int)).toNat = 8 * w by omega, Int.pow_mul]; rfl
  rw [e]
  exact Int.ediv_eq_zero_of_lt h0 (Int.lt_of_lt_of_le h1 (pow_le256 h))
theorem cu_at {T xs ws : List Int} {i : Nat} (h : T.take (J xs ws (i + 1)).length = J xs ws (i + 1)) : cuF T ((J xs ws i).length : Nat) 0 (wN ws i : Nat) (decide ((1 : Int) ≤ (wN ws i : Nat) ∧ ((wN ws i : Nat) : Int) ≤ 7)) = (((((J xs ws (i + 1)).length : Nat) : Int), (0 : Int)), be (xs.getD i 0) (wN ws i)) := by
  have hw := wN_bd ws i
  have hl := J_len_succ xs ws i
  have hT : (J xs ws (i + 1)).length ≤ T.length := by
    have := congrArg List.length h
    rw [List.length_take] at this; omega
  have hd : (T.drop (J xs ws i).length).take (wN ws i) = be (xs.getD i 0) (wN ws i) := by
    have h2 : (T.take (J xs ws (i + 1)).length).drop (J xs ws i).length = be (xs.getD i 0) (wN ws i) := by rw [h]; show (J xs ws i ++ _).drop _ = _; exact List.drop_left
    rw [List.drop_take, hl, Nat.add_sub_cancel_left] at h2
    exact h2
  unfold cuF
  rw [if_neg (by omega), if_neg (by simp [wiF]; omega), if_neg (by simp; omega), if_neg (by omega)]
  simp only [Int.toNat_natCast]
  rw [hd, hl]; simp
theorem cu_short {T xs ws : List Int} {i : Nat} (h : (J xs ws i).length ≤ T.length) (h2 : T.length < (J xs ws (i + 1)).length) : cuF T ((J xs ws i).length : Nat) 0 (wN ws i : Nat) (decide ((1 : Int) ≤ (wN ws i : Nat) ∧ ((wN ws i : Nat) : Int) ≤ 7)) = (((((J xs ws i).length : Nat) : Int), (3 : Int)), []) := by
  have hw := wN_bd ws i
  have hl := J_len_succ xs ws i
  unfold cuF
  rw [if_neg (by omega), if_neg (by simp [wiF]; omega), if_neg (by simp; omega), if_pos (by omega)]

theorem vc_awake  : Cond Try.prog (fun _ => none) Try.f7 [] [.v (.bool true)] = (True ∧ ∃ (r : D), PureD Try.prog 20 [D.v (Value.string { data := { toList := [1, 2, 3] } })] [r] ∧ fits [(true, [none, none, none])] [r] ∧ ∃ (r_1 : D), ∃ (r_2 : D), PureD Try.prog 9 [D.agg [r.cell 0, r.cell 1, r.cell 2], D.v (Value.int IntKind.i64 2)] [r_1, r_2] ∧ fits [(true, [none, none, none]), (false, [none])] [r_1, r_2] ∧ ∃ (r : D), ∃ (r_3 : D), PureD Try.prog 11 [D.agg [r_1.cell 0, r_1.cell 1, r_1.cell 2], D.v (Value.int IntKind.i64 2)] [r, r_3] ∧ fits [(true, [none, none, none]), (false, [none])] [r, r_3] ∧ ∃ (r_4 : D), ∃ (r_5 : D), PureD Try.prog 13 [D.agg [r_1.cell 0, r_1.cell 1, r_1.cell 2]] [r_4, r_5] ∧ fits [(true, [none, none, none]), (false, [none])] [r_4, r_5] ∧ ∃ (r_6 : D), D.bin BinOp.eql r_2 (D.v (Value.int IntKind.i64 258)) = some r_6 ∧ ∃ (b : Bool), r_6 = D.v (Value.bool b) ∧ (b = true → ∃ (r_7 : D), PureD Try.prog 16 [D.agg [r_1.cell 0, r_1.cell 1, r_1.cell 2]] [r_7] ∧ fits [(false, [none])] [r_7] ∧ ∃ (r_8 : D), D.bin BinOp.eql r_7 (D.v (Value.int IntKind.i64 1)) = some r_8 ∧ ∃ (b : Bool), r_8 = D.v (Value.bool b) ∧ (b = true → ∃ (r_9 : D), PureD Try.prog 18 [D.agg [r_1.cell 0, r_1.cell 1, r_1.cell 2]] [r_9] ∧ fits [(false, [none])] [r_9] ∧ ∃ (r_10 : D), D.bin BinOp.eql r_9 (D.v (Value.int IntKind.i64 4)) = some r_10 ∧ ∃ (b : Bool), r_10 = D.v (Value.bool b) ∧ (b = true → ∃ (r_11 : D), D.bin BinOp.eql r_3 (D.v (Value.string { data := { toList := [] } })) = some r_11 ∧ ∃ (b : Bool), r_11 = D.v (Value.bool b) ∧ (b = true → ∃ (r_12 : D), D.bin BinOp.eql (r.cell 2) (D.v (Value.int IntKind.i64 3)) = some r_12 ∧ ∃ (b : Bool), r_12 = D.v (Value.bool b) ∧ (b = true → ∃ (r_13 : D), PureD Try.prog 16 [D.agg [r.cell 0, r.cell 1, r.cell 2]] [r_13] ∧ fits [(false, [none])] [r_13] ∧ ∃ (r : D), D.bin BinOp.eql r_13 (D.v (Value.int IntKind.i64 0)) = some r ∧ ∃ (b : Bool), r = D.v (Value.bool b) ∧ (b = true → ∃ (r : D), D.bin BinOp.eql r_5 (D.v (Value.string { data := { toList := [3] } })) = some r ∧ ∃ (b : Bool), r = D.v (Value.bool b) ∧ (b = true → ∃ (r : D), PureD Try.prog 18 [D.agg [r_4.cell 0, r_4.cell 1, r_4.cell 2]] [r] ∧ fits [(false, [none])] [r] ∧ ∃ (r_14 : D), D.bin BinOp.eql r (D.v (Value.int IntKind.i64 0)) = some r_14 ∧ ∃ (b : Bool), r_14 = D.v (Value.bool b) ∧ (b = true → NonE 1 (D.sl 1 (chunks false 1 1 [D.v (Value.int IntKind.u8 120)])) ∧ ∃ (r : D), PureD Try.prog 22 [D.sl 1 (chunks false 1 1 [D.v (Value.int IntKind.u8 120)]), D.v (Value.int IntKind.i64 258), D.v (Value.int IntKind.i64 2)] [r] ∧ fits [(false, [some 1])] [r] ∧ ∃ (r_15 : D), r.toStr = some r_15 ∧ ∃ (r : D), D.bin BinOp.eql r_15 (D.v (Value.string { data := { toList := [120, 1, 2] } })) = some r ∧ ∃ (b : Bool), r = D.v (Value.bool b) ∧ (b = true → ∃ (r : D), PureD Try.prog 24 [D.v (Value.int IntKind.i64 255), D.v (Value.int IntKind.i64 1)] [r] ∧ fits [(false, [none])] [r] ∧ ∃ (b : Bool), r = D.v (Value.bool b) ∧ (b = true → ∃ (r : D), PureD Try.prog 24 [D.v (Value.int IntKind.i64 256), D.v (Value.int IntKind.i64 1)] [r] ∧ fits [(false, [none])] [r] ∧ ∃ (r_16 : D), D.un UnOp.not r = some r_16 ∧ ∃ (b : Bool), r_16 = D.v (Value.bool b) ∧ ∃ (b : Bool), r_16 = D.v (Value.bool b) ∧ ∃ (b : Bool), r_16 = D.v (Value.bool b) ∧ ∃ (b : Bool), r_16 = D.v (Value.bool b) ∧ ((∃ (y : Value), r_16 = D.v y) ∧ True) ∧ [r_16] = [D.v (Value.bool true)]) ∧ (b = false → (True ∧ True) ∧ [D.v (Value.bool false)] = [D.v (Value.bool true)])) ∧ (b = false → (True ∧ True) ∧ [D.v (Value.bool false)] = [D.v (Value.bool true)])) ∧ (b = false → (True ∧ True) ∧ [D.v (Value.bool false)] = [D.v (Value.bool true)])) ∧ (b = false → (True ∧ True) ∧ [D.v (Value.bool false)] = [D.v (Value.bool true)])) ∧ (b = false → (True ∧ True) ∧ [D.v (Value.bool false)] = [D.v (Value.bool true)])) ∧ (b = false → (True ∧ True) ∧ [D.v (Value.bool false)] = [D.v (Value.bool true)])) ∧ (b = false → (True ∧ True) ∧ [D.v (Value.bool false)] = [D.v (Value.bool true)])) ∧ (b = false → (True ∧ True) ∧ [D.v (Value.bool false)] = [D.v (Value.bool true)])) ∧ (b = false → (True ∧ True) ∧ [D.v (Value.bool false)] = [D.v (Value.bool true)])) ∧ (b = false → (True ∧ True) ∧ [D.v (Value.bool false)] = [D.v (Value.bool true)])) := by kernel_rfl
set_option maxHeartbeats 8000000 in
theorem awake   : PureD Try.prog 7 [] [.v (.bool true)] := by
  refine pure_cond (Lp := (fun _ => none)) (by kernel_rfl) Try.func7 (by kernel_rfl) (by kernel_rfl) ?_
  rw [vc_awake]
  have O0 : PureD Try.prog 20 [.v (.string ⟨#[1, 2, 3]⟩)] [.agg [str ([1, 2, 3]), .v (.int .i64 (0)), .v (.int .i64 (0))]] := opn [1, 2, 3]
  have N0 := number [1, 2, 3] 0 0 2 (by decide) (by decide) (by unfold Bytes; decide) (by decide) (by decide)
  rw [show cuF [1, 2, 3] 0 0 2 (decide ((1 : Int) ≤ 2 ∧ (2 : Int) ≤ 7)) = ((2, 0), [1, 2]) by decide, show vN ((2, 0), [1, 2]).2 = 258 by decide] at N0
  simp only at N0
  have K0 := take [1, 2, 3] 2 0 2 (by decide) (by decide) (by unfold Bytes; decide) (by decide) (by decide)
  rw [show cuF [1, 2, 3] 2 0 2 (decide ((0 : Int) ≤ 2)) = ((2, 3), []) by decide] at K0
  simp only at K0
  have R0 := rest [1, 2, 3] 2 0 (by decide) (by decide) (by unfold Bytes; decide) (by decide)
  rw [show cuF [1, 2, 3] 2 0 (leF [1, 2, 3] 2 0) true = ((3, 0), [3]) by decide] at R0
  simp only at R0
  have F0 := left [1, 2, 3] 2 0 (by decide) (by decide) (by unfold Bytes; decide) (by decide)
  rw [show leF [1, 2, 3] 2 0 = 1 by decide] at F0
  have F1 := left [1, 2, 3] 2 3 (by decide) (by decide) (by unfold Bytes; decide) (by decide)
  rw [show leF [1, 2, 3] 2 3 = 0 by decide] at F1
  have G0 := done [1, 2, 3] 2 0 (by decide) (by decide) (by unfold Bytes; decide) (by decide)
  rw [show doF [1, 2, 3] 2 0 = 4 by decide] at G0
  have G1 := done [1, 2, 3] 3 0 (by decide) (by decide) (by unfold Bytes; decide) (by decide)
  rw [show doF [1, 2, 3] 3 0 = 0 by decide] at G1
  have Y0 := lay _ [120] 258 2 (isL_sl 1 (ints .u8 [120])) (by decide) (by decide) (by decide) (by decide)
  rw [show [120] ++ be 258 2 = [120, 1, 2] by decide] at Y0
  have H0 := fitC 255 1
  rw [show fiF 255 1 = true by decide] at H0
  have H1 := fitC 256 1
  rw [show fiF 256 1 = false by decide] at H1
  have q0 : D.bin .eql (str []) (.v (.string ⟨#[]⟩)) = some (.v (.bool true)) := str_eq (l := []) (m := []) Bytes.nil Bytes.nil rfl
  have q1 : D.bin .eql (str [3]) (.v (.string ⟨#[3]⟩)) = some (.v (.bool true)) := str_eq (l := [3]) (m := [3]) (by unfold Bytes; decide) (by unfold Bytes; decide) rfl
  have q2 : D.bin .eql (str [120, 1, 2]) (.v (.string ⟨#[120, 1, 2]⟩)) = some (.v (.bool true)) := str_eq (l := [120, 1, 2]) (m := [120, 1, 2]) (by unfold Bytes; decide) (by unfold Bytes; decide) rfl
  have q3 : D.toBytes (.v (.string ⟨#[120]⟩)) = some (.sl 1 (ints .u8 [120])) := toBytes_str (l := [120]) (by unfold Bytes; decide) (by decide)
  have q4 : D.toStr (.sl 1 (ints .u8 [120, 1, 2])) = some (str [120, 1, 2]) := toStr_is (isL_sl _ _)
  repeat' (first
    | (refine ex_some (by simp (disch := omega) only [bin_shr, bin_shl, bin_and, bin_or, bin_xor, len_str, toStr_ofL, bin_add, bin_sub, bin_mul, bin_quo, bin_rem, bin_lss, bin_leq, bin_gtr, bin_geq, bin_eql, bin_neq, eqs_cn, eqs_ci, eqs_cb, eqs_cs, Option.map_some, lenT_ofL, lst_ofL, lstSz_ofL, chunk_one, lst_nil, lst_sl, lstSz_sl, lstSz_nil, Bool.and_true, Bool.true_and, Bool.and_false, Bool.false_and, beq_self_eq_true, beq_bb, bne_bb, un_not, un_neg, conv_int, min2_int, max2_int, w64, w32, wu8, wu16, wu32, wu64, tdiv_nn, tmod_nn, cell_zero, cell_succ, cell_v, cells_v, cells_agg, Bool.not_true, Bool.not_false, Int.reduceLT, Int.reduceLE, Int.reduceEq, Int.reduceNeg, Int.reduceAdd, Int.reduceSub, Int.reduceMul, intOf_v, decide_true, decide_false]; rfl) ?_)
    | (refine ex_bool ?_)
    | (refine ⟨_, O0, ?_⟩)
    | (refine ⟨_, _, N0, ?_⟩)
    | (refine ⟨_, _, K0, ?_⟩)
    | (refine ⟨_, _, R0, ?_⟩)
    | (refine ⟨_, F0, ?_⟩)
    | (refine ⟨_, F1, ?_⟩)
    | (refine ⟨_, G0, ?_⟩)
    | (refine ⟨_, G1, ?_⟩)
    | (refine ⟨_, Y0, ?_⟩)
    | (refine ⟨_, H0, ?_⟩)
    | (refine ⟨_, H1, ?_⟩)
    | (refine ex_some q0 ?_)
    | (refine ex_some q1 ?_)
    | (refine ex_some q2 ?_)
    | (refine ex_some q3 ?_)
    | (refine ex_some q4 ?_)
    | (refine And.intro ?_ ?_)
    | (intro hx; first | (cases hx; done) | (exfalso; revert hx; simp (disch := omega) only [decide_eq_true_eq, decide_eq_false_iff_not, Bool.not_eq_true', Bool.not_eq_false', Bool.and_eq_true, Bool.and_eq_false_iff, Int.not_lt, Int.not_le, ne_eq, not_false_eq_true, not_true_eq_false, reduceCtorEq, Bool.true_eq_false, Bool.false_eq_true, beq_iff_eq, bne_iff_ne, beq_eq_false_iff_ne, false_or, or_false, true_and, and_true]; done) | (simp (disch := omega) only [decide_eq_true_eq, decide_eq_false_iff_not, Bool.not_eq_true', Bool.not_eq_false', Bool.and_eq_true, Bool.and_eq_false_iff, Int.not_lt, Int.not_le, ne_eq, not_false_eq_true, not_true_eq_false, reduceCtorEq, Bool.true_eq_false, Bool.false_eq_true, beq_iff_eq, bne_iff_ne, beq_eq_false_iff_ne, false_or, or_false, true_and, and_true] at hx; first | (exfalso; omega) | skip) | skip)
    | trivial
    | exact fit_ofL _ _
    | (simp (disch := omega) only [notAgg_v, notAgg_sl, plain_v, fits, fitsOne, fitsCells, xsOf, cell_zero, cell_succ, List.range, List.range.loop, List.map, cond_true, cond_false, D.v.injEq, exists_eq', exists_eq, and_self, and_true, true_and, D.agg.injEq, List.length, exists_eq_left', D.sl.injEq, reduceCtorEq, false_or, true_or, or_true, or_false, cell_zero, cell_succ, cell_v, cells_v, cells_agg, List.length_cons, List.length_nil]; done))
  all_goals first | exact fit_ofL _ _ | exact ⟨_, rfl, by rw [chunk_one]; exact List.cons_ne_nil _ _⟩ | exact ⟨_, rfl⟩ | (simp; done) | fail

end Go.Proofs.Ytfjmfimalibhfaa