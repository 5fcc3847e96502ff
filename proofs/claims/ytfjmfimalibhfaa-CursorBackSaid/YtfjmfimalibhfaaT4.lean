/-
  Layer 1: CursorBack.
-/
import Derived.Test.YtfjmfimalibhfaaT3
namespace Go.Proofs.Ytfjmfimalibhfaa
open Go.RowKit
set_option linter.unusedSimpArgs false
set_option linter.unusedVariables false


theorem short_or {xs ws : List Int} {k : Nat} (T : List Int) (hT : T = (J xs ws xs.length).take ((J xs ws xs.length).length - 1)) (hk : k < xs.length) :
    (k + 1 < xs.length ∧ cuF T ((J xs ws k).length : Nat) 0 (wN ws k : Nat) (decide ((1 : Int) ≤ (wN ws k : Nat) ∧ ((wN ws k : Nat) : Int) ≤ 7)) = (((((J xs ws (k + 1)).length : Nat) : Int), (0 : Int)), be (xs.getD k 0) (wN ws k))) ∨ (k + 1 = xs.length ∧ cuF T ((J xs ws k).length : Nat) 0 (wN ws k : Nat) (decide ((1 : Int) ≤ (wN ws k : Nat) ∧ ((wN ws k : Nat) : Int) ≤ 7)) = (((((J xs ws k).length : Nat) : Int), (3 : Int)), [])) := by
  obtain ⟨n, hn⟩ : ∃ n, xs.length = n + 1 := ⟨xs.length - 1, by omega⟩
  have hwb := wN_bd ws n
  have hJs := J_len_succ xs ws n
  have hTl : T.length = (J xs ws (n + 1)).length - 1 := by rw [hT, hn, List.length_take]; omega
  by_cases hlt : k + 1 < xs.length
  · left
    refine ⟨hlt, cu_at ?_⟩
    obtain ⟨hm1, hm2⟩ := J_mono xs ws (i := k + 1) (n - (k + 1))
    rw [show k + 1 + (n - (k + 1)) = n by omega] at hm1 hm2
    obtain ⟨hm3, hm4⟩ := J_mono xs ws (i := k + 1) (xs.length - (k + 1))
    rw [show k + 1 + (xs.length - (k + 1)) = xs.length by omega] at hm3
    rw [hT, List.take_take, Nat.min_eq_left (by rw [hn]; omega)]
    exact hm3
  · right
    have hkn : k = n := by omega
    subst hkn
    refine ⟨by omega, cu_short (by omega) (by omega)⟩

theorem vc_backL (x z : D) (xs ws : List Int) : Cond Try.prog (fun k => if k = 5 then some ⟨[6], [5], [0, 1], []⟩ else if k = 10 then some ⟨[8], [], [0, 1, 5, 7], [(7, [0, 1, 2], [])]⟩ else if k = 22 then some ⟨[11], [], [0, 1, 7], [(7, [0, 1, 2], [])]⟩ else none) Try.f5 [x, z] [.v (.bool true)] = ((NotAgg x ∧ NotAgg z ∧ True) ∧ ∃ (r : D), D.lenT (TypeDesc.slice 51) x = some r ∧ ∃ (r_1 : D), D.bin BinOp.gtr r (D.v (Value.int IntKind.i64 40)) = some r_1 ∧ ∃ (b : Bool), r_1 = D.v (Value.bool b) ∧ (b = false → ∃ (r : D), D.lenT (TypeDesc.slice 5) z = some r ∧ ∃ (r_2 : D), D.lenT (TypeDesc.slice 51) x = some r_2 ∧ ∃ (r_3 : D), D.bin BinOp.lss r r_2 = some r_3 ∧ ∃ (b : Bool), r_3 = D.v (Value.bool b) ∧ (b = true → ∃ (r : D), PureD Try.prog 7 [] [r] ∧ fits [(false, [none])] [r] ∧ ((∃ (y : Value), r = D.v y) ∧ True) ∧ [r] = [D.v (Value.bool true)]) ∧ (b = false → ∃ (I : List D → Prop), ∃ (μ : List D → Nat), ((D.v (Value.int IntKind.i64 0) = D.v (Value.int IntKind.i64 0) ∧ true = true ∧ x = x ∧ z = z ∧ True) ∧ ((true = true ∧ D.v nilS = D.v nilS) ∧ True) ∧ I [D.v (Value.int IntKind.i64 0), D.v nilS]) ∧ ∀ (r r_4 : D), I [r, r_4] → ∃ (r_5 : D), D.lenT (TypeDesc.slice 51) x = some r_5 ∧ ∃ (r_6 : D), D.bin BinOp.lss r r_5 = some r_6 ∧ ∃ (b : Bool), r_6 = D.v (Value.bool b) ∧ (b = true → D.inb 1 x r ∧ 0 + 1 ≤ (x.at_ r).cells.length ∧ ∃ (r_7 : D), D.conv IntKind.i64 ((x.at_ r).cell 0) = some r_7 ∧ D.inb 1 z r ∧ 0 + 1 ≤ (z.at_ r).cells.length ∧ ∃ (r_8 : D), D.bin BinOp.rem ((z.at_ r).cell 0) (D.v (Value.int IntKind.u8 4)) = some r_8 ∧ ∃ (r_9 : D), D.conv IntKind.i64 r_8 = some r_9 ∧ ∃ (r_10 : D), D.bin BinOp.add (D.v (Value.int IntKind.i64 4)) r_9 = some r_10 ∧ ∃ (r_11 : D), PureD Try.prog 22 [r_4, r_7, r_10] [r_11] ∧ fits [(false, [some 1])] [r_11] ∧ ∃ (r_12 : D), D.bin BinOp.add r (D.v (Value.int IntKind.i64 1)) = some r_12 ∧ (r_12 = r_12 ∧ true = true ∧ x = x ∧ z = z ∧ True) ∧ ((true = true ∧ r_11 = r_11) ∧ True) ∧ I [r_12, r_11] ∧ μ [r_12, r_11] < μ [r, r_4]) ∧ (b = false → ∃ (r : D), r_4.toStr = some r ∧ ∃ (r_7 : D), PureD Try.prog 20 [r] [r_7] ∧ fits [(true, [none, none, none])] [r_7] ∧ ∃ (I : List D → Prop), ∃ (μ : List D → Nat), ((D.v (Value.int IntKind.i64 0) = D.v (Value.int IntKind.i64 0) ∧ x = x ∧ z = z ∧ true = true ∧ (true = true ∧ true = true) ∧ True) ∧ ((r_7.cell 0 = r_7.cell 0 ∧ r_7.cell 1 = r_7.cell 1 ∧ r_7.cell 2 = r_7.cell 2 ∧ True) ∧ (true = true ∧ r_4 = r_4) ∧ True) ∧ I [D.v (Value.int IntKind.i64 0), r_7.cell 0, r_7.cell 1, r_7.cell 2]) ∧ ∀ (r r_8 r_9 r_10 : D), I [r, r_8, r_9, r_10] → ∃ (r_11 : D), D.lenT (TypeDesc.slice 51) x = some r_11 ∧ ∃ (r_12 : D), D.bin BinOp.lss r r_11 = some r_12 ∧ ∃ (b : Bool), r_12 = D.v (Value.bool b) ∧ (b = true → D.inb 1 z r ∧ 0 + 1 ≤ (z.at_ r).cells.length ∧ ∃ (r_13 : D), D.bin BinOp.rem ((z.at_ r).cell 0) (D.v (Value.int IntKind.u8 4)) = some r_13 ∧ ∃ (r_14 : D), D.conv IntKind.i64 r_13 = some r_14 ∧ ∃ (r_15 : D), D.bin BinOp.add (D.v (Value.int IntKind.i64 4)) r_14 = some r_15 ∧ ∃ (r_16 : D), ∃ (r_17 : D), PureD Try.prog 9 [D.agg [r_8, r_9, r_10], r_15] [r_16, r_17] ∧ fits [(true, [none, none, none]), (false, [none])] [r_16, r_17] ∧ D.inb 1 x r ∧ 0 + 1 ≤ (x.at_ r).cells.length ∧ ∃ (r_18 : D), D.conv IntKind.i64 ((x.at_ r).cell 0) = some r_18 ∧ ∃ (r_19 : D), D.bin BinOp.neq r_17 r_18 = some r_19 ∧ ∃ (b : Bool), r_19 = D.v (Value.bool b) ∧ (b = false → ∃ (r_20 : D), D.bin BinOp.neq (r_16.cell 2) (D.v (Value.int IntKind.i64 0)) = some r_20 ∧ ∃ (b : Bool), r_20 = D.v (Value.bool b) ∧ (b = true → (True ∧ True) ∧ [D.v (Value.bool false)] = [D.v (Value.bool true)]) ∧ (b = false → ∃ (r_21 : D), D.bin BinOp.add r (D.v (Value.int IntKind.i64 1)) = some r_21 ∧ (r_21 = r_21 ∧ x = x ∧ z = z ∧ true = true ∧ (true = true ∧ true = true) ∧ True) ∧ ((r_16.cell 0 = r_16.cell 0 ∧ r_16.cell 1 = r_16.cell 1 ∧ r_16.cell 2 = r_16.cell 2 ∧ True) ∧ (true = true ∧ r_4 = r_4) ∧ True) ∧ I [r_21, r_16.cell 0, r_16.cell 1, r_16.cell 2] ∧ μ [r_21, r_16.cell 0, r_16.cell 1, r_16.cell 2] < μ [r, r_8, r_9, r_10])) ∧ (b = true → (True ∧ True) ∧ [D.v (Value.bool false)] = [D.v (Value.bool true)])) ∧ (b = false → ∃ (r : D), PureD Try.prog 18 [D.agg [r_8, r_9, r_10]] [r] ∧ fits [(false, [none])] [r] ∧ ∃ (r_13 : D), D.bin BinOp.neq r (D.v (Value.int IntKind.i64 0)) = some r_13 ∧ ∃ (b : Bool), r_13 = D.v (Value.bool b) ∧ (b = false → ∃ (r : D), D.lenT (TypeDesc.slice 51) x = some r ∧ ∃ (r_14 : D), D.bin BinOp.eql r (D.v (Value.int IntKind.i64 0)) = some r_14 ∧ ∃ (b : Bool), r_14 = D.v (Value.bool b) ∧ (b = true → ∃ (r : D), D.lenT (TypeDesc.slice 51) x = some r ∧ ∃ (r_15 : D), D.bin BinOp.eql r (D.v (Value.int IntKind.i64 0)) = some r_15 ∧ ∃ (b : Bool), r_15 = D.v (Value.bool b) ∧ (b = true → ∃ (r : D), PureD Try.prog 7 [] [r] ∧ fits [(false, [none])] [r] ∧ ((∃ (y : Value), r = D.v y) ∧ True) ∧ [r] = [D.v (Value.bool true)]) ∧ (b = false → (True ∧ True) ∧ [D.v (Value.bool false)] = [D.v (Value.bool true)])) ∧ (b = false → ∃ (r : D), D.lenT (TypeDesc.slice 5) r_4 = some r ∧ ∃ (r_15 : D), D.bin BinOp.eql r (D.v (Value.int IntKind.i64 0)) = some r_15 ∧ ∃ (b : Bool), r_15 = D.v (Value.bool b) ∧ (b = true → (True ∧ True) ∧ [D.v (Value.bool false)] = [D.v (Value.bool true)]) ∧ (b = false → ∃ (r : D), D.lenT (TypeDesc.slice 5) r_4 = some r ∧ ∃ (r_16 : D), D.bin BinOp.sub r (D.v (Value.int IntKind.i64 1)) = some r_16 ∧ ∃ (r : D), D.cutL 1 r_4 none (some r_16) none = some r ∧ ∃ (r_17 : D), r.toStr = some r_17 ∧ ∃ (r : D), PureD Try.prog 20 [r_17] [r] ∧ fits [(true, [none, none, none])] [r] ∧ ∃ (I : List D → Prop), ∃ (μ : List D → Nat), ((D.v (Value.int IntKind.i64 0) = D.v (Value.int IntKind.i64 0) ∧ x = x ∧ z = z ∧ (true = true ∧ true = true) ∧ True) ∧ ((r.cell 0 = r.cell 0 ∧ r.cell 1 = r.cell 1 ∧ r.cell 2 = r.cell 2 ∧ True) ∧ True) ∧ I [D.v (Value.int IntKind.i64 0), r.cell 0, r.cell 1, r.cell 2]) ∧ ∀ (r r_18 r_19 r_20 : D), I [r, r_18, r_19, r_20] → ∃ (r_21 : D), D.lenT (TypeDesc.slice 51) x = some r_21 ∧ ∃ (r_22 : D), D.bin BinOp.lss r r_21 = some r_22 ∧ ∃ (b : Bool), r_22 = D.v (Value.bool b) ∧ (b = true → D.inb 1 z r ∧ 0 + 1 ≤ (z.at_ r).cells.length ∧ ∃ (r_23 : D), D.bin BinOp.rem ((z.at_ r).cell 0) (D.v (Value.int IntKind.u8 4)) = some r_23 ∧ ∃ (r_24 : D), D.conv IntKind.i64 r_23 = some r_24 ∧ ∃ (r_25 : D), D.bin BinOp.add (D.v (Value.int IntKind.i64 4)) r_24 = some r_25 ∧ ∃ (r_26 : D), ∃ (r_27 : D), PureD Try.prog 9 [D.agg [r_18, r_19, r_20], r_25] [r_26, r_27] ∧ fits [(true, [none, none, none]), (false, [none])] [r_26, r_27] ∧ ∃ (r_28 : D), D.bin BinOp.add r (D.v (Value.int IntKind.i64 1)) = some r_28 ∧ (r_28 = r_28 ∧ x = x ∧ z = z ∧ (true = true ∧ true = true) ∧ True) ∧ ((r_26.cell 0 = r_26.cell 0 ∧ r_26.cell 1 = r_26.cell 1 ∧ r_26.cell 2 = r_26.cell 2 ∧ True) ∧ True) ∧ I [r_28, r_26.cell 0, r_26.cell 1, r_26.cell 2] ∧ μ [r_28, r_26.cell 0, r_26.cell 1, r_26.cell 2] < μ [r, r_18, r_19, r_20]) ∧ (b = false → ∃ (r : D), ∃ (r_23 : D), PureD Try.prog 11 [D.agg [r_18, r_19, r_20], D.v (Value.int IntKind.i64 0)] [r, r_23] ∧ fits [(true, [none, none, none]), (false, [none])] [r, r_23] ∧ ∃ (r_24 : D), D.bin BinOp.eql r_20 (D.v (Value.int IntKind.i64 3)) = some r_24 ∧ ∃ (b : Bool), r_24 = D.v (Value.bool b) ∧ (b = true → ∃ (r_25 : Bool), eqs [EqK.s, EqK.i, EqK.i] [r.cell 0, r.cell 1, r.cell 2] [r_18, r_19, r_20] = some r_25 ∧ ∃ (b : Bool), D.v (Value.bool r_25) = D.v (Value.bool b) ∧ (b = true → ∃ (r : D), D.bin BinOp.eql r_23 (D.v (Value.string { data := { toList := [] } })) = some r ∧ ∃ (b : Bool), r = D.v (Value.bool b) ∧ (b = true → ∃ (r : D), PureD Try.prog 18 [D.agg [r_18, r_19, r_20]] [r] ∧ fits [(false, [none])] [r] ∧ ∃ (r_26 : D), D.bin BinOp.eql r (D.v (Value.int IntKind.i64 3)) = some r_26 ∧ ∃ (b : Bool), r_26 = D.v (Value.bool b) ∧ (b = true → ∃ (r : D), PureD Try.prog 7 [] [r] ∧ fits [(false, [none])] [r] ∧ ((∃ (y : Value), r = D.v y) ∧ True) ∧ [r] = [D.v (Value.bool true)]) ∧ (b = false → (True ∧ True) ∧ [D.v (Value.bool false)] = [D.v (Value.bool true)])) ∧ (b = false → (True ∧ True) ∧ [D.v (Value.bool false)] = [D.v (Value.bool true)])) ∧ (b = false → (True ∧ True) ∧ [D.v (Value.bool false)] = [D.v (Value.bool true)])) ∧ (b = false → (True ∧ True) ∧ [D.v (Value.bool false)] = [D.v (Value.bool true)]))))) ∧ (b = true → ∃ (r : D), D.lenT (TypeDesc.slice 51) x = some r ∧ ∃ (r_14 : D), D.bin BinOp.eql r (D.v (Value.int IntKind.i64 0)) = some r_14 ∧ ∃ (b : Bool), r_14 = D.v (Value.bool b) ∧ (b = true → ∃ (r : D), PureD Try.prog 7 [] [r] ∧ fits [(false, [none])] [r] ∧ ((∃ (y : Value), r = D.v y) ∧ True) ∧ [r] = [D.v (Value.bool true)]) ∧ (b = false → (True ∧ True) ∧ [D.v (Value.bool false)] = [D.v (Value.bool true)])))))) ∧ (b = true → ∃ (r : D), PureD Try.prog 7 [] [r] ∧ fits [(false, [none])] [r] ∧ ((∃ (y : Value), r = D.v y) ∧ True) ∧ [r] = [D.v (Value.bool true)])) := by kernel_rfl
set_option maxHeartbeats 16000000 in
theorem backL (x z : D) (xs ws : List Int) (hX : IsL 1 (ints .u32 xs) x) (hW : IsL 1 (ints .u8 ws) z) (hx0 : ∀ v ∈ xs, 0 ≤ v ∧ v < 4294967296) (hw0 : ∀ v ∈ ws, 0 ≤ v ∧ v < 256) : PureD Try.prog 5 [x, z] [.v (.bool true)] := by
  refine pure_cond (Lp := (fun k => if k = 5 then some ⟨[6], [5], [0, 1], []⟩ else if k = 10 then some ⟨[8], [], [0, 1, 5, 7], [(7, [0, 1, 2], [])]⟩ else if k = 22 then some ⟨[11], [], [0, 1, 7], [(7, [0, 1, 2], [])]⟩ else none)) (by kernel_rfl) Try.func5 (by kernel_rfl) (by kernel_rfl) ?_
  rw [vc_backL x z xs ws]
  simp only [hX.notAgg, hX.lenT, hW.notAgg, hW.lenT, ints_length, Option.some.injEq, exists_eq_left']
  have h1 : True := trivial
  have h2 : True := trivial
  have hlenY : True := trivial
  by_cases hbig : 40 < xs.length ∨ ws.length < xs.length
  · have hb2 : True := trivial
    repeat' (first
      | (refine ex_some (by simp (disch := omega) only [bin_shr, bin_shl, bin_and, bin_or, bin_xor, len_str, toStr_ofL, bin_add, bin_sub, bin_mul, bin_quo, bin_rem, bin_lss, bin_leq, bin_gtr, bin_geq, bin_eql, bin_neq, eqs_cn, eqs_ci, eqs_cb, eqs_cs, Option.map_some, lenT_ofL, lst_ofL, lstSz_ofL, chunk_one, lst_nil, lst_sl, lstSz_sl, lstSz_nil, Bool.and_true, Bool.true_and, Bool.and_false, Bool.false_and, beq_self_eq_true, beq_bb, bne_bb, un_not, un_neg, conv_int, min2_int, max2_int, w64, w32, wu8, wu16, wu32, wu64, tdiv_nn, tmod_nn, cell_zero, cell_succ, cell_v, cells_v, cells_agg, Bool.not_true, Bool.not_false, Int.reduceLT, Int.reduceLE, Int.reduceEq, Int.reduceNeg, Int.reduceAdd, Int.reduceSub, Int.reduceMul, intOf_v, decide_true, decide_false]; rfl) ?_)
      | (refine ex_bool ?_)
      | (refine ⟨_, awake, ?_⟩)
      | (refine And.intro ?_ ?_)
      | (intro hx; first | (cases hx; done) | (exfalso; revert hx; simp (disch := omega) only [decide_eq_true_eq, decide_eq_false_iff_not, Bool.not_eq_true', Bool.not_eq_false', Bool.and_eq_true, Bool.and_eq_false_iff, Int.not_lt, Int.not_le, ne_eq, not_false_eq_true, not_true_eq_false, reduceCtorEq, Bool.true_eq_false, Bool.false_eq_true, beq_iff_eq, bne_iff_ne, beq_eq_false_iff_ne, false_or, or_false, true_and, and_true]; done) | (simp (disch := omega) only [decide_eq_true_eq, decide_eq_false_iff_not, Bool.not_eq_true', Bool.not_eq_false', Bool.and_eq_true, Bool.and_eq_false_iff, Int.not_lt, Int.not_le, ne_eq, not_false_eq_true, not_true_eq_false, reduceCtorEq, Bool.true_eq_false, Bool.false_eq_true, beq_iff_eq, bne_iff_ne, beq_eq_false_iff_ne, false_or, or_false, true_and, and_true] at hx; first | (exfalso; omega) | skip) | skip)
      | trivial
      | exact fit_ofL _ _
      | (simp (disch := omega) only [notAgg_v, notAgg_sl, plain_v, fits, fitsOne, fitsCells, xsOf, cell_zero, cell_succ, List.range, List.range.loop, List.map, cond_true, cond_false, D.v.injEq, exists_eq', exists_eq, and_self, and_true, true_and, D.agg.injEq, List.length, exists_eq_left', D.sl.injEq, reduceCtorEq, false_or, true_or, or_true, or_false, cell_zero, cell_succ, cell_v, cells_v, cells_agg, List.length_cons, List.length_nil]; done))
    all_goals first
      | (exfalso; omega)
      | exact ⟨_, rfl⟩
      | exact fit_ofL _ _
      | omega
      | (simp only [leftG]; omega)
      | rfl
      | (rw [h1]; simp only [cells_v, List.length_cons, List.length_nil]; omega)
      | (rw [h2]; simp only [cells_v, List.length_cons, List.length_nil]; omega)
      | (simp; done)
      | (rw [show min (k + 1) (xs.length - 1) = k + 1 by omega, if_neg (by omega)]; rfl)
      | (rw [show min (k + 1) (xs.length - 1) = k by omega, if_pos hc7]; rfl)
      | (rw [show min 0 (xs.length - 1) = 0 by omega, if_neg (by omega)]; rfl)
      | (simp; omega)
      | fail
  · have hJN := J_len_le xs ws xs.length
    have hJB := J_bytes xs ws xs.length
    have O1 := opn (J xs ws xs.length)
    have D1 := done (J xs ws xs.length) ((J xs ws xs.length).length : Nat) 0 (by omega) (by omega) hJB (by omega)
    rw [show doF (J xs ws xs.length) ((J xs ws xs.length).length : Nat) 0 = 0 by unfold doF; rw [if_neg (by omega), if_neg (by simp [wiF]), if_neg (by omega)]] at D1
    obtain ⟨T, hT⟩ : ∃ T, T = (J xs ws xs.length).take ((J xs ws xs.length).length - 1) := ⟨_, rfl⟩
    have hTB : Bytes T := by rw [hT]; exact hJB.take _
    have O2 := opn T
    have q0 : D.bin .eql (str []) (.v (.string ⟨#[]⟩)) = some (.v (.bool true)) := str_eq (l := []) (m := []) Bytes.nil Bytes.nil rfl
    have hJ1 : 0 < xs.length → 1 ≤ (J xs ws xs.length).length := by intro h; obtain ⟨n, hn⟩ : ∃ n, xs.length = n + 1 := ⟨xs.length - 1, by omega⟩; rw [hn, J_len_succ]; have := wN_bd ws n; omega
    repeat' (first
      | (refine ex_some (by simp (disch := omega) only [bin_shr, bin_shl, bin_and, bin_or, bin_xor, len_str, toStr_ofL, bin_add, bin_sub, bin_mul, bin_quo, bin_rem, bin_lss, bin_leq, bin_gtr, bin_geq, bin_eql, bin_neq, eqs_cn, eqs_ci, eqs_cb, eqs_cs, Option.map_some, lenT_ofL, lst_ofL, lstSz_ofL, chunk_one, lst_nil, lst_sl, lstSz_sl, lstSz_nil, Bool.and_true, Bool.true_and, Bool.and_false, Bool.false_and, beq_self_eq_true, beq_bb, bne_bb, un_not, un_neg, conv_int, min2_int, max2_int, w64, w32, wu8, wu16, wu32, wu64, tdiv_nn, tmod_nn, cell_zero, cell_succ, cell_v, cells_v, cells_agg, Bool.not_true, Bool.not_false, Int.reduceLT, Int.reduceLE, Int.reduceEq, Int.reduceNeg, Int.reduceAdd, Int.reduceSub, Int.reduceMul, intOf_v, decide_true, decide_false, h1, h2, hlenY, ints_length]; rfl) ?_)
      | (refine ex_bool ?_)
      | (refine ⟨_, C2, ?_⟩)
      | (refine ⟨_, _, C5, ?_⟩)
      | (refine ⟨_, _, C6, ?_⟩)
      | (refine ⟨_, _, C7, ?_⟩)
      | (refine ⟨_, C8, ?_⟩)
      | (refine ⟨_, O1, ?_⟩)
      | (refine ⟨_, O2, ?_⟩)
      | (refine ⟨_, D1, ?_⟩)
      | (refine ⟨_, awake, ?_⟩)
      | (refine ex_some ht ?_)
      | (refine ex_some ht2 ?_)
      | (refine ex_some q0 ?_)
      | (have := out2; refine ⟨(fun r => ∃ k : Nat, k ≤ xs.length ∧ r = [.v (.int .i64 (k : Nat)), str T, .v (.int .i64 ((J xs ws (min k (xs.length - 1))).length : Nat)), .v (.int .i64 (if k = xs.length then 3 else 0))]), leftG xs.length, ?_⟩)
      | (have := out2; refine fun (r2 r3 r4 r5 : D) (hI : (fun r => ∃ k : Nat, k ≤ xs.length ∧ r = [.v (.int .i64 (k : Nat)), str T, .v (.int .i64 ((J xs ws (min k (xs.length - 1))).length : Nat)), .v (.int .i64 (if k = xs.length then 3 else 0))]) [r2, r3, r4, r5]) => ?_; obtain ⟨k, hk, hl0⟩ := hI; simp only [List.cons.injEq, and_true] at hl0; obtain ⟨rfl, rfl, rfl, rfl⟩ := hl0; by_cases hlt : k < xs.length <;> first | (have hin3 := out2; have hk1 : k < xs.length := (by omega); have hk2 : k < ws.length := (by omega); have h1 := hX.at_ints hk1; have i1 := hX.inb_ints hk1; have h2 := hW.at_ints hk2; have i2 := hW.inb_ints hk2; have z1 := hx0 (xs.getD k 0) (by simp [List.getD, hk1]); have z2 := hw0 (ws.getD k 0) (by simp [List.getD, hk2]); have hwb := wN_bd ws k; have hwn : ((wN ws k : Nat) : Int) = 4 + ws.getD k 0 % 4 := (by unfold wN; omega); have hJl := J_len_le xs ws k; have hJs := J_len_succ xs ws k; have hTl : T.length = (J xs ws xs.length).length - 1 := (by rw [hT, List.length_take]; omega); obtain ⟨hm1, hm2⟩ := J_mono xs ws (i := k + 1) (xs.length - (k + 1)); rw [show k + 1 + (xs.length - (k + 1)) = xs.length by omega] at hm1 hm2; have C6 := number T ((J xs ws k).length : Nat) 0 (wN ws k : Nat) (by omega) (by omega) hTB (by have := J_len_le xs ws xs.length; omega) (by omega); have hmn : min k (xs.length - 1) = k := (by omega); have hk0 : (if k = xs.length then (3 : Int) else 0) = 0 := if_neg (by omega); rw [hmn, hk0]; have hc6 : (k + 1 < xs.length ∧ cuF T ((J xs ws k).length : Nat) 0 (wN ws k : Nat) (decide ((1 : Int) ≤ (wN ws k : Nat) ∧ ((wN ws k : Nat) : Int) ≤ 7)) = (((((J xs ws (k + 1)).length : Nat) : Int), (0 : Int)), be (xs.getD k 0) (wN ws k))) ∨ (k + 1 = xs.length ∧ cuF T ((J xs ws k).length : Nat) 0 (wN ws k : Nat) (decide ((1 : Int) ≤ (wN ws k : Nat) ∧ ((wN ws k : Nat) : Int) ≤ 7)) = (((((J xs ws k).length : Nat) : Int), (3 : Int)), [])) := short_or (xs := xs) (ws := ws) (k := k) T hT hk1; have hnx : (if k + 1 = xs.length then (3 : Int) else 0) = if k + 1 = xs.length then (3 : Int) else 0 := rfl; generalize xs.getD k 0 = xk at h1 hc6 z1; rw [hwn] at C6 hc6; generalize ws.getD k 0 = wk at h2 C6 z2 hwn hc6; rcases hc6 with ⟨hc7, hc8⟩ | ⟨hc7, hc8⟩; all_goals (rw [hc8] at C6; simp only at C6; have inl3 : True := trivial)) | (have hin3 := out2; have hkk : k = xs.length := (by omega); subst hkk; have hmn : min xs.length (xs.length - 1) = xs.length - 1 := (by omega); have hk3 : (if xs.length = xs.length then (3 : Int) else 0) = 3 := if_pos rfl; rw [hmn, hk3]; have hJp := J_len_le xs ws (xs.length - 1); have C7 := take T ((J xs ws (xs.length - 1)).length : Nat) 3 0 (by omega) (by omega) hTB (by have := J_len_le xs ws xs.length; rw [hT, List.length_take]; omega) (by omega); rw [show cuF T ((J xs ws (xs.length - 1)).length : Nat) 3 0 (decide ((0 : Int) ≤ 0)) = (((((J xs ws (xs.length - 1)).length : Nat) : Int), (3 : Int)), []) by unfold cuF; rw [if_pos (by decide)]] at C7; have C8 := done T ((J xs ws (xs.length - 1)).length : Nat) 3 (by omega) (by omega) hTB (by have := J_len_le xs ws xs.length; rw [hT, List.length_take]; omega); rw [show doF T ((J xs ws (xs.length - 1)).length : Nat) 3 = 3 by unfold doF; rw [if_pos (by decide)]] at C8; simp only at C7; have h1 : True := trivial; have h2 : True := trivial; have out3 : True := trivial))
      | (have := out1; refine ⟨(fun r => ∃ k : Nat, k ≤ xs.length ∧ r = [.v (.int .i64 (k : Nat)), str (J xs ws xs.length), .v (.int .i64 ((J xs ws k).length : Nat)), .v (.int .i64 0)]), leftG xs.length, ?_⟩)
      | (have := out1; refine fun (r2 r3 r4 r5 : D) (hI : (fun r => ∃ k : Nat, k ≤ xs.length ∧ r = [.v (.int .i64 (k : Nat)), str (J xs ws xs.length), .v (.int .i64 ((J xs ws k).length : Nat)), .v (.int .i64 0)]) [r2, r3, r4, r5]) => ?_; obtain ⟨k, hk, hl0⟩ := hI; simp only [List.cons.injEq, and_true] at hl0; obtain ⟨rfl, rfl, rfl, rfl⟩ := hl0; by_cases hlt : k < xs.length <;> first | (have hin2 := out1; have hk1 : k < xs.length := (by omega); have hk2 : k < ws.length := (by omega); have h1 := hX.at_ints hk1; have i1 := hX.inb_ints hk1; have h2 := hW.at_ints hk2; have i2 := hW.inb_ints hk2; have z1 := hx0 (xs.getD k 0) (by simp [List.getD, hk1]); have z2 := hw0 (ws.getD k 0) (by simp [List.getD, hk2]); have hwb := wN_bd ws k; have hwn : ((wN ws k : Nat) : Int) = 4 + ws.getD k 0 % 4 := (by unfold wN; omega); have hJl := J_len_le xs ws k; have hJs := J_len_succ xs ws k; obtain ⟨hm1, hm2⟩ := J_mono xs ws (i := k + 1) (xs.length - (k + 1)); rw [show k + 1 + (xs.length - (k + 1)) = xs.length by omega] at hm1 hm2; have C5 := number (J xs ws xs.length) ((J xs ws k).length : Nat) 0 (wN ws k : Nat) (by omega) (by omega) (J_bytes xs ws _) (by have := J_len_le xs ws xs.length; omega) (by omega); rw [cu_at hm1, vN_be z1.1 (Int.lt_of_lt_of_le z1.2 (pow_le256 hwb)), hwn] at C5; simp only at C5; generalize xs.getD k 0 = xk at h1 C5 z1; generalize ws.getD k 0 = wk at h2 C5 z2 hwn; have inl2 : True := trivial) | (have hin2 := out1; have hkk : k = xs.length := (by omega); subst hkk; have h1 : True := trivial; have h2 : True := trivial; have out2 : True := trivial))
      | (refine ⟨(fun r => ∃ k : Nat, ∃ y : D, k ≤ xs.length ∧ IsL 1 (ints .u8 (J xs ws k)) y ∧ r = [.v (.int .i64 (k : Nat)), y]), leftG xs.length, ?_⟩)
      | (refine fun (r2 r3 : D) (hI : (fun r => ∃ k : Nat, ∃ y : D, k ≤ xs.length ∧ IsL 1 (ints .u8 (J xs ws k)) y ∧ r = [.v (.int .i64 (k : Nat)), y]) [r2, r3]) => ?_; obtain ⟨k, y, hk, hY, hl0⟩ := hI; simp only [List.cons.injEq, and_true] at hl0; obtain ⟨rfl, rfl⟩ := hl0; by_cases hlt : k < xs.length <;> first | (have hk1 : k < xs.length := (by omega); have hk2 : k < ws.length := (by omega); have h1 := hX.at_ints hk1; have i1 := hX.inb_ints hk1; have h2 := hW.at_ints hk2; have i2 := hW.inb_ints hk2; have z1 := hx0 (xs.getD k 0) (by simp [List.getD, hk1]); have z2 := hw0 (ws.getD k 0) (by simp [List.getD, hk2]); have hwb := wN_bd ws k; have hwn : ((wN ws k : Nat) : Int) = 4 + ws.getD k 0 % 4 := (by unfold wN; omega); have hJl := J_len_le xs ws k; have hJs := J_len_succ xs ws k; have C2 := lay _ (J xs ws k) (xs.getD k 0) (wN ws k) hY (by omega) z1.1 (by omega) (fi_ok z1.1 z1.2 hwb); rw [hwn] at C2; have hJn : J xs ws (k + 1) = J xs ws k ++ be (xs.getD k 0) (wN ws k) := rfl; rw [← hJn] at C2; generalize xs.getD k 0 = xk at h1 C2 z1; generalize ws.getD k 0 = wk at h2 C2 z2 hwn; have inl : True := trivial) | (have hkk : k = xs.length := (by omega); subst hkk; have ht := toStr_is hY; have hcut := hY.cut (dl := none) (dh := some (.v (.int .i64 (((J xs ws xs.length).length : Nat) - 1)))) (dm := none) (l := 0) (hh := ((J xs ws xs.length).length : Nat) - 1) (m := ((J xs ws xs.length).length : Nat)) rfl rfl (by rw [ints_length]; rfl) (by omega); have hlenY := hY.lenT; have h1 : True := trivial; have h2 : True := trivial; have out1 : True := trivial))
      | (exact i1)
      | (exact i2)
      | (have := inl3; refine ⟨(k + 1 : Nat), by omega, ?_⟩)
      | (have := inl2; refine ⟨(k + 1 : Nat), by omega, ?_⟩)
      | (have := inl; refine ⟨(k + 1 : Nat), _, by omega, isL_sl _ _, ?_⟩)
      | (refine ⟨(0 : Nat), .v nilS, Nat.zero_le _, isL_nil 1, rfl⟩)
      | (refine ⟨(0 : Nat), Nat.zero_le _, ?_⟩)
      | (refine ⟨_, C2, ?_⟩)
      | (refine ex_some ht ?_)
      | (refine ⟨_, O1, ?_⟩)
      | (refine ⟨_, _, C5, ?_⟩)
      | (refine ⟨_, D1, ?_⟩)
      | (refine ⟨_, awake, ?_⟩)
      | (obtain ⟨y2, ey2, hY2⟩ := hcut (by omega) (by omega) (by rw [ints_length]; omega); refine ⟨_, ey2, ?_⟩; simp only [ints_drop, ints_take, Int.toNat_zero, List.drop_zero, Int.sub_zero] at hY2; rw [show (((J xs ws xs.length).length : Int) - 1).toNat = (J xs ws xs.length).length - 1 by omega, ← hT] at hY2; have ht2 := toStr_is hY2)
      | (refine ex_some ht2 ?_)
      | (refine ⟨_, O2, ?_⟩)
      | (refine ⟨_, _, C6, ?_⟩)
      | (refine ⟨_, _, C7, ?_⟩)
      | (refine ⟨_, C8, ?_⟩)
      | (refine ex_some q0 ?_)
      | (refine And.intro ?_ ?_)
      | (intro hx; first | (cases hx; done) | (exfalso; revert hx; simp (disch := omega) only [decide_eq_true_eq, decide_eq_false_iff_not, Bool.not_eq_true', Bool.not_eq_false', Bool.and_eq_true, Bool.and_eq_false_iff, Int.not_lt, Int.not_le, ne_eq, not_false_eq_true, not_true_eq_false, reduceCtorEq, Bool.true_eq_false, Bool.false_eq_true, beq_iff_eq, bne_iff_ne, beq_eq_false_iff_ne, false_or, or_false, true_and, and_true, h1, h2, hlenY, ints_length]; done) | (simp (disch := omega) only [decide_eq_true_eq, decide_eq_false_iff_not, Bool.not_eq_true', Bool.not_eq_false', Bool.and_eq_true, Bool.and_eq_false_iff, Int.not_lt, Int.not_le, ne_eq, not_false_eq_true, not_true_eq_false, reduceCtorEq, Bool.true_eq_false, Bool.false_eq_true, beq_iff_eq, bne_iff_ne, beq_eq_false_iff_ne, false_or, or_false, true_and, and_true, h1, h2, hlenY, ints_length] at hx; first | (exfalso; omega) | skip) | skip)
      | trivial
      | exact fit_ofL _ _
      | (simp (disch := omega) only [notAgg_v, notAgg_sl, plain_v, fits, fitsOne, fitsCells, xsOf, cell_zero, cell_succ, List.range, List.range.loop, List.map, cond_true, cond_false, D.v.injEq, exists_eq', exists_eq, and_self, and_true, true_and, D.agg.injEq, List.length, exists_eq_left', D.sl.injEq, reduceCtorEq, false_or, true_or, or_true, or_false, cell_zero, cell_succ, cell_v, cells_v, cells_agg, List.length_cons, List.length_nil, h1, h2, hlenY, ints_length]; done))
    all_goals first
      | (exfalso; omega)
      | exact ⟨_, rfl⟩
      | exact fit_ofL _ _
      | omega
      | (simp only [leftG]; omega)
      | rfl
      | (rw [h1]; simp only [cells_v, List.length_cons, List.length_nil]; omega)
      | (rw [h2]; simp only [cells_v, List.length_cons, List.length_nil]; omega)
      | (simp; done)
      | (rw [show min (k + 1) (xs.length - 1) = k + 1 by omega, if_neg (by omega)]; rfl)
      | (rw [show min (k + 1) (xs.length - 1) = k by omega, if_pos hc7]; rfl)
      | (rw [show min 0 (xs.length - 1) = 0 by omega, if_neg (by omega)]; rfl)
      | (simp; omega)
      | fail

end Go.Proofs.Ytfjmfimalibhfaa