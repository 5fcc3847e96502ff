/-
  Layer 12: the law RecvqTells.
-/
import Derived.Test.YtoeefdjomhbnlaaT1
import Derived.Test.YtoeefdjomhbnlaaT2
import Derived.Test.YtoeefdjomhbnlaaT3
import Derived.Test.YtoeefdjomhbnlaaT4
import Derived.Test.YtoeefdjomhbnlaaT5
import Derived.Test.YtoeefdjomhbnlaaT6
import Derived.Test.YtoeefdjomhbnlaaT7
import Derived.Test.YtoeefdjomhbnlaaT8
import Derived.Test.YtoeefdjomhbnlaaT10
import Derived.Test.YtoeefdjomhbnlaaT11
import Derived.Test.YtoeefdjomhbnlaaT13
import Derived.Test.YtoeefdjomhbnlaaT15
import Derived.Test.YtoeefdjomhbnlaaT16
import Derived.Test.YtoeefdjomhbnlaaT17
import Derived.Test.YtoeefdjomhbnlaaT18
import Derived.Test.YtoeefdjomhbnlaaT19
namespace Go.Proofs.Ytoeefdjomhbnlaa
open Go.RowKit
set_option linter.unusedSimpArgs false
set_option linter.unusedVariables false


theorem bytes_str (s : ByteArray) : D.v (.string s) = str (bytesOf s) ∧ Bytes (bytesOf s) := ⟨str_of s, bytesOf_bd s⟩
def I64 (z : Int) : Prop := -9223372036854775808 ≤ z ∧ z ≤ 9223372036854775807
theorem typed_st {d : D} (h : TypedA (true, [.int .i64, .str, .sl true [.int .i64, .str]]) d) : ∃ b r x ps, d = .agg [.v (.int .i64 b), str r, x] ∧ IsL 2 (ps.map ptD) x ∧ I64 b ∧ Bytes r ∧ BytesL ps ∧ (∀ p ∈ ps, I64 p.1) := by
  obtain ⟨ds, rfl, k⟩ := h.agg
  clear h
  obtain ⟨b, ds, rfl, hb, h⟩ := k.cons_
  obtain ⟨r, ds, rfl, hr, h⟩ := h.cons_
  obtain ⟨x, ds, rfl, hx, h⟩ := h.cons_
  obtain rfl := h.nil_
  obtain ⟨b, rfl, wb⟩ := hb.int_
  obtain ⟨r, rfl, _⟩ := hr.str_
  obtain ⟨es, h1, _, h3⟩ := hx.row
  obtain ⟨ps, rfl, hps⟩ := map_of (f := ptD) (p := fun p => Bytes p.2 ∧ I64 p.1) (es := es) (fun e he => by
    obtain ⟨hag, hc⟩ := h3 e he
    cases e with
    | agg l =>
      obtain ⟨a, l, rfl, ha, hc⟩ := hc.cons_
      obtain ⟨s, l, rfl, hs, hc⟩ := hc.cons_
      obtain rfl := hc.nil_
      obtain ⟨a, rfl, wa⟩ := ha.int_
      obtain ⟨s, rfl, _⟩ := hs.str_
      exact ⟨(a, bytesOf s), by simp only [ptD]; rw [str_of], bytesOf_bd s, wf_i64 wa⟩
    | v x => cases hag
    | sl sz l => cases hag
    | fn _ _ => cases hag
    | pt _ => cases hag)
  exact ⟨b, bytesOf r, x, ps, by rw [str_of], h1, wf_i64 wb, bytesOf_bd r, fun p hp => (hps p hp).1, fun p hp => (hps p hp).2⟩
theorem mem_le_sum {a : Nat} : ∀ {l : List Nat}, a ∈ l → a ≤ l.sum
  | b :: l, h => by
    rw [List.sum_cons]
    rcases List.mem_cons.1 h with rfl | h
    · omega
    · have := mem_le_sum h; omega
theorem light_all {r : List Int} {ps : List Pt} (h : lightF r ps = true) (hb : BytesL ps) : r.length ≤ 5000 ∧ ps.length ≤ 20 ∧ AllB ps := by
  simp only [lightF, Bool.and_eq_true, decide_eq_true_eq] at h
  obtain ⟨⟨h1, h2⟩, h3⟩ := h
  refine ⟨h1, h2, fun p hp => ⟨hb p hp, ?_⟩⟩
  obtain ⟨k, hk, rfl⟩ := List.mem_iff_getElem.1 hp
  rw [Nat.min_eq_right (by omega)] at h3
  have : cutP ps[k] ≤ sumL cutP ps ps.length := by
    have h4 : sumL cutP ps ps.length = (ps.map cutP).sum := by simp [sumL]
    rw [h4]
    exact mem_le_sum (List.mem_map.2 ⟨_, hp, rfl⟩)
  simp only [cutP] at this
  omega
theorem iv_self (l : List (Int × Int)) : ivB l l = true := by simp [ivB]
theorem pt_self (l : List Pt) : ptB l l = true := by simp [ptB]
theorem sameS_self (b : Int) (r : List Int) (ps : List Pt) : sameS b b r r ps ps = true := by simp [sameS, ptB]

theorem vc_tells (x y : D) (ps qs : List Pt) (b c : Int) (r s : List Int) (n : Int) : Cond Try.prog (fun _ => none) Try.f4 [.agg [.v (.int .i64 b), str r, x], .agg [.v (.int .i64 c), str s, y], .v (.int .i64 n)] [.v (.bool true)] = (((∃ (cs : List D), D.agg [D.v (Value.int IntKind.i64 b), str r, x] = D.agg cs ∧ cs.length = 3) ∧ (∃ (cs : List D), D.agg [D.v (Value.int IntKind.i64 c), str s, y] = D.agg cs ∧ cs.length = 3) ∧ NotAgg (D.v (Value.int IntKind.i64 n)) ∧ True) ∧ ∃ (r_1 : D), PureD Try.prog 8 [D.agg [D.v (Value.int IntKind.i64 b), str r, x]] [r_1] ∧ fits [(false, [none])] [r_1] ∧ ∃ (r_2 : D), D.un UnOp.not r_1 = some r_2 ∧ ∃ (b_1 : Bool), r_2 = D.v (Value.bool b_1) ∧ (b_1 = false → ∃ (r_3 : D), PureD Try.prog 8 [D.agg [D.v (Value.int IntKind.i64 c), str s, y]] [r_3] ∧ fits [(false, [none])] [r_3] ∧ ∃ (r_4 : D), D.un UnOp.not r_3 = some r_4 ∧ ∃ (b_2 : Bool), r_4 = D.v (Value.bool b_2) ∧ (b_2 = true → ∃ (r : D), PureD Try.prog 9 [] [r] ∧ fits [(false, [none])] [r] ∧ ((∃ (y : Value), r = D.v y) ∧ True) ∧ [r] = [D.v (Value.bool true)]) ∧ (b_2 = false → ∃ (r_5 : D), PureD Try.prog 10 [D.agg [D.v (Value.int IntKind.i64 b), str r, x]] [r_5] ∧ fits [(true, [none, none, some 2])] [r_5] ∧ ∃ (r_6 : D), PureD Try.prog 17 [D.agg [r_5.cell 0, r_5.cell 1, r_5.cell 2]] [r_6] ∧ fits [(false, [none])] [r_6] ∧ ∃ (r_7 : D), PureD Try.prog 18 [D.agg [D.v (Value.int IntKind.i64 b), str r, x]] [r_7] ∧ fits [(false, [none])] [r_7] ∧ ∃ (r_8 : D), D.bin BinOp.neq r_6 r_7 = some r_8 ∧ ∃ (b_3 : Bool), r_8 = D.v (Value.bool b_3) ∧ (b_3 = false → ∃ (r_9 : D), PureD Try.prog 10 [D.agg [D.v (Value.int IntKind.i64 c), str s, y]] [r_9] ∧ fits [(true, [none, none, some 2])] [r_9] ∧ ∃ (r_10 : D), PureD Try.prog 19 [D.agg [r_5.cell 0, r_5.cell 1, r_5.cell 2], D.agg [r_9.cell 0, r_9.cell 1, r_9.cell 2]] [r_10] ∧ fits [(false, [none])] [r_10] ∧ ∃ (r_11 : D), PureD Try.prog 15 [D.agg [D.v (Value.int IntKind.i64 b), str r, x], D.agg [D.v (Value.int IntKind.i64 c), str s, y]] [r_11] ∧ fits [(false, [none])] [r_11] ∧ ∃ (r_12 : D), r_10.bne r_11 = some r_12 ∧ ∃ (b_4 : Bool), r_12 = D.v (Value.bool b_4) ∧ (b_4 = false → ∃ (r_13 : D), PureD Try.prog 22 [D.agg [r_5.cell 0, r_5.cell 1, r_5.cell 2]] [r_13] ∧ fits [(false, [some 2])] [r_13] ∧ ∃ (r_14 : D), PureD Try.prog 21 [r_13] [r_14] ∧ fits [(false, [some 2])] [r_14] ∧ ∃ (r_15 : D), PureD Try.prog 23 [D.agg [D.v (Value.int IntKind.i64 b), str r, x]] [r_15] ∧ fits [(false, [some 2])] [r_15] ∧ ∃ (r_16 : D), PureD Try.prog 20 [r_14, r_15] [r_16] ∧ fits [(false, [none])] [r_16] ∧ ∃ (r_17 : D), D.un UnOp.not r_16 = some r_17 ∧ ∃ (b_5 : Bool), r_17 = D.v (Value.bool b_5) ∧ (b_5 = false → ∃ (r_18 : D), PureD Try.prog 24 [D.agg [r_5.cell 0, r_5.cell 1, r_5.cell 2], D.v (Value.int IntKind.i64 n)] [r_18] ∧ fits [(false, [some 2])] [r_18] ∧ ∃ (r_19 : D), PureD Try.prog 21 [r_18] [r_19] ∧ fits [(false, [some 2])] [r_19] ∧ ∃ (r_20 : D), ReadD Try.prog 25 [D.agg [D.v (Value.int IntKind.i64 b), str r, x], D.v (Value.int IntKind.i64 n)] [r_20] ∧ (NotAgg r_20 ∧ True) ∧ ∃ (r_21 : D), PureD Try.prog 20 [r_19, r_20] [r_21] ∧ fits [(false, [none])] [r_21] ∧ ∃ (r_22 : D), D.un UnOp.not r_21 = some r_22 ∧ ∃ (b_6 : Bool), r_22 = D.v (Value.bool b_6) ∧ (b_6 = true → (True ∧ True) ∧ [D.v (Value.bool false)] = [D.v (Value.bool true)]) ∧ (b_6 = false → ∃ (r_23 : D), PureD Try.prog 18 [D.agg [D.v (Value.int IntKind.i64 b), str r, x]] [r_23] ∧ fits [(false, [none])] [r_23] ∧ ∃ (r_24 : D), D.bin BinOp.neq r_23 (D.v (Value.int IntKind.i64 0)) = some r_24 ∧ ∃ (b_7 : Bool), r_24 = D.v (Value.bool b_7) ∧ (b_7 = false → ∃ (r_25 : D), PureD Try.prog 26 [D.agg [r_5.cell 0, r_5.cell 1, r_5.cell 2]] [r_25] ∧ fits [(false, [none])] [r_25] ∧ ∃ (r_26 : D), PureD Try.prog 27 [D.agg [D.v (Value.int IntKind.i64 b), str r, x]] [r_26] ∧ fits [(false, [none])] [r_26] ∧ ∃ (r_27 : D), D.bin BinOp.eql r_25 r_26 = some r_27 ∧ ∃ (b_8 : Bool), r_27 = D.v (Value.bool b_8) ∧ (b_8 = true → ∃ (r_28 : D), PureD Try.prog 28 [D.agg [r_5.cell 0, r_5.cell 1, r_5.cell 2]] [r_28] ∧ fits [(false, [none])] [r_28] ∧ ∃ (r_29 : D), PureD Try.prog 29 [D.agg [D.v (Value.int IntKind.i64 b), str r, x]] [r_29] ∧ fits [(false, [none])] [r_29] ∧ ∃ (r : D), D.bin BinOp.eql r_28 r_29 = some r ∧ ∃ (b : Bool), r = D.v (Value.bool b) ∧ (b = true → ∃ (r : D), PureD Try.prog 30 [] [r] ∧ fits [(true, [none, none, some 2])] [r] ∧ ∃ (r_30 : D), PureD Try.prog 16 [D.agg [r.cell 0, r.cell 1, r.cell 2]] [r_30] ∧ fits [(true, [none, none, some 2])] [r_30] ∧ ∃ (r : D), PureD Try.prog 15 [D.agg [r_30.cell 0, r_30.cell 1, r_30.cell 2], D.agg [D.v (Value.int IntKind.i64 0), D.v (Value.string { data := { toList := [] } }), D.v (Value.slice none 0 0)]] [r] ∧ fits [(false, [none])] [r] ∧ ∃ (b : Bool), r = D.v (Value.bool b) ∧ (b = true → ∃ (r : D), PureD Try.prog 9 [] [r] ∧ fits [(false, [none])] [r] ∧ ((∃ (y : Value), r = D.v y) ∧ True) ∧ [r] = [D.v (Value.bool true)]) ∧ (b = false → (True ∧ True) ∧ [D.v (Value.bool false)] = [D.v (Value.bool true)])) ∧ (b = false → (True ∧ True) ∧ [D.v (Value.bool false)] = [D.v (Value.bool true)])) ∧ (b_8 = false → (True ∧ True) ∧ [D.v (Value.bool false)] = [D.v (Value.bool true)])) ∧ (b_7 = true → ∃ (r : D), PureD Try.prog 30 [] [r] ∧ fits [(true, [none, none, some 2])] [r] ∧ ∃ (r_25 : D), PureD Try.prog 16 [D.agg [r.cell 0, r.cell 1, r.cell 2]] [r_25] ∧ fits [(true, [none, none, some 2])] [r_25] ∧ ∃ (r : D), PureD Try.prog 15 [D.agg [r_25.cell 0, r_25.cell 1, r_25.cell 2], D.agg [D.v (Value.int IntKind.i64 0), D.v (Value.string { data := { toList := [] } }), D.v (Value.slice none 0 0)]] [r] ∧ fits [(false, [none])] [r] ∧ ∃ (b : Bool), r = D.v (Value.bool b) ∧ (b = true → ∃ (r : D), PureD Try.prog 9 [] [r] ∧ fits [(false, [none])] [r] ∧ ((∃ (y : Value), r = D.v y) ∧ True) ∧ [r] = [D.v (Value.bool true)]) ∧ (b = false → (True ∧ True) ∧ [D.v (Value.bool false)] = [D.v (Value.bool true)])))) ∧ (b_5 = true → (True ∧ True) ∧ [D.v (Value.bool false)] = [D.v (Value.bool true)])) ∧ (b_4 = true → (True ∧ True) ∧ [D.v (Value.bool false)] = [D.v (Value.bool true)])) ∧ (b_3 = true → (True ∧ True) ∧ [D.v (Value.bool false)] = [D.v (Value.bool true)]))) ∧ (b_1 = true → ∃ (r : D), PureD Try.prog 9 [] [r] ∧ fits [(false, [none])] [r] ∧ ((∃ (y : Value), r = D.v y) ∧ True) ∧ [r] = [D.v (Value.bool true)])) := by kernel_rfl
set_option maxHeartbeats 16000000 in
theorem tells (x y : D) (ps qs : List Pt) (b c : Int) (r s : List Int) (n : Int) (hX : IsL 2 (ps.map ptD) x) (hY : IsL 2 (qs.map ptD) y) (hr : Bytes r) (hs : Bytes s) (hP : BytesL ps) (hQ : BytesL qs) : PureD Try.prog 4 [.agg [.v (.int .i64 b), str r, x], .agg [.v (.int .i64 c), str s, y], .v (.int .i64 n)] [.v (.bool true)] := by
  refine pure_cond (Lp := (fun _ => none)) (by kernel_rfl) Try.func4 (by kernel_rfl) (by kernel_rfl) ?_
  rw [vc_tells x y ps qs b c r s n]
  have awake := awake
  have e1 : True := trivial
  cases hl1 : lightF r ps
  · have LT1 := light x ps b r hX
    rw [hl1] at LT1
    have LT2 : True := trivial
    repeat' (first
      | (refine ex_some (by simp (disch := omega) only [bin_shr, bin_shl, bin_and, bin_or, bin_xor, len_str, toStr_ofL, bin_add, bin_sub, bin_mul, bin_quo, bin_rem, bin_lss, bin_leq, bin_gtr, bin_geq, bin_eql, bin_neq, eqs_cn, eqs_ci, eqs_cb, eqs_cs, Option.map_some, lenT_ofL, lst_ofL, lstSz_ofL, chunk_one, lst_nil, lst_sl, lstSz_sl, lstSz_nil, Bool.and_true, Bool.true_and, Bool.and_false, Bool.false_and, beq_self_eq_true, beq_bb, bne_bb, un_not, un_neg, conv_int, min2_int, max2_int, w64, w32, wu8, wu16, wu32, wu64, tdiv_nn, tmod_nn, cell_zero, cell_succ, cell_v, cells_v, cells_agg, Bool.not_true, Bool.not_false, Int.reduceLT, Int.reduceLE, Int.reduceEq, Int.reduceNeg, Int.reduceAdd, Int.reduceSub, Int.reduceMul, intOf_v, decide_true, decide_false]; rfl) ?_)
      | (refine ex_bool ?_)
      | (refine ⟨_, awake, ?_⟩)
      | (refine ⟨_, LT1, ?_⟩)
      | (refine ⟨_, LT2, ?_⟩)
      | (refine And.intro ?_ ?_)
      | (intro hx; have hprop := (show ∀ (p : Prop), p → True from fun _ _ => True.intro) _ hx; clear hprop; first | (cases hx; done) | (exfalso; revert hx; simp (disch := omega) only [decide_eq_true_eq, decide_eq_false_iff_not, Bool.not_eq_true', Bool.not_eq_false', Bool.and_eq_true, Bool.and_eq_false_iff, Int.not_lt, Int.not_le, ne_eq, not_false_eq_true, not_true_eq_false, reduceCtorEq, Bool.true_eq_false, Bool.false_eq_true, beq_iff_eq, bne_iff_ne, beq_eq_false_iff_ne, false_or, or_false, true_and, and_true]; done) | (simp (disch := omega) only [decide_eq_true_eq, decide_eq_false_iff_not, Bool.not_eq_true', Bool.not_eq_false', Bool.and_eq_true, Bool.and_eq_false_iff, Int.not_lt, Int.not_le, ne_eq, not_false_eq_true, not_true_eq_false, reduceCtorEq, Bool.true_eq_false, Bool.false_eq_true, beq_iff_eq, bne_iff_ne, beq_eq_false_iff_ne, false_or, or_false, true_and, and_true] at hx; first | (exfalso; omega) | skip) | skip)
      | trivial
      | exact fit_ofL _ _
      | (simp (disch := omega) only [notAgg_v, notAgg_sl, plain_v, fits, fitsOne, fitsCells, xsOf, cell_zero, cell_succ, List.range, List.range.loop, List.map, cond_true, cond_false, D.v.injEq, exists_eq', exists_eq, and_self, and_true, true_and, D.agg.injEq, List.length, exists_eq_left', D.sl.injEq, reduceCtorEq, false_or, true_or, or_true, or_false, cell_zero, cell_succ, cell_v, cells_v, cells_agg, List.length_cons, List.length_nil]; done))
    all_goals first
      | (exfalso; omega)
      | omega
      | exact fitP hX
      | exact plainP hX
      | exact fitP hY
      | exact plainP hY
      | exact fit_ofL _ _
      | exact plain_ofL (pts_plain _)
      | exact plain_ofL (ivs_plain _)
      | exact hX.notAgg
      | exact .inl rfl
      | exact hY.notAgg
      | exact notAgg_v _
      | exact ⟨_, rfl⟩
      | exact ⟨_, rfl, rfl⟩
      | rfl
      | assumption
      | (simp; done)
      | fail
  · have LT1 := light x ps b r hX
    rw [hl1] at LT1
    have LT2 := light y qs c s hY
    cases hl2 : lightF s qs
    · rw [hl2] at LT2
      repeat' (first
        | (refine ex_some (by simp (disch := omega) only [bin_shr, bin_shl, bin_and, bin_or, bin_xor, len_str, toStr_ofL, bin_add, bin_sub, bin_mul, bin_quo, bin_rem, bin_lss, bin_leq, bin_gtr, bin_geq, bin_eql, bin_neq, eqs_cn, eqs_ci, eqs_cb, eqs_cs, Option.map_some, lenT_ofL, lst_ofL, lstSz_ofL, chunk_one, lst_nil, lst_sl, lstSz_sl, lstSz_nil, Bool.and_true, Bool.true_and, Bool.and_false, Bool.false_and, beq_self_eq_true, beq_bb, bne_bb, un_not, un_neg, conv_int, min2_int, max2_int, w64, w32, wu8, wu16, wu32, wu64, tdiv_nn, tmod_nn, cell_zero, cell_succ, cell_v, cells_v, cells_agg, Bool.not_true, Bool.not_false, Int.reduceLT, Int.reduceLE, Int.reduceEq, Int.reduceNeg, Int.reduceAdd, Int.reduceSub, Int.reduceMul, intOf_v, decide_true, decide_false]; rfl) ?_)
        | (refine ex_bool ?_)
        | (refine ⟨_, awake, ?_⟩)
        | (refine ⟨_, LT1, ?_⟩)
        | (refine ⟨_, LT2, ?_⟩)
        | (refine And.intro ?_ ?_)
        | (intro hx; have hprop := (show ∀ (p : Prop), p → True from fun _ _ => True.intro) _ hx; clear hprop; first | (cases hx; done) | (exfalso; revert hx; simp (disch := omega) only [decide_eq_true_eq, decide_eq_false_iff_not, Bool.not_eq_true', Bool.not_eq_false', Bool.and_eq_true, Bool.and_eq_false_iff, Int.not_lt, Int.not_le, ne_eq, not_false_eq_true, not_true_eq_false, reduceCtorEq, Bool.true_eq_false, Bool.false_eq_true, beq_iff_eq, bne_iff_ne, beq_eq_false_iff_ne, false_or, or_false, true_and, and_true]; done) | (simp (disch := omega) only [decide_eq_true_eq, decide_eq_false_iff_not, Bool.not_eq_true', Bool.not_eq_false', Bool.and_eq_true, Bool.and_eq_false_iff, Int.not_lt, Int.not_le, ne_eq, not_false_eq_true, not_true_eq_false, reduceCtorEq, Bool.true_eq_false, Bool.false_eq_true, beq_iff_eq, bne_iff_ne, beq_eq_false_iff_ne, false_or, or_false, true_and, and_true] at hx; first | (exfalso; omega) | skip) | skip)
        | trivial
        | exact fit_ofL _ _
        | (simp (disch := omega) only [notAgg_v, notAgg_sl, plain_v, fits, fitsOne, fitsCells, xsOf, cell_zero, cell_succ, List.range, List.range.loop, List.map, cond_true, cond_false, D.v.injEq, exists_eq', exists_eq, and_self, and_true, true_and, D.agg.injEq, List.length, exists_eq_left', D.sl.injEq, reduceCtorEq, false_or, true_or, or_true, or_false, cell_zero, cell_succ, cell_v, cells_v, cells_agg, List.length_cons, List.length_nil]; done))
      all_goals first
        | (exfalso; omega)
        | omega
        | exact fitP hX
        | exact plainP hX
        | exact fitP hY
        | exact plainP hY
        | exact fit_ofL _ _
        | exact plain_ofL (pts_plain _)
        | exact plain_ofL (ivs_plain _)
        | exact hX.notAgg
        | exact .inl rfl
        | exact hY.notAgg
        | exact notAgg_v _
        | exact ⟨_, rfl⟩
        | exact ⟨_, rfl, rfl⟩
        | rfl
        | assumption
        | (simp; done)
        | fail
    · rw [hl2] at LT2
      obtain ⟨a1, a2, hPA⟩ := light_all hl1 hP
      obtain ⟨b1, b2, hQA⟩ := light_all hl2 hQ
      have OX := isL_ofL 2 (ps.map ptD)
      have OY := isL_ofL 2 (qs.map ptD)
      have OW1 := ownS x ps b r hX (by omega)
      have OW2 := ownS y qs c s hY (by omega)
      have CK := check _ ps b r OX hPA (by omega) (by omega)
      have RCK := rcheck x ps b r hX hPA (by omega) (by omega)
      have SM := same _ _ ps qs b c r s OX OY (by omega) (by omega) hPA hQA hr hs
      have RSM := rsame x y ps qs b c r s hX hY (by omega) (by omega) hPA hQA hr hs
      have CM := came _ ps b r OX hPA (by omega) (by omega)
      have RCM := rcame x ps b r hX hPA (by omega) (by omega)
      have BL := blocks _ ps b r n OX hPA (by omega) (by omega)
      obtain ⟨z, eC, hC⟩ := blk_cut b r.length ps n
      have RBL := rblocks x ps b r n z hX hPA (by omega) (by omega) eC hC
      have bl1 := blk_len b r.length ps n
      have bl2 := blk_len b r.length ps ps.length
      have SB1 := setBack _ (blkF b r.length ps ps.length) (isL_ofL 2 _) (by omega)
      have SB2 := setBack _ (blkF b r.length ps n) (isL_ofL 2 _) (by omega)
      have SS1 := setSame _ _ (blkF b r.length ps ps.length) (blkF b r.length ps ps.length) (isL_ofL 2 _) (isL_ofL 2 _) (by omega) (by omega)
      have SS2 := setSame _ _ (blkF b r.length ps n) (blkF b r.length ps n) (isL_ofL 2 _) hC (by omega) (by omega)
      have NW := new
      have BK := backS (.v nilS) [] 0 [] (.inr ⟨rfl, rfl⟩) (by simp)
      have SN := rsame (ofL 2 []) (.v nilS) [] [] 0 0 [] [] (.inr ⟨rfl, rfl⟩) (.inr ⟨rfl, rfl⟩) (by simp) (by simp) allB_nil allB_nil Bytes.nil Bytes.nil
      rw [iv_self] at SS1 SS2
      rw [sameS_self] at SN
      generalize sameS b c r s ps qs = sm at SM RSM
      by_cases hz : chkF b r.length ps = 0
      · rw [hz] at CK RCK
        have ho : (SS.mk b r ps).Ok := chk_ok.1 hz
        have h0 := ho.b
        have h1 := ho.b1
        have h2 := ho.r
        simp only at h0 h1 h2
        have LM := limit _ ps b r OX h0.1 h1 (by omega)
        have RLM := rlimit x ps b r hX h0.1 h1 (by omega)
        have HE := held _ ps b r OX hPA (by omega) (by omega)
        have RHE := rheld x ps b r hX hPA (by omega) (by omega)
        repeat' (first
          | (refine ex_some (by simp (disch := omega) only [bin_shr, bin_shl, bin_and, bin_or, bin_xor, len_str, toStr_ofL, bin_add, bin_sub, bin_mul, bin_quo, bin_rem, bin_lss, bin_leq, bin_gtr, bin_geq, bin_eql, bin_neq, eqs_cn, eqs_ci, eqs_cb, eqs_cs, Option.map_some, lenT_ofL, lst_ofL, lstSz_ofL, chunk_one, lst_nil, lst_sl, lstSz_sl, lstSz_nil, Bool.and_true, Bool.true_and, Bool.and_false, Bool.false_and, beq_self_eq_true, beq_bb, bne_bb, un_not, un_neg, conv_int, min2_int, max2_int, w64, w32, wu8, wu16, wu32, wu64, tdiv_nn, tmod_nn, cell_zero, cell_succ, cell_v, cells_v, cells_agg, Bool.not_true, Bool.not_false, Int.reduceLT, Int.reduceLE, Int.reduceEq, Int.reduceNeg, Int.reduceAdd, Int.reduceSub, Int.reduceMul, intOf_v, decide_true, decide_false]; rfl) ?_)
          | (refine ex_bool ?_)
          | (refine ⟨_, awake, ?_⟩)
          | (refine ⟨_, LT1, ?_⟩)
          | (refine ⟨_, LT2, ?_⟩)
          | (refine ⟨_, OW1, ?_⟩)
          | (refine ⟨_, OW2, ?_⟩)
          | (refine ⟨_, CK, ?_⟩)
          | (refine ⟨_, RCK, ?_⟩)
          | (refine ⟨_, SM, ?_⟩)
          | (refine ⟨_, RSM, ?_⟩)
          | (refine ⟨_, CM, ?_⟩)
          | (refine ⟨_, RCM, ?_⟩)
          | (refine ⟨_, BL, ?_⟩)
          | (refine ⟨_, RBL, ?_⟩)
          | (refine ⟨_, SB1, ?_⟩)
          | (refine ⟨_, SB2, ?_⟩)
          | (refine ⟨_, SS1, ?_⟩)
          | (refine ⟨_, SS2, ?_⟩)
          | (refine ⟨_, NW, ?_⟩)
          | (refine ⟨_, BK, ?_⟩)
          | (refine ⟨_, SN, ?_⟩)
          | (refine ⟨_, LM, ?_⟩)
          | (refine ⟨_, RLM, ?_⟩)
          | (refine ⟨_, HE, ?_⟩)
          | (refine ⟨_, RHE, ?_⟩)
          | (refine And.intro ?_ ?_)
          | (intro hx; have hprop := (show ∀ (p : Prop), p → True from fun _ _ => True.intro) _ hx; clear hprop; first | (cases hx; done) | (exfalso; revert hx; simp (disch := omega) only [decide_eq_true_eq, decide_eq_false_iff_not, Bool.not_eq_true', Bool.not_eq_false', Bool.and_eq_true, Bool.and_eq_false_iff, Int.not_lt, Int.not_le, ne_eq, not_false_eq_true, not_true_eq_false, reduceCtorEq, Bool.true_eq_false, Bool.false_eq_true, beq_iff_eq, bne_iff_ne, beq_eq_false_iff_ne, false_or, or_false, true_and, and_true]; done) | (simp (disch := omega) only [decide_eq_true_eq, decide_eq_false_iff_not, Bool.not_eq_true', Bool.not_eq_false', Bool.and_eq_true, Bool.and_eq_false_iff, Int.not_lt, Int.not_le, ne_eq, not_false_eq_true, not_true_eq_false, reduceCtorEq, Bool.true_eq_false, Bool.false_eq_true, beq_iff_eq, bne_iff_ne, beq_eq_false_iff_ne, false_or, or_false, true_and, and_true] at hx; first | (exfalso; omega) | skip) | skip)
          | trivial
          | exact fit_ofL _ _
          | (simp (disch := omega) only [notAgg_v, notAgg_sl, plain_v, fits, fitsOne, fitsCells, xsOf, cell_zero, cell_succ, List.range, List.range.loop, List.map, cond_true, cond_false, D.v.injEq, exists_eq', exists_eq, and_self, and_true, true_and, D.agg.injEq, List.length, exists_eq_left', D.sl.injEq, reduceCtorEq, false_or, true_or, or_true, or_false, cell_zero, cell_succ, cell_v, cells_v, cells_agg, List.length_cons, List.length_nil]; done))
        all_goals first
          | (exfalso; omega)
          | omega
          | exact fitP hX
          | exact plainP hX
          | exact fitP hY
          | exact plainP hY
          | exact hC.notAgg
          | exact fitZ hC
          | exact plainZ hC
          | exact fit_ofL _ _
          | exact plain_ofL (pts_plain _)
          | exact plain_ofL (ivs_plain _)
          | exact hX.notAgg
          | exact .inl rfl
          | exact hY.notAgg
          | exact notAgg_v _
          | exact ⟨_, rfl⟩
          | exact ⟨_, rfl, rfl⟩
          | rfl
          | assumption
          | (simp; done)
          | fail
      · have hzr : 0 ≤ chkF b r.length ps ∧ chkF b r.length ps ≤ 10 := by unfold chkF; (repeat' split) <;> omega
        generalize chkF b r.length ps = ck at *
        repeat' (first
          | (refine ex_some (by simp (disch := omega) only [bin_shr, bin_shl, bin_and, bin_or, bin_xor, len_str, toStr_ofL, bin_add, bin_sub, bin_mul, bin_quo, bin_rem, bin_lss, bin_leq, bin_gtr, bin_geq, bin_eql, bin_neq, eqs_cn, eqs_ci, eqs_cb, eqs_cs, Option.map_some, lenT_ofL, lst_ofL, lstSz_ofL, chunk_one, lst_nil, lst_sl, lstSz_sl, lstSz_nil, Bool.and_true, Bool.true_and, Bool.and_false, Bool.false_and, beq_self_eq_true, beq_bb, bne_bb, un_not, un_neg, conv_int, min2_int, max2_int, w64, w32, wu8, wu16, wu32, wu64, tdiv_nn, tmod_nn, cell_zero, cell_succ, cell_v, cells_v, cells_agg, Bool.not_true, Bool.not_false, Int.reduceLT, Int.reduceLE, Int.reduceEq, Int.reduceNeg, Int.reduceAdd, Int.reduceSub, Int.reduceMul, intOf_v, decide_true, decide_false]; rfl) ?_)
          | (refine ex_bool ?_)
          | (refine ⟨_, awake, ?_⟩)
          | (refine ⟨_, LT1, ?_⟩)
          | (refine ⟨_, LT2, ?_⟩)
          | (refine ⟨_, OW1, ?_⟩)
          | (refine ⟨_, OW2, ?_⟩)
          | (refine ⟨_, CK, ?_⟩)
          | (refine ⟨_, RCK, ?_⟩)
          | (refine ⟨_, SM, ?_⟩)
          | (refine ⟨_, RSM, ?_⟩)
          | (refine ⟨_, CM, ?_⟩)
          | (refine ⟨_, RCM, ?_⟩)
          | (refine ⟨_, BL, ?_⟩)
          | (refine ⟨_, RBL, ?_⟩)
          | (refine ⟨_, SB1, ?_⟩)
          | (refine ⟨_, SB2, ?_⟩)
          | (refine ⟨_, SS1, ?_⟩)
          | (refine ⟨_, SS2, ?_⟩)
          | (refine ⟨_, NW, ?_⟩)
          | (refine ⟨_, BK, ?_⟩)
          | (refine ⟨_, SN, ?_⟩)
          | (refine And.intro ?_ ?_)
          | (intro hx; have hprop := (show ∀ (p : Prop), p → True from fun _ _ => True.intro) _ hx; clear hprop; first | (cases hx; done) | (exfalso; revert hx; simp (disch := omega) only [decide_eq_true_eq, decide_eq_false_iff_not, Bool.not_eq_true', Bool.not_eq_false', Bool.and_eq_true, Bool.and_eq_false_iff, Int.not_lt, Int.not_le, ne_eq, not_false_eq_true, not_true_eq_false, reduceCtorEq, Bool.true_eq_false, Bool.false_eq_true, beq_iff_eq, bne_iff_ne, beq_eq_false_iff_ne, false_or, or_false, true_and, and_true]; done) | (simp (disch := omega) only [decide_eq_true_eq, decide_eq_false_iff_not, Bool.not_eq_true', Bool.not_eq_false', Bool.and_eq_true, Bool.and_eq_false_iff, Int.not_lt, Int.not_le, ne_eq, not_false_eq_true, not_true_eq_false, reduceCtorEq, Bool.true_eq_false, Bool.false_eq_true, beq_iff_eq, bne_iff_ne, beq_eq_false_iff_ne, false_or, or_false, true_and, and_true] at hx; first | (exfalso; omega) | skip) | skip)
          | trivial
          | exact fit_ofL _ _
          | (simp (disch := omega) only [notAgg_v, notAgg_sl, plain_v, fits, fitsOne, fitsCells, xsOf, cell_zero, cell_succ, List.range, List.range.loop, List.map, cond_true, cond_false, D.v.injEq, exists_eq', exists_eq, and_self, and_true, true_and, D.agg.injEq, List.length, exists_eq_left', D.sl.injEq, reduceCtorEq, false_or, true_or, or_true, or_false, cell_zero, cell_succ, cell_v, cells_v, cells_agg, List.length_cons, List.length_nil]; done))
        all_goals first
          | (exfalso; omega)
          | omega
          | exact fitP hX
          | exact plainP hX
          | exact fitP hY
          | exact plainP hY
          | exact hC.notAgg
          | exact fitZ hC
          | exact plainZ hC
          | exact fit_ofL _ _
          | exact plain_ofL (pts_plain _)
          | exact plain_ofL (ivs_plain _)
          | exact hX.notAgg
          | exact .inl rfl
          | exact hY.notAgg
          | exact notAgg_v _
          | exact ⟨_, rfl⟩
          | exact ⟨_, rfl, rfl⟩
          | rfl
          | assumption
          | (simp; done)
          | fail


theorem law_RecvqTells (xs : List D) (h : All2 TypedA [(true, [.int .i64, .str, .sl true [.int .i64, .str]]), (true, [.int .i64, .str, .sl true [.int .i64, .str]]), (false, [.int .i64])] xs) : PureD Try.prog 4 xs [.v (.bool true)] := by
  obtain ⟨x, xs, rfl, hx, h⟩ := h.cons_
  obtain ⟨y, xs, rfl, hy, h⟩ := h.cons_
  obtain ⟨z, xs, rfl, hz, h⟩ := h.cons_
  obtain rfl := h.nil_
  obtain ⟨b, r, x, ps, rfl, hX, _, hr, hP, _⟩ := typed_st hx
  obtain ⟨c, s, y, qs, rfl, hY, _, hs, hQ, _⟩ := typed_st hy
  obtain ⟨n, rfl, _⟩ := hz.one.int_
  exact tells x y ps qs b c r s n hX hY hr hs hP hQ

end Go.Proofs.Ytoeefdjomhbnlaa