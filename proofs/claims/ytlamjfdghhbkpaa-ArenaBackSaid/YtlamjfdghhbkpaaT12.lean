/-
  Layer 18: the laws ArenaChanges and ArenaTells.
-/
import Derived.Test.YtlamjfdghhbkpaaT1
import Derived.Test.YtlamjfdghhbkpaaT2
import Derived.Test.YtlamjfdghhbkpaaT3
import Derived.Test.YtlamjfdghhbkpaaT4
import Derived.Test.YtlamjfdghhbkpaaT5
import Derived.Test.YtlamjfdghhbkpaaT6
import Derived.Test.YtlamjfdghhbkpaaT7
import Derived.Test.YtlamjfdghhbkpaaT8
import Derived.Test.YtlamjfdghhbkpaaT9
import Derived.Test.YtlamjfdghhbkpaaT10
import Derived.Test.YtlamjfdghhbkpaaT11
namespace Go.Proofs.Ytlamjfdghhbkpaa
open Go.RowKit
set_option linter.unusedSimpArgs false
set_option linter.unusedVariables false


theorem takeL (cs : List Cl) (f u v : Int) : ((takeF cs f u v).1 = [] → cs = []) ∧ (takeF cs f u v).1.length ≤ cs.length + 1 := by
  unfold takeF
  (repeat' split) <;> simp
theorem giveL (cs : List Cl) (f u z : Int) : ((giveF cs f u z).1 = [] → cs = []) ∧ (giveF cs f u z).1.length ≤ cs.length := by
  unfold giveF
  (repeat' split) <;> simp
theorem setL_ (cs : List Cl) (f u z v : Int) : ((setF cs f u z v) = [] → cs = []) ∧ (setF cs f u z v).length ≤ cs.length := by
  unfold setF
  (repeat' split) <;> simp
theorem same_self (a : List Cl) (f u : Int) : sameS a a f f u u = true := by simp [sameS, sameC]
theorem fitC2 {x : D} {cs : List Cl} (h : IsL 3 (cls cs) x) : x = .v nilS ∨ ∃ es, x = .sl 3 es := fitC h
theorem cells3 {ds : List D} (h : All2 Typed [.bool, .int .i64, .int .i64] ds) : ∃ c : Cl, D.agg ds = clD c := by
  obtain ⟨a, ds, rfl, ha, h⟩ := h.cons_
  obtain ⟨b, ds, rfl, hb, h⟩ := h.cons_
  obtain ⟨c, ds, rfl, hc, h⟩ := h.cons_
  obtain rfl := h.nil_
  obtain ⟨p, rfl⟩ := ha.bool_
  obtain ⟨q, rfl, _⟩ := hb.int_
  obtain ⟨r, rfl, _⟩ := hc.int_
  exact ⟨⟨p, q, r⟩, rfl⟩
theorem typed_st {d : D} (h : TypedA (true, [.sl true [.bool, .int .i64, .int .i64], .int .i64, .int .i64]) d) : ∃ x cs f u, d = .agg [x, .v (.int .i64 f), .v (.int .i64 u)] ∧ IsL 3 (cls cs) x := by
  obtain ⟨ds, rfl, k⟩ := h.agg
  clear h
  obtain ⟨x, ds, rfl, hx, h⟩ := k.cons_
  obtain ⟨b, ds, rfl, hb, h⟩ := h.cons_
  obtain ⟨c, ds, rfl, hc, h⟩ := h.cons_
  obtain rfl := h.nil_
  obtain ⟨f, rfl, _⟩ := hb.int_
  obtain ⟨u, rfl, _⟩ := hc.int_
  obtain ⟨es, h1, _, h3⟩ := hx.row
  obtain ⟨cs, rfl, _⟩ := map_of (f := clD) (p := fun _ => True) (es := es) (fun e he => by
    obtain ⟨ha, hc⟩ := h3 e he
    cases e with
    | agg l => obtain ⟨c, hc⟩ := cells3 hc; exact ⟨c, hc, trivial⟩
    | v x => cases ha
    | sl sz l => cases ha)
  exact ⟨x, cs, f, u, rfl, h1⟩

theorem vc_changes (x : D) (cs : List Cl) (f u : Int) (z v : Int) : Cond Try.prog (fun _ => none) Try.f3 [.agg [x, .v (.int .i64 f), .v (.int .i64 u)], .v (.int .i64 z), .v (.int .i64 v)] [.v (.bool true)] = (((∃ (cs : List D), D.agg [x, D.v (Value.int IntKind.i64 f), D.v (Value.int IntKind.i64 u)] = D.agg cs ∧ cs.length = 3) ∧ NotAgg (D.v (Value.int IntKind.i64 z)) ∧ NotAgg (D.v (Value.int IntKind.i64 v)) ∧ True) ∧ ∃ (r : D), D.lenT (TypeDesc.slice 63) x = some r ∧ ∃ (r_1 : D), D.bin BinOp.gtr r (D.v (Value.int IntKind.i64 80)) = some r_1 ∧ ∃ (b : Bool), r_1 = D.v (Value.bool b) ∧ (b = true → ∃ (r : D), PureD Try.prog 7 [] [r] ∧ fits [(false, [none])] [r] ∧ ((∃ (y : Value), r = D.v y) ∧ True) ∧ [r] = [D.v (Value.bool true)]) ∧ (b = false → ∃ (r : D), PureD Try.prog 8 [D.agg [x, D.v (Value.int IntKind.i64 f), D.v (Value.int IntKind.i64 u)]] [r] ∧ fits [(true, [some 3, none, none])] [r] ∧ ∃ (r_2 : D), ∃ (r_3 : D), ∃ (r_4 : D), PureD Try.prog 9 [D.agg [r.cell 0, r.cell 1, r.cell 2], D.v (Value.int IntKind.i64 v)] [r_2, r_3, r_4] ∧ fits [(true, [some 3, none, none]), (false, [none]), (false, [none])] [r_2, r_3, r_4] ∧ ∃ (r_5 : D), ∃ (r_6 : D), ∃ (r_7 : D), ReadD Try.prog 10 [D.agg [x, D.v (Value.int IntKind.i64 f), D.v (Value.int IntKind.i64 u)], D.v (Value.int IntKind.i64 v)] [r_5, r_6, r_7] ∧ ((∃ (cs : List D), r_5 = D.agg cs ∧ cs.length = [some 3, none, none].length) ∧ NotAgg r_6 ∧ NotAgg r_7 ∧ True) ∧ ∃ (r_8 : D), ∃ (r_9 : D), PureD Try.prog 11 [D.agg [r.cell 0, r.cell 1, r.cell 2], D.v (Value.int IntKind.i64 z)] [r_8, r_9] ∧ fits [(true, [some 3, none, none]), (false, [none])] [r_8, r_9] ∧ ∃ (r_10 : D), ∃ (r_11 : D), ReadD Try.prog 12 [D.agg [x, D.v (Value.int IntKind.i64 f), D.v (Value.int IntKind.i64 u)], D.v (Value.int IntKind.i64 z)] [r_10, r_11] ∧ ((∃ (cs : List D), r_10 = D.agg cs ∧ cs.length = [some 3, none, none].length) ∧ NotAgg r_11 ∧ True) ∧ ∃ (r_12 : D), ∃ (r_13 : D), PureD Try.prog 13 [D.agg [r.cell 0, r.cell 1, r.cell 2], D.v (Value.int IntKind.i64 z), D.v (Value.int IntKind.i64 v)] [r_12, r_13] ∧ fits [(true, [some 3, none, none]), (false, [none])] [r_12, r_13] ∧ ∃ (r_14 : D), ∃ (r_15 : D), ReadD Try.prog 14 [D.agg [x, D.v (Value.int IntKind.i64 f), D.v (Value.int IntKind.i64 u)], D.v (Value.int IntKind.i64 z), D.v (Value.int IntKind.i64 v)] [r_14, r_15] ∧ ((∃ (cs : List D), r_14 = D.agg cs ∧ cs.length = [some 3, none, none].length) ∧ NotAgg r_15 ∧ True) ∧ ∃ (r_16 : D), PureD Try.prog 16 [D.agg [r_2.cell 0, r_2.cell 1, r_2.cell 2]] [r_16] ∧ fits [(true, [some 3, none, none])] [r_16] ∧ ∃ (r_17 : D), PureD Try.prog 15 [D.agg [r_16.cell 0, r_16.cell 1, r_16.cell 2], D.agg [r_5.cell 0, r_5.cell 1, r_5.cell 2]] [r_17] ∧ fits [(false, [none])] [r_17] ∧ ∃ (b : Bool), r_17 = D.v (Value.bool b) ∧ (b = true → ∃ (r_18 : D), D.bin BinOp.eql r_3 r_6 = some r_18 ∧ ∃ (b : Bool), r_18 = D.v (Value.bool b) ∧ (b = true → ∃ (r_19 : D), D.bin BinOp.eql r_4 r_7 = some r_19 ∧ ∃ (b : Bool), r_19 = D.v (Value.bool b) ∧ (b = true → ∃ (r_20 : D), PureD Try.prog 16 [D.agg [r_8.cell 0, r_8.cell 1, r_8.cell 2]] [r_20] ∧ fits [(true, [some 3, none, none])] [r_20] ∧ ∃ (r_21 : D), PureD Try.prog 15 [D.agg [r_20.cell 0, r_20.cell 1, r_20.cell 2], D.agg [r_10.cell 0, r_10.cell 1, r_10.cell 2]] [r_21] ∧ fits [(false, [none])] [r_21] ∧ ∃ (b : Bool), r_21 = D.v (Value.bool b) ∧ (b = true → ∃ (r_22 : D), D.bin BinOp.eql r_9 r_11 = some r_22 ∧ ∃ (b : Bool), r_22 = D.v (Value.bool b) ∧ (b = true → ∃ (r_23 : D), PureD Try.prog 16 [D.agg [r_12.cell 0, r_12.cell 1, r_12.cell 2]] [r_23] ∧ fits [(true, [some 3, none, none])] [r_23] ∧ ∃ (r_24 : D), PureD Try.prog 15 [D.agg [r_23.cell 0, r_23.cell 1, r_23.cell 2], D.agg [r_14.cell 0, r_14.cell 1, r_14.cell 2]] [r_24] ∧ fits [(false, [none])] [r_24] ∧ ∃ (b : Bool), r_24 = D.v (Value.bool b) ∧ (b = true → ∃ (r_25 : D), D.bin BinOp.eql r_13 r_15 = some r_25 ∧ ∃ (b : Bool), r_25 = D.v (Value.bool b) ∧ (b = true → ∃ (r_26 : D), PureD Try.prog 16 [D.agg [r.cell 0, r.cell 1, r.cell 2]] [r_26] ∧ fits [(true, [some 3, none, none])] [r_26] ∧ ∃ (r : D), PureD Try.prog 15 [D.agg [r_26.cell 0, r_26.cell 1, r_26.cell 2], D.agg [x, D.v (Value.int IntKind.i64 f), D.v (Value.int IntKind.i64 u)]] [r] ∧ fits [(false, [none])] [r] ∧ ∃ (b : Bool), r = D.v (Value.bool b) ∧ (b = true → ∃ (r : D), PureD Try.prog 7 [] [r] ∧ fits [(false, [none])] [r] ∧ ((∃ (y : Value), r = D.v y) ∧ True) ∧ [r] = [D.v (Value.bool true)]) ∧ (b = false → (True ∧ True) ∧ [D.v (Value.bool false)] = [D.v (Value.bool true)])) ∧ (b = false → (True ∧ True) ∧ [D.v (Value.bool false)] = [D.v (Value.bool true)])) ∧ (b = false → (True ∧ True) ∧ [D.v (Value.bool false)] = [D.v (Value.bool true)])) ∧ (b = false → (True ∧ True) ∧ [D.v (Value.bool false)] = [D.v (Value.bool true)])) ∧ (b = false → (True ∧ True) ∧ [D.v (Value.bool false)] = [D.v (Value.bool true)])) ∧ (b = false → (True ∧ True) ∧ [D.v (Value.bool false)] = [D.v (Value.bool true)])) ∧ (b = false → (True ∧ True) ∧ [D.v (Value.bool false)] = [D.v (Value.bool true)])) ∧ (b = false → (True ∧ True) ∧ [D.v (Value.bool false)] = [D.v (Value.bool true)]))) := by kernel_rfl
set_option maxHeartbeats 16000000 in
theorem changes (x : D) (cs : List Cl) (f u : Int) (z v : Int) (hX : IsL 3 (cls cs) x) : PureD Try.prog 3 [.agg [x, .v (.int .i64 f), .v (.int .i64 u)], .v (.int .i64 z), .v (.int .i64 v)] [.v (.bool true)] := by
  refine pure_cond (Lp := (fun _ => none)) (by kernel_rfl) Try.func3 (by kernel_rfl) (by kernel_rfl) ?_
  rw [vc_changes x cs f u z v]
  by_cases hl8 : cs.length ≤ 80
  · skip
    have hl : cs.length ≤ 100000 := by omega
    have hO := isO cs
    have OWN := ownC x cs f u hX hl
    have BX := backC (ofL 3 (cls cs)) cs f u hO hl
    have MX := rsame (ofL 3 (cls cs)) x cs cs f u f u hO hX hl hl
    have T1 := take (ofL 3 (cls cs)) cs f u v hO hl
    have T2 := rtake x cs f u v hX hl
    have tl := takeL cs f u v
    have tl2 := tl.2
    have B1 := backC (reD (ofL 3 (cls cs)) (takeF cs f u v).1) (takeF cs f u v).1 (takeF cs f u v).2.1 (takeF cs f u v).2.2.1 (reD_isL hO tl.1) (by omega)
    have M1 := rsame (ofL 3 (cls (takeF cs f u v).1)) (reD x (takeF cs f u v).1) (takeF cs f u v).1 (takeF cs f u v).1 (takeF cs f u v).2.1 (takeF cs f u v).2.2.1 (takeF cs f u v).2.1 (takeF cs f u v).2.2.1 (isO _) (reD_isL hX tl.1) (by omega) (by omega)
    have G1 := give (ofL 3 (cls cs)) cs f u z hO hl
    have G2 := rgive x cs f u z hX hl
    have gl := giveL cs f u z
    have gl2 := gl.2
    have B2 := backC (reD (ofL 3 (cls cs)) (giveF cs f u z).1) (giveF cs f u z).1 (giveF cs f u z).2.1 (giveF cs f u z).2.2 (reD_isL hO gl.1) (by omega)
    have M2 := rsame (ofL 3 (cls (giveF cs f u z).1)) (reD x (giveF cs f u z).1) (giveF cs f u z).1 (giveF cs f u z).1 (giveF cs f u z).2.1 (giveF cs f u z).2.2 (giveF cs f u z).2.1 (giveF cs f u z).2.2 (isO _) (reD_isL hX gl.1) (by omega) (by omega)
    have S1 := set (ofL 3 (cls cs)) cs f u z v hO hl
    have S2 := rset x cs f u z v hX hl
    have sl := setL_ cs f u z v
    have sl2 := sl.2
    have B3 := backC (reD (ofL 3 (cls cs)) (setF cs f u z v)) (setF cs f u z v) f u (reD_isL hO sl.1) (by omega)
    have M3 := rsame (ofL 3 (cls (setF cs f u z v))) (reD x (setF cs f u z v)) (setF cs f u z v) (setF cs f u z v) f u f u (isO _) (reD_isL hX sl.1) (by omega) (by omega)
    rw [same_self] at M1 M2 M3 MX
    simp only [hX.notAgg, hX.lenT, cls_len, Option.some.injEq, exists_eq_left']
    repeat' (first
      | (refine ex_some (by simp (disch := omega) only [bin_shr, bin_shl, bin_and, bin_or, bin_xor, len_str, toStr_ofL, bin_add, bin_sub, bin_mul, bin_quo, bin_rem, bin_lss, bin_leq, bin_gtr, bin_geq, bin_eql, bin_neq, eqs_cn, eqs_ci, eqs_cb, eqs_cs, Option.map_some, lenT_ofL, lst_ofL, lstSz_ofL, chunk_one, lst_nil, lst_sl, lstSz_sl, lstSz_nil, Bool.and_true, Bool.true_and, Bool.and_false, Bool.false_and, beq_self_eq_true, beq_bb, bne_bb, un_not, un_neg, conv_int, min2_int, max2_int, w64, w32, wu8, wu16, wu32, wu64, tdiv_nn, tmod_nn, cell_zero, cell_succ, cell_v, cells_v, cells_agg, Bool.not_true, Bool.not_false, Int.reduceLT, Int.reduceLE, Int.reduceEq, Int.reduceNeg, Int.reduceAdd, Int.reduceSub, Int.reduceMul, intOf_v, decide_true, decide_false]; rfl) ?_)
      | (refine ex_bool ?_)
      | (refine ⟨_, awake, ?_⟩)
      | (refine ⟨_, OWN, ?_⟩)
      | (refine ⟨_, _, _, T1, ?_⟩)
      | (refine ⟨_, _, _, T2, ?_⟩)
      | (refine ⟨_, _, G1, ?_⟩)
      | (refine ⟨_, _, G2, ?_⟩)
      | (refine ⟨_, _, S1, ?_⟩)
      | (refine ⟨_, _, S2, ?_⟩)
      | (refine ⟨_, B1, ?_⟩)
      | (refine ⟨_, B2, ?_⟩)
      | (refine ⟨_, B3, ?_⟩)
      | (refine ⟨_, BX, ?_⟩)
      | (refine ⟨_, M1, ?_⟩)
      | (refine ⟨_, M2, ?_⟩)
      | (refine ⟨_, M3, ?_⟩)
      | (refine ⟨_, MX, ?_⟩)
      | (refine And.intro ?_ ?_)
      | (intro hx; first | (cases hx; done) | (exfalso; revert hx; simp (disch := omega) only [decide_eq_true_eq, decide_eq_false_iff_not, Bool.not_eq_true', Bool.not_eq_false', Bool.and_eq_true, Bool.and_eq_false_iff, Int.not_lt, Int.not_le, ne_eq, not_false_eq_true, not_true_eq_false, reduceCtorEq, Bool.true_eq_false, Bool.false_eq_true, beq_iff_eq, bne_iff_ne, beq_eq_false_iff_ne, false_or, or_false, true_and, and_true]; done) | (simp (disch := omega) only [decide_eq_true_eq, decide_eq_false_iff_not, Bool.not_eq_true', Bool.not_eq_false', Bool.and_eq_true, Bool.and_eq_false_iff, Int.not_lt, Int.not_le, ne_eq, not_false_eq_true, not_true_eq_false, reduceCtorEq, Bool.true_eq_false, Bool.false_eq_true, beq_iff_eq, bne_iff_ne, beq_eq_false_iff_ne, false_or, or_false, true_and, and_true] at hx; first | (exfalso; omega) | skip) | skip)
      | trivial
      | exact fit_ofL _ _
      | (simp (disch := omega) only [notAgg_v, notAgg_sl, plain_v, fits, fitsOne, fitsCells, xsOf, cell_zero, cell_succ, List.range, List.range.loop, List.map, cond_true, cond_false, D.v.injEq, exists_eq', exists_eq, and_self, and_true, true_and, D.agg.injEq, List.length, exists_eq_left', D.sl.injEq, reduceCtorEq, false_or, true_or, or_true, or_false, cell_zero, cell_succ, cell_v, cells_v, cells_agg, List.length_cons, List.length_nil]; done))
    all_goals first
      | (exfalso; omega)
      | omega
      | rfl
      | exact fit_ofL _ _
      | exact ⟨_, rfl⟩
      | exact ⟨_, rfl, rfl⟩
      | exact fitC hX
      | exact plainC hX
      | exact plainS hX
      | exact plainO
      | exact fitRe (isO _)
      | exact fitRe hX
      | (simp only [cell_zero]; first | exact fitRe hX | exact plainS hX)
      | (simp; done)
      | fail
  · simp only [hX.notAgg, hX.lenT, cls_len, Option.some.injEq, exists_eq_left']
    repeat' (first
      | (refine ex_some (by simp (disch := omega) only [bin_shr, bin_shl, bin_and, bin_or, bin_xor, len_str, toStr_ofL, bin_add, bin_sub, bin_mul, bin_quo, bin_rem, bin_lss, bin_leq, bin_gtr, bin_geq, bin_eql, bin_neq, eqs_cn, eqs_ci, eqs_cb, eqs_cs, Option.map_some, lenT_ofL, lst_ofL, lstSz_ofL, chunk_one, lst_nil, lst_sl, lstSz_sl, lstSz_nil, Bool.and_true, Bool.true_and, Bool.and_false, Bool.false_and, beq_self_eq_true, beq_bb, bne_bb, un_not, un_neg, conv_int, min2_int, max2_int, w64, w32, wu8, wu16, wu32, wu64, tdiv_nn, tmod_nn, cell_zero, cell_succ, cell_v, cells_v, cells_agg, Bool.not_true, Bool.not_false, Int.reduceLT, Int.reduceLE, Int.reduceEq, Int.reduceNeg, Int.reduceAdd, Int.reduceSub, Int.reduceMul, intOf_v, decide_true, decide_false]; rfl) ?_)
      | (refine ex_bool ?_)
      | (refine ⟨_, awake, ?_⟩)
      | (refine And.intro ?_ ?_)
      | (intro hx; first | (cases hx; done) | (exfalso; revert hx; simp (disch := omega) only [decide_eq_true_eq, decide_eq_false_iff_not, Bool.not_eq_true', Bool.not_eq_false', Bool.and_eq_true, Bool.and_eq_false_iff, Int.not_lt, Int.not_le, ne_eq, not_false_eq_true, not_true_eq_false, reduceCtorEq, Bool.true_eq_false, Bool.false_eq_true, beq_iff_eq, bne_iff_ne, beq_eq_false_iff_ne, false_or, or_false, true_and, and_true]; done) | (simp (disch := omega) only [decide_eq_true_eq, decide_eq_false_iff_not, Bool.not_eq_true', Bool.not_eq_false', Bool.and_eq_true, Bool.and_eq_false_iff, Int.not_lt, Int.not_le, ne_eq, not_false_eq_true, not_true_eq_false, reduceCtorEq, Bool.true_eq_false, Bool.false_eq_true, beq_iff_eq, bne_iff_ne, beq_eq_false_iff_ne, false_or, or_false, true_and, and_true] at hx; first | (exfalso; omega) | skip) | skip)
      | trivial
      | exact fit_ofL _ _
      | (simp (disch := omega) only [notAgg_v, notAgg_sl, plain_v, fits, fitsOne, fitsCells, xsOf, cell_zero, cell_succ, List.range, List.range.loop, List.map, cond_true, cond_false, D.v.injEq, exists_eq', exists_eq, and_self, and_true, true_and, D.agg.injEq, List.length, exists_eq_left', D.sl.injEq, reduceCtorEq, false_or, true_or, or_true, or_false, cell_zero, cell_succ, cell_v, cells_v, cells_agg, List.length_cons, List.length_nil]; done))
    all_goals first
      | (exfalso; omega)
      | omega
      | rfl
      | exact fit_ofL _ _
      | exact ⟨_, rfl⟩
      | exact ⟨_, rfl, rfl⟩
      | exact fitC hX
      | exact plainC hX
      | exact plainS hX
      | exact plainO
      | exact fitRe (isO _)
      | exact fitRe hX
      | (simp only [cell_zero]; first | exact fitRe hX | exact plainS hX)
      | (simp; done)
      | fail


theorem law_ArenaChanges (xs : List D) (h : All2 TypedA [(true, [.sl true [.bool, .int .i64, .int .i64], .int .i64, .int .i64]), (false, [.int .i64]), (false, [.int .i64])] xs) : PureD Try.prog 3 xs [.v (.bool true)] := by
  obtain ⟨x, xs, rfl, hx, h⟩ := h.cons_
  obtain ⟨y, xs, rfl, hy, h⟩ := h.cons_
  obtain ⟨z, xs, rfl, hz, h⟩ := h.cons_
  obtain rfl := h.nil_
  obtain ⟨x, cs, f, u, rfl, hX⟩ := typed_st hx
  obtain ⟨p, rfl, _⟩ := hy.one.int_
  obtain ⟨q, rfl, _⟩ := hz.one.int_
  exact changes x cs f u p q hX

end Go.Proofs.Ytlamjfdghhbkpaa