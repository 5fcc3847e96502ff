/-
  Layer 18: one cell; all that are live; the same.
-/
import Derived.Test.YtlamjfdghhbkpaaT1
import Derived.Test.YtlamjfdghhbkpaaT2
namespace Go.Proofs.Ytlamjfdghhbkpaa
open Go.RowKit
set_option linter.unusedSimpArgs false
set_option linter.unusedVariables false


theorem fitC {x : D} {cs : List Cl} (h : IsL 3 (cls cs) x) : x = .v nilS ∨ ∃ es, x = .sl 3 es := by rcases h with rfl | ⟨rfl, _⟩; exact .inr ⟨_, rfl⟩; exact .inl rfl
theorem plainC {x : D} {cs : List Cl} (h : IsL 3 (cls cs) x) : PlainD x := by rcases h with rfl | ⟨rfl, _⟩; exact plain_sl (cls_plain _); exact plain_v _
def liveB (cs : List Cl) (z : Int) : Bool := decide (0 ≤ z ∧ z < (cs.length : Nat)) && (cs.getD z.toNat c0).live
def findF (cs : List Cl) (f u z : Int) : Int := if chkF cs f u ≠ 0 then chkF cs f u else if liveB cs z = true then 0 else 6
theorem chk_cases (cs : List Cl) (f u : Int) : 0 ≤ chkF cs f u ∧ chkF cs f u ≤ 10 := by unfold chkF; (repeat' split) <;> omega

theorem vc_kept (x : D) (cs : List Cl) (f u : Int) : Cond Try.prog (fun _ => none) Try.f29 [.agg [x, .v (.int .i64 f), .v (.int .i64 u)]] [.agg [x, .v (.int .i64 f), .v (.int .i64 u)]] = (((∃ (cs : List D), D.agg [x, D.v (Value.int IntKind.i64 f), D.v (Value.int IntKind.i64 u)] = D.agg cs ∧ cs.length = 3) ∧ True) ∧ ∃ (r : D), PureD Try.prog 39 [x] [r] ∧ fits [(false, [some 3])] [r] ∧ (PlainD r ∧ (∃ (y : Value), D.v (Value.int IntKind.i64 f) = D.v y) ∧ (∃ (y : Value), D.v (Value.int IntKind.i64 u) = D.v y) ∧ True) ∧ [D.agg [r, D.v (Value.int IntKind.i64 f), D.v (Value.int IntKind.i64 u)]] = [D.agg [x, D.v (Value.int IntKind.i64 f), D.v (Value.int IntKind.i64 u)]]) := by kernel_rfl
theorem kept (x : D) (cs : List Cl) (f u : Int) (hX : IsL 3 (cls cs) x) (hl : cs.length ≤ 100000) : PureD Try.prog 29 [.agg [x, .v (.int .i64 f), .v (.int .i64 u)]] [.agg [x, .v (.int .i64 f), .v (.int .i64 u)]] := by
  refine pure_cond (Lp := (fun _ => none)) (by kernel_rfl) Try.func29 (by kernel_rfl) (by kernel_rfl) ?_
  rw [vc_kept x cs f u]
  repeat' (first
    | (refine ex_some (by simp (disch := omega) only [bin_shr, bin_shl, bin_and, bin_or, bin_xor, len_str, toStr_ofL, bin_add, bin_sub, bin_mul, bin_quo, bin_rem, bin_lss, bin_leq, bin_gtr, bin_geq, bin_eql, bin_neq, eqs_cn, eqs_ci, eqs_cb, eqs_cs, Option.map_some, lenT_ofL, lst_ofL, lstSz_ofL, chunk_one, lst_nil, lst_sl, lstSz_sl, lstSz_nil, Bool.and_true, Bool.true_and, Bool.and_false, Bool.false_and, beq_self_eq_true, beq_bb, bne_bb, un_not, un_neg, conv_int, min2_int, max2_int, w64, w32, wu8, wu16, wu32, wu64, tdiv_nn, tmod_nn, cell_zero, cell_succ, cell_v, cells_v, cells_agg, Bool.not_true, Bool.not_false, Int.reduceLT, Int.reduceLE, Int.reduceEq, Int.reduceNeg, Int.reduceAdd, Int.reduceSub, Int.reduceMul, intOf_v, decide_true, decide_false]; rfl) ?_)
    | (refine ex_bool ?_)
    | (refine ⟨_, clone x cs hX hl, ?_⟩)
    | (exact fitC hX)
    | (exact plainC hX)
    | (refine And.intro ?_ ?_)
    | (intro hx; have hprop := (show ∀ (p : Prop), p → True from fun _ _ => True.intro) _ hx; clear hprop; first | (cases hx; done) | (exfalso; revert hx; simp (disch := omega) only [decide_eq_true_eq, decide_eq_false_iff_not, Bool.not_eq_true', Bool.not_eq_false', Bool.and_eq_true, Bool.and_eq_false_iff, Int.not_lt, Int.not_le, ne_eq, not_false_eq_true, not_true_eq_false, reduceCtorEq, Bool.true_eq_false, Bool.false_eq_true, beq_iff_eq, bne_iff_ne, beq_eq_false_iff_ne, false_or, or_false, true_and, and_true]; done) | (simp (disch := omega) only [decide_eq_true_eq, decide_eq_false_iff_not, Bool.not_eq_true', Bool.not_eq_false', Bool.and_eq_true, Bool.and_eq_false_iff, Int.not_lt, Int.not_le, ne_eq, not_false_eq_true, not_true_eq_false, reduceCtorEq, Bool.true_eq_false, Bool.false_eq_true, beq_iff_eq, bne_iff_ne, beq_eq_false_iff_ne, false_or, or_false, true_and, and_true] at hx; first | (exfalso; omega) | skip) | skip)
    | trivial
    | exact fit_ofL _ _
    | (simp (disch := omega) only [notAgg_v, notAgg_sl, plain_v, fits, fitsOne, fitsCells, xsOf, cell_zero, cell_succ, List.range, List.range.loop, List.map, cond_true, cond_false, D.v.injEq, exists_eq', exists_eq, and_self, and_true, true_and, D.agg.injEq, List.length, exists_eq_left', D.sl.injEq, reduceCtorEq, false_or, true_or, or_true, or_false, cell_zero, cell_succ, cell_v, cells_v, cells_agg, List.length_cons, List.length_nil]; done))
  all_goals first
    | (exfalso; omega)
    | exact fit_ofL _ _
    | exact fitC hX
    | exact plainC hX
    | exact ⟨_, rfl⟩
    | omega
    | rfl
    | (simp; done)
    | fail

theorem vc_new  : Cond Try.prog (fun _ => none) Try.f27 [] [.agg [.v nilS, .v (.int .i64 (-1)), .v (.int .i64 0)]] = (True ∧ (PlainD (D.v nilS) ∧ True ∧ True ∧ True) ∧ [D.agg [D.v nilS, D.v (Value.int IntKind.i64 (-1)), D.v (Value.int IntKind.i64 0)]] = [D.agg [D.v nilS, D.v (Value.int IntKind.i64 (-1)), D.v (Value.int IntKind.i64 0)]]) := by kernel_rfl
theorem new   : PureD Try.prog 27 [] [.agg [.v nilS, .v (.int .i64 (-1)), .v (.int .i64 0)]] := by
  refine pure_cond (Lp := (fun _ => none)) (by kernel_rfl) Try.func27 (by kernel_rfl) (by kernel_rfl) ?_
  rw [vc_new]
  repeat' (first
    | (refine ex_some (by simp (disch := omega) only [bin_shr, bin_shl, bin_and, bin_or, bin_xor, len_str, toStr_ofL, bin_add, bin_sub, bin_mul, bin_quo, bin_rem, bin_lss, bin_leq, bin_gtr, bin_geq, bin_eql, bin_neq, eqs_cn, eqs_ci, eqs_cb, eqs_cs, Option.map_some, lenT_ofL, lst_ofL, lstSz_ofL, chunk_one, lst_nil, lst_sl, lstSz_sl, lstSz_nil, Bool.and_true, Bool.true_and, Bool.and_false, Bool.false_and, beq_self_eq_true, beq_bb, bne_bb, un_not, un_neg, conv_int, min2_int, max2_int, w64, w32, wu8, wu16, wu32, wu64, tdiv_nn, tmod_nn, cell_zero, cell_succ, cell_v, cells_v, cells_agg, Bool.not_true, Bool.not_false, Int.reduceLT, Int.reduceLE, Int.reduceEq, Int.reduceNeg, Int.reduceAdd, Int.reduceSub, Int.reduceMul, intOf_v, decide_true, decide_false]; rfl) ?_)
    | (refine ex_bool ?_)
    | (refine And.intro ?_ ?_)
    | (intro hx; have hprop := (show ∀ (p : Prop), p → True from fun _ _ => True.intro) _ hx; clear hprop; first | (cases hx; done) | (exfalso; revert hx; simp (disch := omega) only [decide_eq_true_eq, decide_eq_false_iff_not, Bool.not_eq_true', Bool.not_eq_false', Bool.and_eq_true, Bool.and_eq_false_iff, Int.not_lt, Int.not_le, ne_eq, not_false_eq_true, not_true_eq_false, reduceCtorEq, Bool.true_eq_false, Bool.false_eq_true, beq_iff_eq, bne_iff_ne, beq_eq_false_iff_ne, false_or, or_false, true_and, and_true]; done) | (simp (disch := omega) only [decide_eq_true_eq, decide_eq_false_iff_not, Bool.not_eq_true', Bool.not_eq_false', Bool.and_eq_true, Bool.and_eq_false_iff, Int.not_lt, Int.not_le, ne_eq, not_false_eq_true, not_true_eq_false, reduceCtorEq, Bool.true_eq_false, Bool.false_eq_true, beq_iff_eq, bne_iff_ne, beq_eq_false_iff_ne, false_or, or_false, true_and, and_true] at hx; first | (exfalso; omega) | skip) | skip)
    | trivial
    | exact fit_ofL _ _
    | (simp (disch := omega) only [notAgg_v, notAgg_sl, plain_v, fits, fitsOne, fitsCells, xsOf, cell_zero, cell_succ, List.range, List.range.loop, List.map, cond_true, cond_false, D.v.injEq, exists_eq', exists_eq, and_self, and_true, true_and, D.agg.injEq, List.length, exists_eq_left', D.sl.injEq, reduceCtorEq, false_or, true_or, or_true, or_false, cell_zero, cell_succ, cell_v, cells_v, cells_agg, List.length_cons, List.length_nil]; done))
  all_goals first | rfl | exact plain_v _ | (simp; done) | fail

theorem vc_find (x : D) (cs : List Cl) (f u : Int) (z : Int) : Cond Try.prog (fun _ => none) Try.f31 [.agg [x, .v (.int .i64 f), .v (.int .i64 u)], .v (.int .i64 z)] [.v (.int .i64 (findF cs f u z))] = (((∃ (cs : List D), D.agg [x, D.v (Value.int IntKind.i64 f), D.v (Value.int IntKind.i64 u)] = D.agg cs ∧ cs.length = 3) ∧ NotAgg (D.v (Value.int IntKind.i64 z)) ∧ True) ∧ ∃ (r : D), PureD Try.prog 19 [D.agg [x, D.v (Value.int IntKind.i64 f), D.v (Value.int IntKind.i64 u)]] [r] ∧ fits [(false, [none])] [r] ∧ ∃ (r_1 : D), D.bin BinOp.neq r (D.v (Value.int IntKind.i64 0)) = some r_1 ∧ ∃ (b : Bool), r_1 = D.v (Value.bool b) ∧ (b = true → ((∃ (y : Value), r = D.v y) ∧ True) ∧ [r] = [D.v (Value.int IntKind.i64 (findF cs f u z))]) ∧ (b = false → ∃ (r : D), D.bin BinOp.lss (D.v (Value.int IntKind.i64 z)) (D.v (Value.int IntKind.i64 0)) = some r ∧ ∃ (b : Bool), r = D.v (Value.bool b) ∧ (b = false → ∃ (r : D), D.lenT (TypeDesc.slice 62) x = some r ∧ ∃ (r_2 : D), D.bin BinOp.geq (D.v (Value.int IntKind.i64 z)) r = some r_2 ∧ ∃ (b : Bool), r_2 = D.v (Value.bool b) ∧ (b = false → D.inb 3 x (D.v (Value.int IntKind.i64 z)) ∧ 0 + 1 ≤ (x.at_ (D.v (Value.int IntKind.i64 z))).cells.length ∧ ∃ (r : D), D.un UnOp.not ((x.at_ (D.v (Value.int IntKind.i64 z))).cell 0) = some r ∧ ∃ (b : Bool), r = D.v (Value.bool b) ∧ (b = true → (True ∧ True) ∧ [D.v (Value.int IntKind.i64 6)] = [D.v (Value.int IntKind.i64 (findF cs f u z))]) ∧ (b = false → (True ∧ True) ∧ [D.v (Value.int IntKind.i64 0)] = [D.v (Value.int IntKind.i64 (findF cs f u z))])) ∧ (b = true → (True ∧ True) ∧ [D.v (Value.int IntKind.i64 6)] = [D.v (Value.int IntKind.i64 (findF cs f u z))])) ∧ (b = true → (True ∧ True) ∧ [D.v (Value.int IntKind.i64 6)] = [D.v (Value.int IntKind.i64 (findF cs f u z))]))) := by kernel_rfl
theorem find (x : D) (cs : List Cl) (f u : Int) (z : Int) (hX : IsL 3 (cls cs) x) (hl : cs.length ≤ 100000) : PureD Try.prog 31 [.agg [x, .v (.int .i64 f), .v (.int .i64 u)], .v (.int .i64 z)] [.v (.int .i64 (findF cs f u z))] := by
  refine pure_cond (Lp := (fun _ => none)) (by kernel_rfl) Try.func31 (by kernel_rfl) (by kernel_rfl) ?_
  rw [vc_find x cs f u z]
  have C := check x cs f u hX hl
  have hk := chk_cases cs f u
  simp only [hX.lenT, cls_len, Option.some.injEq, exists_eq_left']
  by_cases h0 : chkF cs f u = 0
  · rw [h0] at C
    by_cases hz : 0 ≤ z ∧ z < (cs.length : Nat)
    · have h1 := cls_at hX hz.1 hz.2
      have i1 := cls_inb hX hz.1 hz.2
      have hF : findF cs f u z = if (cs.getD z.toNat c0).live = true then 0 else 6 := by unfold findF liveB; rw [if_neg (by omega), decide_eq_true hz]; simp
      rw [hF]
      generalize cs.getD z.toNat c0 = c at h1
      obtain ⟨lv, vl, lk⟩ := c
      simp only [clD] at h1
      simp only [h1, Nat.zero_add, cell_zero, cell_succ, cells_agg, List.length_cons, List.length_nil]
      repeat' (first
        | (refine ex_some (by simp (disch := omega) only [bin_shr, bin_shl, bin_and, bin_or, bin_xor, len_str, toStr_ofL, bin_add, bin_sub, bin_mul, bin_quo, bin_rem, bin_lss, bin_leq, bin_gtr, bin_geq, bin_eql, bin_neq, eqs_cn, eqs_ci, eqs_cb, eqs_cs, Option.map_some, lenT_ofL, lst_ofL, lstSz_ofL, chunk_one, lst_nil, lst_sl, lstSz_sl, lstSz_nil, Bool.and_true, Bool.true_and, Bool.and_false, Bool.false_and, beq_self_eq_true, beq_bb, bne_bb, un_not, un_neg, conv_int, min2_int, max2_int, w64, w32, wu8, wu16, wu32, wu64, tdiv_nn, tmod_nn, cell_zero, cell_succ, cell_v, cells_v, cells_agg, Bool.not_true, Bool.not_false, Int.reduceLT, Int.reduceLE, Int.reduceEq, Int.reduceNeg, Int.reduceAdd, Int.reduceSub, Int.reduceMul, intOf_v, decide_true, decide_false]; rfl) ?_)
        | (refine ex_bool ?_)
        | (refine ⟨_, C, ?_⟩)
        | (exact i1)
        | (refine And.intro ?_ ?_)
        | (intro hx; have hprop := (show ∀ (p : Prop), p → True from fun _ _ => True.intro) _ hx; clear hprop; first | (cases hx; done) | (exfalso; revert hx; simp (disch := omega) only [decide_eq_true_eq, decide_eq_false_iff_not, Bool.not_eq_true', Bool.not_eq_false', Bool.and_eq_true, Bool.and_eq_false_iff, Int.not_lt, Int.not_le, ne_eq, not_false_eq_true, not_true_eq_false, reduceCtorEq, Bool.true_eq_false, Bool.false_eq_true, beq_iff_eq, bne_iff_ne, beq_eq_false_iff_ne, false_or, or_false, true_and, and_true]; done) | (simp (disch := omega) only [decide_eq_true_eq, decide_eq_false_iff_not, Bool.not_eq_true', Bool.not_eq_false', Bool.and_eq_true, Bool.and_eq_false_iff, Int.not_lt, Int.not_le, ne_eq, not_false_eq_true, not_true_eq_false, reduceCtorEq, Bool.true_eq_false, Bool.false_eq_true, beq_iff_eq, bne_iff_ne, beq_eq_false_iff_ne, false_or, or_false, true_and, and_true] at hx; first | (exfalso; omega) | skip) | skip)
        | trivial
        | exact fit_ofL _ _
        | (simp (disch := omega) only [notAgg_v, notAgg_sl, plain_v, fits, fitsOne, fitsCells, xsOf, cell_zero, cell_succ, List.range, List.range.loop, List.map, cond_true, cond_false, D.v.injEq, exists_eq', exists_eq, and_self, and_true, true_and, D.agg.injEq, List.length, exists_eq_left', D.sl.injEq, reduceCtorEq, false_or, true_or, or_true, or_false, cell_zero, cell_succ, cell_v, cells_v, cells_agg, List.length_cons, List.length_nil]; done))
      all_goals first
        | (exfalso; omega)
        | exact fit_ofL _ _
        | exact fitC hX
        | exact plainC hX
        | exact ⟨_, rfl⟩
        | omega
        | rfl
        | (simp_all; done)
        | (simp; done)
        | fail
    · have hF : findF cs f u z = 6 := by unfold findF liveB; rw [if_neg (by omega), decide_eq_false hz]; simp
      rw [hF]
      repeat' (first
        | (refine ex_some (by simp (disch := omega) only [bin_shr, bin_shl, bin_and, bin_or, bin_xor, len_str, toStr_ofL, bin_add, bin_sub, bin_mul, bin_quo, bin_rem, bin_lss, bin_leq, bin_gtr, bin_geq, bin_eql, bin_neq, eqs_cn, eqs_ci, eqs_cb, eqs_cs, Option.map_some, lenT_ofL, lst_ofL, lstSz_ofL, chunk_one, lst_nil, lst_sl, lstSz_sl, lstSz_nil, Bool.and_true, Bool.true_and, Bool.and_false, Bool.false_and, beq_self_eq_true, beq_bb, bne_bb, un_not, un_neg, conv_int, min2_int, max2_int, w64, w32, wu8, wu16, wu32, wu64, tdiv_nn, tmod_nn, cell_zero, cell_succ, cell_v, cells_v, cells_agg, Bool.not_true, Bool.not_false, Int.reduceLT, Int.reduceLE, Int.reduceEq, Int.reduceNeg, Int.reduceAdd, Int.reduceSub, Int.reduceMul, intOf_v, decide_true, decide_false]; rfl) ?_)
        | (refine ex_bool ?_)
        | (refine ⟨_, C, ?_⟩)
        | (exact i1)
        | (refine And.intro ?_ ?_)
        | (intro hx; have hprop := (show ∀ (p : Prop), p → True from fun _ _ => True.intro) _ hx; clear hprop; first | (cases hx; done) | (exfalso; revert hx; simp (disch := omega) only [decide_eq_true_eq, decide_eq_false_iff_not, Bool.not_eq_true', Bool.not_eq_false', Bool.and_eq_true, Bool.and_eq_false_iff, Int.not_lt, Int.not_le, ne_eq, not_false_eq_true, not_true_eq_false, reduceCtorEq, Bool.true_eq_false, Bool.false_eq_true, beq_iff_eq, bne_iff_ne, beq_eq_false_iff_ne, false_or, or_false, true_and, and_true]; done) | (simp (disch := omega) only [decide_eq_true_eq, decide_eq_false_iff_not, Bool.not_eq_true', Bool.not_eq_false', Bool.and_eq_true, Bool.and_eq_false_iff, Int.not_lt, Int.not_le, ne_eq, not_false_eq_true, not_true_eq_false, reduceCtorEq, Bool.true_eq_false, Bool.false_eq_true, beq_iff_eq, bne_iff_ne, beq_eq_false_iff_ne, false_or, or_false, true_and, and_true] at hx; first | (exfalso; omega) | skip) | skip)
        | trivial
        | exact fit_ofL _ _
        | (simp (disch := omega) only [notAgg_v, notAgg_sl, plain_v, fits, fitsOne, fitsCells, xsOf, cell_zero, cell_succ, List.range, List.range.loop, List.map, cond_true, cond_false, D.v.injEq, exists_eq', exists_eq, and_self, and_true, true_and, D.agg.injEq, List.length, exists_eq_left', D.sl.injEq, reduceCtorEq, false_or, true_or, or_true, or_false, cell_zero, cell_succ, cell_v, cells_v, cells_agg, List.length_cons, List.length_nil]; done))
      all_goals first
        | (exfalso; omega)
        | exact fit_ofL _ _
        | exact fitC hX
        | exact plainC hX
        | exact ⟨_, rfl⟩
        | omega
        | rfl
        | (simp_all; done)
        | (simp; done)
        | fail
  · have hF : findF cs f u z = chkF cs f u := by unfold findF; rw [if_pos h0]
    rw [hF]
    repeat' (first
      | (refine ex_some (by simp (disch := omega) only [bin_shr, bin_shl, bin_and, bin_or, bin_xor, len_str, toStr_ofL, bin_add, bin_sub, bin_mul, bin_quo, bin_rem, bin_lss, bin_leq, bin_gtr, bin_geq, bin_eql, bin_neq, eqs_cn, eqs_ci, eqs_cb, eqs_cs, Option.map_some, lenT_ofL, lst_ofL, lstSz_ofL, chunk_one, lst_nil, lst_sl, lstSz_sl, lstSz_nil, Bool.and_true, Bool.true_and, Bool.and_false, Bool.false_and, beq_self_eq_true, beq_bb, bne_bb, un_not, un_neg, conv_int, min2_int, max2_int, w64, w32, wu8, wu16, wu32, wu64, tdiv_nn, tmod_nn, cell_zero, cell_succ, cell_v, cells_v, cells_agg, Bool.not_true, Bool.not_false, Int.reduceLT, Int.reduceLE, Int.reduceEq, Int.reduceNeg, Int.reduceAdd, Int.reduceSub, Int.reduceMul, intOf_v, decide_true, decide_false]; rfl) ?_)
      | (refine ex_bool ?_)
      | (refine ⟨_, C, ?_⟩)
      | (exact i1)
      | (refine And.intro ?_ ?_)
      | (intro hx; have hprop := (show ∀ (p : Prop), p → True from fun _ _ => True.intro) _ hx; clear hprop; first | (cases hx; done) | (exfalso; revert hx; simp (disch := omega) only [decide_eq_true_eq, decide_eq_false_iff_not, Bool.not_eq_true', Bool.not_eq_false', Bool.and_eq_true, Bool.and_eq_false_iff, Int.not_lt, Int.not_le, ne_eq, not_false_eq_true, not_true_eq_false, reduceCtorEq, Bool.true_eq_false, Bool.false_eq_true, beq_iff_eq, bne_iff_ne, beq_eq_false_iff_ne, false_or, or_false, true_and, and_true]; done) | (simp (disch := omega) only [decide_eq_true_eq, decide_eq_false_iff_not, Bool.not_eq_true', Bool.not_eq_false', Bool.and_eq_true, Bool.and_eq_false_iff, Int.not_lt, Int.not_le, ne_eq, not_false_eq_true, not_true_eq_false, reduceCtorEq, Bool.true_eq_false, Bool.false_eq_true, beq_iff_eq, bne_iff_ne, beq_eq_false_iff_ne, false_or, or_false, true_and, and_true] at hx; first | (exfalso; omega) | skip) | skip)
      | trivial
      | exact fit_ofL _ _
      | (simp (disch := omega) only [notAgg_v, notAgg_sl, plain_v, fits, fitsOne, fitsCells, xsOf, cell_zero, cell_succ, List.range, List.range.loop, List.map, cond_true, cond_false, D.v.injEq, exists_eq', exists_eq, and_self, and_true, true_and, D.agg.injEq, List.length, exists_eq_left', D.sl.injEq, reduceCtorEq, false_or, true_or, or_true, or_false, cell_zero, cell_succ, cell_v, cells_v, cells_agg, List.length_cons, List.length_nil]; done))
    all_goals first
      | (exfalso; omega)
      | exact fit_ofL _ _
      | exact fitC hX
      | exact plainC hX
      | exact ⟨_, rfl⟩
      | omega
      | rfl
      | (simp_all; done)
      | (simp; done)
      | fail

theorem vc_equal (x y : D) (a b : List Cl) : Cond Try.prog (fun k => if k = 4 then some ⟨[13], [], [0, 1, 12], []⟩ else none) Try.f38 [x, y] [.v (.bool (sameC a b))] = ((NotAgg x ∧ NotAgg y ∧ True) ∧ ∃ (r : D), D.lenT (TypeDesc.slice 62) x = some r ∧ ∃ (r_1 : D), D.lenT (TypeDesc.slice 62) y = some r_1 ∧ ∃ (r_2 : D), D.bin BinOp.neq r r_1 = some r_2 ∧ ∃ (b_1 : Bool), r_2 = D.v (Value.bool b_1) ∧ (b_1 = true → (True ∧ True) ∧ [D.v (Value.bool false)] = [D.v (Value.bool (sameC a b))]) ∧ (b_1 = false → ∃ (r : D), D.lenT (TypeDesc.slice 62) x = some r ∧ ∃ (I : List D → Prop), ∃ (μ : List D → Nat), ((D.v (Value.int IntKind.i64 0) = D.v (Value.int IntKind.i64 0) ∧ x = x ∧ y = y ∧ r = r ∧ True) ∧ True ∧ I [D.v (Value.int IntKind.i64 0)]) ∧ ∀ (r_3 : D), I [r_3] → ∃ (r_4 : D), D.bin BinOp.lss r_3 r = some r_4 ∧ ∃ (b_2 : Bool), r_4 = D.v (Value.bool b_2) ∧ (b_2 = true → D.inb 3 x r_3 ∧ 0 + 3 ≤ (x.at_ r_3).cells.length ∧ D.inb 3 y r_3 ∧ 0 + 3 ≤ (y.at_ r_3).cells.length ∧ ∃ (r_5 : Bool), eqs [EqK.b, EqK.i, EqK.i] [(x.at_ r_3).cell (0 + 0), (x.at_ r_3).cell (0 + 1), (x.at_ r_3).cell (0 + 2)] [(y.at_ r_3).cell (0 + 0), (y.at_ r_3).cell (0 + 1), (y.at_ r_3).cell (0 + 2)] = some r_5 ∧ ∃ (b_3 : Bool), D.v (Value.bool (match r_5 with | true => false | false => true)) = D.v (Value.bool b_3) ∧ (b_3 = true → (True ∧ True) ∧ [D.v (Value.bool false)] = [D.v (Value.bool (sameC a b))]) ∧ (b_3 = false → ∃ (r_6 : D), D.bin BinOp.add r_3 (D.v (Value.int IntKind.i64 1)) = some r_6 ∧ (r_6 = r_6 ∧ x = x ∧ y = y ∧ r = r ∧ True) ∧ True ∧ I [r_6] ∧ μ [r_6] < μ [r_3])) ∧ (b_2 = false → (True ∧ True) ∧ [D.v (Value.bool true)] = [D.v (Value.bool (sameC a b))]))) := by kernel_rfl
set_option maxHeartbeats 4000000 in
theorem equal (x y : D) (a b : List Cl) (hX : IsL 3 (cls a) x) (hY : IsL 3 (cls b) y) (ha : a.length ≤ 100000) (hb : b.length ≤ 100000) : PureD Try.prog 38 [x, y] [.v (.bool (sameC a b))] := by
  refine pure_cond (Lp := (fun k => if k = 4 then some ⟨[13], [], [0, 1, 12], []⟩ else none)) (by kernel_rfl) Try.func38 (by kernel_rfl) (by kernel_rfl) ?_
  rw [vc_equal x y a b]
  simp only [hX.notAgg, hY.notAgg, hX.lenT, hY.lenT, cls_len, Option.some.injEq, exists_eq_left']
  by_cases hab : a.length = b.length
  · have hab2 : True := trivial
    repeat' (first
      | (refine ex_some (by simp (disch := omega) only [bin_shr, bin_shl, bin_and, bin_or, bin_xor, len_str, toStr_ofL, bin_add, bin_sub, bin_mul, bin_quo, bin_rem, bin_lss, bin_leq, bin_gtr, bin_geq, bin_eql, bin_neq, eqs_cn, eqs_ci, eqs_cb, eqs_cs, Option.map_some, lenT_ofL, lst_ofL, lstSz_ofL, chunk_one, lst_nil, lst_sl, lstSz_sl, lstSz_nil, Bool.and_true, Bool.true_and, Bool.and_false, Bool.false_and, beq_self_eq_true, beq_bb, bne_bb, un_not, un_neg, conv_int, min2_int, max2_int, w64, w32, wu8, wu16, wu32, wu64, tdiv_nn, tmod_nn, cell_zero, cell_succ, cell_v, cells_v, cells_agg, Bool.not_true, Bool.not_false, Int.reduceLT, Int.reduceLE, Int.reduceEq, Int.reduceNeg, Int.reduceAdd, Int.reduceSub, Int.reduceMul, intOf_v, decide_true, decide_false]; rfl) ?_)
      | (refine ex_bool ?_)
      | (refine ⟨(fun r => ∃ k : Nat, k ≤ a.length ∧ a.take k = b.take k ∧ r = [.v (.int .i64 (k : Nat))]), leftG a.length, ?_⟩)
      | (refine fun (r2 : D) (hI : (fun r => ∃ k : Nat, k ≤ a.length ∧ a.take k = b.take k ∧ r = [.v (.int .i64 (k : Nat))]) [r2]) => ?_; obtain ⟨k, hk, hek, hl0⟩ := hI; simp only [List.cons.injEq, and_true] at hl0; subst hl0; by_cases hlt : k < a.length <;> first | (have hk1 : k < a.length := (by omega); have h1 := cls_at hX (z := (k : Nat)) (by omega) (by omega); have h2 := cls_at hY (z := (k : Nat)) (by omega) (by omega); rw [Int.toNat_natCast] at h1 h2; have i1 := cls_inb hX (z := (k : Nat)) (by omega) (by omega); have i2 := cls_inb hY (z := (k : Nat)) (by omega) (by omega); have hst := take_eqC hk1 hab hek; generalize a.getD k c0 = p at h1 hst; generalize b.getD k c0 = q at h2 hst; obtain ⟨p1, p2, p3⟩ := p; obtain ⟨q1, q2, q3⟩ := q; simp only [clD] at h1 h2; simp only [Cl.mk.injEq] at hst; simp only [h1, h2, Nat.zero_add, cell_zero, cell_succ, cells_agg, List.length_cons, List.length_nil]; have inl : True := trivial) | (have hkk : k = a.length := (by omega); subst hkk; rw [List.take_length, hab, List.take_length] at hek; have hsm : sameC a b = true := (by simp [sameC, hek]); have inl2 : True := trivial))
      | (exact i1)
      | (exact i2)
      | (refine ⟨(0 : Nat), Nat.zero_le _, rfl, rfl⟩)
      | (have := inl; refine ⟨(k + 1 : Nat), by omega, ?_, rfl⟩)
      | (refine And.intro ?_ ?_)
      | (intro hx; have hprop := (show ∀ (p : Prop), p → True from fun _ _ => True.intro) _ hx; clear hprop; first | (cases hx; done) | (exfalso; revert hx; simp (disch := omega) only [decide_eq_true_eq, decide_eq_false_iff_not, Bool.not_eq_true', Bool.not_eq_false', Bool.and_eq_true, Bool.and_eq_false_iff, Int.not_lt, Int.not_le, ne_eq, not_false_eq_true, not_true_eq_false, reduceCtorEq, Bool.true_eq_false, Bool.false_eq_true, beq_iff_eq, bne_iff_ne, beq_eq_false_iff_ne, false_or, or_false, true_and, and_true]; done) | (simp (disch := omega) only [decide_eq_true_eq, decide_eq_false_iff_not, Bool.not_eq_true', Bool.not_eq_false', Bool.and_eq_true, Bool.and_eq_false_iff, Int.not_lt, Int.not_le, ne_eq, not_false_eq_true, not_true_eq_false, reduceCtorEq, Bool.true_eq_false, Bool.false_eq_true, beq_iff_eq, bne_iff_ne, beq_eq_false_iff_ne, false_or, or_false, true_and, and_true] at hx; first | (exfalso; omega) | skip) | skip)
      | trivial
      | exact fit_ofL _ _
      | (simp (disch := omega) only [notAgg_v, notAgg_sl, plain_v, fits, fitsOne, fitsCells, xsOf, cell_zero, cell_succ, List.range, List.range.loop, List.map, cond_true, cond_false, D.v.injEq, exists_eq', exists_eq, and_self, and_true, true_and, D.agg.injEq, List.length, exists_eq_left', D.sl.injEq, reduceCtorEq, false_or, true_or, or_true, or_false, cell_zero, cell_succ, cell_v, cells_v, cells_agg, List.length_cons, List.length_nil]; done))
    all_goals first
      | (exfalso; omega)
      | omega
      | (simp only [leftG]; omega)
      | (rw [hsm]; done)
      | (refine hst.2 ?_; revert hx; cases e1 : p1 == q1 <;> cases e2 : p2 == q2 <;> cases e3 : p3 == q3 <;> simp_all; done)
      | (have hne : a ≠ b := fun h => by subst h; have := hst.1 rfl; simp_all
         simp [sameC, hne]; done)
      | (simp; done)
      | fail
  · have hsm : sameC a b = false := by unfold sameC; rw [decide_eq_false_iff_not]; intro h; exact hab (by rw [h])
    repeat' (first
      | (refine ex_some (by simp (disch := omega) only [bin_shr, bin_shl, bin_and, bin_or, bin_xor, len_str, toStr_ofL, bin_add, bin_sub, bin_mul, bin_quo, bin_rem, bin_lss, bin_leq, bin_gtr, bin_geq, bin_eql, bin_neq, eqs_cn, eqs_ci, eqs_cb, eqs_cs, Option.map_some, lenT_ofL, lst_ofL, lstSz_ofL, chunk_one, lst_nil, lst_sl, lstSz_sl, lstSz_nil, Bool.and_true, Bool.true_and, Bool.and_false, Bool.false_and, beq_self_eq_true, beq_bb, bne_bb, un_not, un_neg, conv_int, min2_int, max2_int, w64, w32, wu8, wu16, wu32, wu64, tdiv_nn, tmod_nn, cell_zero, cell_succ, cell_v, cells_v, cells_agg, Bool.not_true, Bool.not_false, Int.reduceLT, Int.reduceLE, Int.reduceEq, Int.reduceNeg, Int.reduceAdd, Int.reduceSub, Int.reduceMul, intOf_v, decide_true, decide_false]; rfl) ?_)
      | (refine ex_bool ?_)
      | (refine And.intro ?_ ?_)
      | (intro hx; have hprop := (show ∀ (p : Prop), p → True from fun _ _ => True.intro) _ hx; clear hprop; first | (cases hx; done) | (exfalso; revert hx; simp (disch := omega) only [decide_eq_true_eq, decide_eq_false_iff_not, Bool.not_eq_true', Bool.not_eq_false', Bool.and_eq_true, Bool.and_eq_false_iff, Int.not_lt, Int.not_le, ne_eq, not_false_eq_true, not_true_eq_false, reduceCtorEq, Bool.true_eq_false, Bool.false_eq_true, beq_iff_eq, bne_iff_ne, beq_eq_false_iff_ne, false_or, or_false, true_and, and_true]; done) | (simp (disch := omega) only [decide_eq_true_eq, decide_eq_false_iff_not, Bool.not_eq_true', Bool.not_eq_false', Bool.and_eq_true, Bool.and_eq_false_iff, Int.not_lt, Int.not_le, ne_eq, not_false_eq_true, not_true_eq_false, reduceCtorEq, Bool.true_eq_false, Bool.false_eq_true, beq_iff_eq, bne_iff_ne, beq_eq_false_iff_ne, false_or, or_false, true_and, and_true] at hx; first | (exfalso; omega) | skip) | skip)
      | trivial
      | exact fit_ofL _ _
      | (simp (disch := omega) only [notAgg_v, notAgg_sl, plain_v, fits, fitsOne, fitsCells, xsOf, cell_zero, cell_succ, List.range, List.range.loop, List.map, cond_true, cond_false, D.v.injEq, exists_eq', exists_eq, and_self, and_true, true_and, D.agg.injEq, List.length, exists_eq_left', D.sl.injEq, reduceCtorEq, false_or, true_or, or_true, or_false, cell_zero, cell_succ, cell_v, cells_v, cells_agg, List.length_cons, List.length_nil]; done))
    all_goals first | (exfalso; omega) | (rw [hsm]; done) | fail

end Go.Proofs.Ytlamjfdghhbkpaa