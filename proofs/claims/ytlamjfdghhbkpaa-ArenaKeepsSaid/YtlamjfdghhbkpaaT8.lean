/-
  Layer 18: the document answers.
-/
import Derived.Test.YtlamjfdghhbkpaaT1
import Derived.Test.YtlamjfdghhbkpaaT2
import Derived.Test.YtlamjfdghhbkpaaT3
import Derived.Test.YtlamjfdghhbkpaaT4
import Derived.Test.YtlamjfdghhbkpaaT5
import Derived.Test.YtlamjfdghhbkpaaT6
import Derived.Test.YtlamjfdghhbkpaaT7
namespace Go.Proofs.Ytlamjfdghhbkpaa
open Go.RowKit
set_option linter.unusedSimpArgs false
set_option linter.unusedVariables false


theorem plainO {cs : List Cl} : PlainD (ofL 3 (cls cs)) := by cases cs; exact plain_v _; exact plain_sl (cls_plain _)
theorem fitRe {x : D} {cs l : List Cl} (h : IsL 3 (cls cs) x) : reD x l = .v nilS ∨ ∃ es, reD x l = .sl 3 es := by
  cases l with
  | nil => exact fitC h
  | cons c l => exact .inr ⟨_, rfl⟩
theorem isO (cs : List Cl) : IsL 3 (cls cs) (ofL 3 (cls cs)) := isL_ofL _ _
theorem reO {x : D} {cs l : List Cl} (h : l ≠ []) : reD (ofL 3 (cls cs)) l = reD x l := by rw [reD_ne h, reD_ne h]
theorem take_eqC2 {a b : List Cl} (h : a.length = b.length) : (a.take a.length = b.take a.length) ↔ a = b := by rw [List.take_length, h, List.take_length]
theorem app_O {x : D} {cs : List Cl} (c : Cl) : (ofL 3 (cls cs)).app 3 [.agg [.v (.bool c.live), .v (.int .i64 c.val), .v (.int .i64 c.link)]] = reD x (cs ++ [c]) := by rw [app_cl (isO cs), reD_ne (by simp)]

theorem vc_rnew  : Cond Try.prog (fun _ => none) Try.f28 [] [.agg [.v nilS, .v (.int .i64 (-1)), .v (.int .i64 0)]] = (True ∧ (PlainD (D.v nilS) ∧ True ∧ True ∧ True) ∧ [D.agg [D.v nilS, D.v (Value.int IntKind.i64 (-1)), D.v (Value.int IntKind.i64 0)]] = [D.agg [D.v nilS, D.v (Value.int IntKind.i64 (-1)), D.v (Value.int IntKind.i64 0)]]) := by kernel_rfl
theorem rnew   : PureD Try.prog 28 [] [.agg [.v nilS, .v (.int .i64 (-1)), .v (.int .i64 0)]] := by
  refine pure_cond (Lp := (fun _ => none)) (by kernel_rfl) Try.func28 (by kernel_rfl) (by kernel_rfl) ?_
  rw [vc_rnew]
  repeat' (first
    | (refine ex_some (by simp (disch := omega) only [bin_shr, bin_shl, bin_and, bin_or, bin_xor, len_str, toStr_ofL, bin_add, bin_sub, bin_mul, bin_quo, bin_rem, bin_lss, bin_leq, bin_gtr, bin_geq, bin_eql, bin_neq, eqs_cn, eqs_ci, eqs_cb, eqs_cs, Option.map_some, lenT_ofL, lst_ofL, lstSz_ofL, chunk_one, lst_nil, lst_sl, lstSz_sl, lstSz_nil, Bool.and_true, Bool.true_and, Bool.and_false, Bool.false_and, beq_self_eq_true, beq_bb, bne_bb, un_not, un_neg, conv_int, min2_int, max2_int, w64, w32, wu8, wu16, wu32, wu64, tdiv_nn, tmod_nn, cell_zero, cell_succ, cell_v, cells_v, cells_agg, Bool.not_true, Bool.not_false, Int.reduceLT, Int.reduceLE, Int.reduceEq, Int.reduceNeg, Int.reduceAdd, Int.reduceSub, Int.reduceMul, intOf_v, decide_true, decide_false]; rfl) ?_)
    | (refine ex_bool ?_)
    | (refine And.intro ?_ ?_)
    | (intro hx; have hprop := (show ∀ (p : Prop), p → True from fun _ _ => True.intro) _ hx; clear hprop; first | (cases hx; done) | (exfalso; revert hx; simp (disch := omega) only [decide_eq_true_eq, decide_eq_false_iff_not, Bool.not_eq_true', Bool.not_eq_false', Bool.and_eq_true, Bool.and_eq_false_iff, Int.not_lt, Int.not_le, ne_eq, not_false_eq_true, not_true_eq_false, reduceCtorEq, Bool.true_eq_false, Bool.false_eq_true, beq_iff_eq, bne_iff_ne, beq_eq_false_iff_ne, false_or, or_false, true_and, and_true]; done) | (simp (disch := omega) only [decide_eq_true_eq, decide_eq_false_iff_not, Bool.not_eq_true', Bool.not_eq_false', Bool.and_eq_true, Bool.and_eq_false_iff, Int.not_lt, Int.not_le, ne_eq, not_false_eq_true, not_true_eq_false, reduceCtorEq, Bool.true_eq_false, Bool.false_eq_true, beq_iff_eq, bne_iff_ne, beq_eq_false_iff_ne, false_or, or_false, true_and, and_true] at hx; first | (exfalso; omega) | skip) | skip)
    | trivial
    | exact fit_ofL _ _
    | (simp (disch := omega) only [notAgg_v, notAgg_sl, plain_v, fits, fitsOne, fitsCells, xsOf, cell_zero, cell_succ, List.range, List.range.loop, List.map, cond_true, cond_false, D.v.injEq, exists_eq', exists_eq, and_self, and_true, true_and, D.agg.injEq, List.length, exists_eq_left', D.sl.injEq, reduceCtorEq, false_or, true_or, or_true, or_false, cell_zero, cell_succ, cell_v, cells_v, cells_agg, List.length_cons, List.length_nil]; done))
  all_goals first | rfl | exact plain_v _ | (simp; done) | fail

theorem vc_withC (x : D) (cs : List Cl) (f u : Int) (z : Int) (b : Bool) (v k : Int) : Cond Try.prog (fun _ => none) Try.f30 [.agg [x, .v (.int .i64 f), .v (.int .i64 u)], .v (.int .i64 z), .agg [.v (.bool b), .v (.int .i64 v), .v (.int .i64 k)]] [.agg [reD x (cs.set z.toNat ⟨b, v, k⟩), .v (.int .i64 f), .v (.int .i64 u)]] = (((∃ (cs : List D), D.agg [x, D.v (Value.int IntKind.i64 f), D.v (Value.int IntKind.i64 u)] = D.agg cs ∧ cs.length = 3) ∧ NotAgg (D.v (Value.int IntKind.i64 z)) ∧ (∃ (cs : List D), D.agg [D.v (Value.bool b), D.v (Value.int IntKind.i64 v), D.v (Value.int IntKind.i64 k)] = D.agg cs ∧ cs.length = 3) ∧ True) ∧ ∃ (ls : List D), (D.v nilS).lst = some ls ∧ ∃ (lx : List D), D.lstSz 3 x = some lx ∧ (ls.length + lx.length) * 24 ≤ 1099511627776 ∧ D.inb 3 (D.app 3 (D.v nilS) lx) (D.v (Value.int IntKind.i64 z)) ∧ 0 + [D.v (Value.bool b), D.v (Value.int IntKind.i64 v), D.v (Value.int IntKind.i64 k)].length ≤ ((D.app 3 (D.v nilS) lx).at_ (D.v (Value.int IntKind.i64 z))).cells.length ∧ (((D.app 3 (D.v nilS) lx).at_ (D.v (Value.int IntKind.i64 z))).isAgg' = true ∨ [D.v (Value.bool b), D.v (Value.int IntKind.i64 v), D.v (Value.int IntKind.i64 k)].length = 1) ∧ (PlainD ((D.app 3 (D.v nilS) lx).setAt (D.v (Value.int IntKind.i64 z)) 0 [D.v (Value.bool b), D.v (Value.int IntKind.i64 v), D.v (Value.int IntKind.i64 k)]) ∧ (∃ (y : Value), D.v (Value.int IntKind.i64 f) = D.v y) ∧ (∃ (y : Value), D.v (Value.int IntKind.i64 u) = D.v y) ∧ True) ∧ [D.agg [(D.app 3 (D.v nilS) lx).setAt (D.v (Value.int IntKind.i64 z)) 0 [D.v (Value.bool b), D.v (Value.int IntKind.i64 v), D.v (Value.int IntKind.i64 k)], D.v (Value.int IntKind.i64 f), D.v (Value.int IntKind.i64 u)]] = [D.agg [reD x (cs.set z.toNat { live := b, val := v, link := k }), D.v (Value.int IntKind.i64 f), D.v (Value.int IntKind.i64 u)]]) := by kernel_rfl
set_option maxHeartbeats 4000000 in
theorem withC (x : D) (cs : List Cl) (f u : Int) (z : Int) (b : Bool) (v k : Int) (hX : IsL 3 (cls cs) x) (hl : cs.length ≤ 100000) (hz : 0 ≤ z ∧ z < (cs.length : Nat)) : PureD Try.prog 30 [.agg [x, .v (.int .i64 f), .v (.int .i64 u)], .v (.int .i64 z), .agg [.v (.bool b), .v (.int .i64 v), .v (.int .i64 k)]] [.agg [reD x (cs.set z.toNat ⟨b, v, k⟩), .v (.int .i64 f), .v (.int .i64 u)]] := by
  refine pure_cond (Lp := (fun _ => none)) (by kernel_rfl) Try.func30 (by kernel_rfl) (by kernel_rfl) ?_
  rw [vc_withC x cs f u z b v k]
  have h1 := cls_at (isO cs) hz.1 hz.2
  generalize cs.getD z.toNat c0 = c at h1
  obtain ⟨lv, vl, lk⟩ := c
  simp only [clD] at h1
  have i1 := cls_inb (isO cs) hz.1 hz.2
  have s1 := cls_set (isO cs) hz.1 hz.2 ⟨b, v, k⟩
  rw [reO (x := x) (set_ne (by omega))] at s1
  simp only at s1
  repeat' (first
    | (refine ex_some (by simp (disch := omega) only [bin_shr, bin_shl, bin_and, bin_or, bin_xor, len_str, toStr_ofL, bin_add, bin_sub, bin_mul, bin_quo, bin_rem, bin_lss, bin_leq, bin_gtr, bin_geq, bin_eql, bin_neq, eqs_cn, eqs_ci, eqs_cb, eqs_cs, Option.map_some, lenT_ofL, lst_ofL, lstSz_ofL, chunk_one, lst_nil, lst_sl, lstSz_sl, lstSz_nil, Bool.and_true, Bool.true_and, Bool.and_false, Bool.false_and, beq_self_eq_true, beq_bb, bne_bb, un_not, un_neg, conv_int, min2_int, max2_int, w64, w32, wu8, wu16, wu32, wu64, tdiv_nn, tmod_nn, cell_zero, cell_succ, cell_v, cells_v, cells_agg, Bool.not_true, Bool.not_false, Int.reduceLT, Int.reduceLE, Int.reduceEq, Int.reduceNeg, Int.reduceAdd, Int.reduceSub, Int.reduceMul, intOf_v, decide_true, decide_false, h1, hX.lst, hX.lstSz, app_nil]; rfl) ?_)
    | (refine ex_bool ?_)
    | (exact i1)
    | (refine And.intro ?_ ?_)
    | (intro hx; have hprop := (show ∀ (p : Prop), p → True from fun _ _ => True.intro) _ hx; clear hprop; first | (cases hx; done) | (exfalso; revert hx; simp (disch := omega) only [decide_eq_true_eq, decide_eq_false_iff_not, Bool.not_eq_true', Bool.not_eq_false', Bool.and_eq_true, Bool.and_eq_false_iff, Int.not_lt, Int.not_le, ne_eq, not_false_eq_true, not_true_eq_false, reduceCtorEq, Bool.true_eq_false, Bool.false_eq_true, beq_iff_eq, bne_iff_ne, beq_eq_false_iff_ne, false_or, or_false, true_and, and_true, h1, hX.lst, hX.lstSz, app_nil]; done) | (simp (disch := omega) only [decide_eq_true_eq, decide_eq_false_iff_not, Bool.not_eq_true', Bool.not_eq_false', Bool.and_eq_true, Bool.and_eq_false_iff, Int.not_lt, Int.not_le, ne_eq, not_false_eq_true, not_true_eq_false, reduceCtorEq, Bool.true_eq_false, Bool.false_eq_true, beq_iff_eq, bne_iff_ne, beq_eq_false_iff_ne, false_or, or_false, true_and, and_true, h1, hX.lst, hX.lstSz, app_nil] at hx; first | (exfalso; omega) | skip) | skip)
    | trivial
    | exact fit_ofL _ _
    | (simp (disch := omega) only [notAgg_v, notAgg_sl, plain_v, fits, fitsOne, fitsCells, xsOf, cell_zero, cell_succ, List.range, List.range.loop, List.map, cond_true, cond_false, D.v.injEq, exists_eq', exists_eq, and_self, and_true, true_and, D.agg.injEq, List.length, exists_eq_left', D.sl.injEq, reduceCtorEq, false_or, true_or, or_true, or_false, cell_zero, cell_succ, cell_v, cells_v, cells_agg, List.length_cons, List.length_nil, h1, hX.lst, hX.lstSz, app_nil]; done))
  all_goals first
    | (exfalso; omega)
    | exact fit_ofL _ _
    | exact fitC hX
    | exact plainC hX
    | exact plainS hX
    | exact ⟨_, rfl⟩
    | omega
    | rfl
    | (simp only [app_nil, app_ofL, List.nil_append, s1]; first | done | exact plainS hX)
    | (simp only [leftG]; omega)
    | (simp only [ints_length, cls_len, List.length_cons, List.length_nil, List.length_append]; omega)
    | exact plain_ofL (ints_plain _ _)
    | exact plainO
    | (simp only [ch3, cls_len, List.length_cons, List.length_nil]; omega)
    | (simp only [cell_zero, cell_succ, Nat.zero_add, h1]; first | done | exact ⟨_, rfl⟩)
    | (simp only [cell_zero, cell_succ, h1]; simp [D.cells, D.isAgg']; done)
    | (simp only [app_nil, h1]; simp [D.cells, D.isAgg']; done)
    | (simp; done)
    | fail

theorem vc_rget (x : D) (cs : List Cl) (f u : Int) (z : Int) : Cond Try.prog (fun _ => none) Try.f18 [.agg [x, .v (.int .i64 f), .v (.int .i64 u)], .v (.int .i64 z)] [.v (.int .i64 (getV cs f u z)), .v (.bool (findB cs f u z))] = (((∃ (cs : List D), D.agg [x, D.v (Value.int IntKind.i64 f), D.v (Value.int IntKind.i64 u)] = D.agg cs ∧ cs.length = 3) ∧ NotAgg (D.v (Value.int IntKind.i64 z)) ∧ True) ∧ ∃ (r : D), PureD Try.prog 20 [D.agg [x, D.v (Value.int IntKind.i64 f), D.v (Value.int IntKind.i64 u)]] [r] ∧ fits [(false, [none])] [r] ∧ ∃ (r_1 : D), D.bin BinOp.neq r (D.v (Value.int IntKind.i64 0)) = some r_1 ∧ ∃ (b : Bool), r_1 = D.v (Value.bool b) ∧ (b = false → ∃ (r : D), PureD Try.prog 32 [D.agg [x, D.v (Value.int IntKind.i64 f), D.v (Value.int IntKind.i64 u)], D.v (Value.int IntKind.i64 z)] [r] ∧ fits [(false, [none])] [r] ∧ ∃ (r_2 : D), D.un UnOp.not r = some r_2 ∧ ∃ (b : Bool), r_2 = D.v (Value.bool b) ∧ (b = true → (True ∧ True ∧ True) ∧ [D.v (Value.int IntKind.i64 0), D.v (Value.bool false)] = [D.v (Value.int IntKind.i64 (getV cs f u z)), D.v (Value.bool (findB cs f u z))]) ∧ (b = false → D.inb 3 x (D.v (Value.int IntKind.i64 z)) ∧ 0 + 1 + 1 ≤ (x.at_ (D.v (Value.int IntKind.i64 z))).cells.length ∧ ((∃ (y : Value), (x.at_ (D.v (Value.int IntKind.i64 z))).cell (0 + 1) = D.v y) ∧ True ∧ True) ∧ [(x.at_ (D.v (Value.int IntKind.i64 z))).cell (0 + 1), D.v (Value.bool true)] = [D.v (Value.int IntKind.i64 (getV cs f u z)), D.v (Value.bool (findB cs f u z))])) ∧ (b = true → (True ∧ True ∧ True) ∧ [D.v (Value.int IntKind.i64 0), D.v (Value.bool false)] = [D.v (Value.int IntKind.i64 (getV cs f u z)), D.v (Value.bool (findB cs f u z))])) := by kernel_rfl
theorem rget (x : D) (cs : List Cl) (f u : Int) (z : Int) (hX : IsL 3 (cls cs) x) (hl : cs.length ≤ 100000) : PureD Try.prog 18 [.agg [x, .v (.int .i64 f), .v (.int .i64 u)], .v (.int .i64 z)] [.v (.int .i64 (getV cs f u z)), .v (.bool (findB cs f u z))] := by
  refine pure_cond (Lp := (fun _ => none)) (by kernel_rfl) Try.func18 (by kernel_rfl) (by kernel_rfl) ?_
  rw [vc_rget x cs f u z]
  have C := rcheck x cs f u hX hl
  have LV := live1 x cs f u z hX hl
  rw [← liveB_C] at LV
  have hk := chk_cases cs f u
  by_cases h0 : findF cs f u z = 0
  · have hG : getV cs f u z = (cs.getD z.toNat c0).val := by unfold getV; rw [if_pos h0]
    obtain ⟨hck, hz0, hz1, vl, hc⟩ := find_ok h0
    have h1 := cls_at hX hz0 hz1
    rw [hc] at h1
    simp only [clD] at h1
    have i1 := cls_inb hX hz0 hz1
    rw [show liveB cs z = true by unfold liveB; rw [hc, decide_eq_true ⟨hz0, hz1⟩]; rfl] at LV
    rw [hck] at C
    rw [hG, hc, show findB cs f u z = true from decide_eq_true h0]
    repeat' (first
      | (refine ex_some (by simp (disch := omega) only [bin_shr, bin_shl, bin_and, bin_or, bin_xor, len_str, toStr_ofL, bin_add, bin_sub, bin_mul, bin_quo, bin_rem, bin_lss, bin_leq, bin_gtr, bin_geq, bin_eql, bin_neq, eqs_cn, eqs_ci, eqs_cb, eqs_cs, Option.map_some, lenT_ofL, lst_ofL, lstSz_ofL, chunk_one, lst_nil, lst_sl, lstSz_sl, lstSz_nil, Bool.and_true, Bool.true_and, Bool.and_false, Bool.false_and, beq_self_eq_true, beq_bb, bne_bb, un_not, un_neg, conv_int, min2_int, max2_int, w64, w32, wu8, wu16, wu32, wu64, tdiv_nn, tmod_nn, cell_zero, cell_succ, cell_v, cells_v, cells_agg, Bool.not_true, Bool.not_false, Int.reduceLT, Int.reduceLE, Int.reduceEq, Int.reduceNeg, Int.reduceAdd, Int.reduceSub, Int.reduceMul, intOf_v, decide_true, decide_false, h1]; rfl) ?_)
      | (refine ex_bool ?_)
      | (refine ⟨_, C, ?_⟩)
      | (refine ⟨_, LV, ?_⟩)
      | (exact i1)
      | (refine And.intro ?_ ?_)
      | (intro hx; have hprop := (show ∀ (p : Prop), p → True from fun _ _ => True.intro) _ hx; clear hprop; first | (cases hx; done) | (exfalso; revert hx; simp (disch := omega) only [decide_eq_true_eq, decide_eq_false_iff_not, Bool.not_eq_true', Bool.not_eq_false', Bool.and_eq_true, Bool.and_eq_false_iff, Int.not_lt, Int.not_le, ne_eq, not_false_eq_true, not_true_eq_false, reduceCtorEq, Bool.true_eq_false, Bool.false_eq_true, beq_iff_eq, bne_iff_ne, beq_eq_false_iff_ne, false_or, or_false, true_and, and_true, h1]; done) | (simp (disch := omega) only [decide_eq_true_eq, decide_eq_false_iff_not, Bool.not_eq_true', Bool.not_eq_false', Bool.and_eq_true, Bool.and_eq_false_iff, Int.not_lt, Int.not_le, ne_eq, not_false_eq_true, not_true_eq_false, reduceCtorEq, Bool.true_eq_false, Bool.false_eq_true, beq_iff_eq, bne_iff_ne, beq_eq_false_iff_ne, false_or, or_false, true_and, and_true, h1] at hx; first | (exfalso; omega) | skip) | skip)
      | trivial
      | exact fit_ofL _ _
      | (simp (disch := omega) only [notAgg_v, notAgg_sl, plain_v, fits, fitsOne, fitsCells, xsOf, cell_zero, cell_succ, List.range, List.range.loop, List.map, cond_true, cond_false, D.v.injEq, exists_eq', exists_eq, and_self, and_true, true_and, D.agg.injEq, List.length, exists_eq_left', D.sl.injEq, reduceCtorEq, false_or, true_or, or_true, or_false, cell_zero, cell_succ, cell_v, cells_v, cells_agg, List.length_cons, List.length_nil, h1]; done))
    all_goals first
      | (exfalso; omega)
      | exact fit_ofL _ _
      | exact fitC hX
      | exact plainC hX
      | exact plainS hX
      | exact ⟨_, rfl⟩
      | omega
      | rfl
      | (simp only [leftG]; omega)
      | (simp only [ints_length, cls_len, List.length_cons, List.length_nil, List.length_append]; omega)
      | exact plain_ofL (ints_plain _ _)
      | exact plainO
      | (simp only [ch3, cls_len, List.length_cons, List.length_nil]; omega)
      | (simp only [cell_zero, cell_succ, Nat.zero_add, h1]; first | done | exact ⟨_, rfl⟩)
      | (simp only [cell_zero, cell_succ, h1]; simp [D.cells, D.isAgg']; done)
      | (simp only [app_nil, h1]; simp [D.cells, D.isAgg']; done)
      | (simp; done)
      | fail
  · have hG : getV cs f u z = 0 := by unfold getV; rw [if_neg h0]
    have h1 : True := trivial
    rw [hG, show findB cs f u z = false from decide_eq_false h0]
    by_cases hck : chkF cs f u = 0
    · have hlv : liveB cs z = false := by cases e : liveB cs z; rfl; exact absurd (by unfold findF; rw [if_neg (by omega), if_pos e]) h0
      rw [hlv] at LV
      rw [hck] at C
      repeat' (first
        | (refine ex_some (by simp (disch := omega) only [bin_shr, bin_shl, bin_and, bin_or, bin_xor, len_str, toStr_ofL, bin_add, bin_sub, bin_mul, bin_quo, bin_rem, bin_lss, bin_leq, bin_gtr, bin_geq, bin_eql, bin_neq, eqs_cn, eqs_ci, eqs_cb, eqs_cs, Option.map_some, lenT_ofL, lst_ofL, lstSz_ofL, chunk_one, lst_nil, lst_sl, lstSz_sl, lstSz_nil, Bool.and_true, Bool.true_and, Bool.and_false, Bool.false_and, beq_self_eq_true, beq_bb, bne_bb, un_not, un_neg, conv_int, min2_int, max2_int, w64, w32, wu8, wu16, wu32, wu64, tdiv_nn, tmod_nn, cell_zero, cell_succ, cell_v, cells_v, cells_agg, Bool.not_true, Bool.not_false, Int.reduceLT, Int.reduceLE, Int.reduceEq, Int.reduceNeg, Int.reduceAdd, Int.reduceSub, Int.reduceMul, intOf_v, decide_true, decide_false, h1]; rfl) ?_)
        | (refine ex_bool ?_)
        | (refine ⟨_, C, ?_⟩)
        | (refine ⟨_, LV, ?_⟩)
        | (exact i1)
        | (refine And.intro ?_ ?_)
        | (intro hx; have hprop := (show ∀ (p : Prop), p → True from fun _ _ => True.intro) _ hx; clear hprop; first | (cases hx; done) | (exfalso; revert hx; simp (disch := omega) only [decide_eq_true_eq, decide_eq_false_iff_not, Bool.not_eq_true', Bool.not_eq_false', Bool.and_eq_true, Bool.and_eq_false_iff, Int.not_lt, Int.not_le, ne_eq, not_false_eq_true, not_true_eq_false, reduceCtorEq, Bool.true_eq_false, Bool.false_eq_true, beq_iff_eq, bne_iff_ne, beq_eq_false_iff_ne, false_or, or_false, true_and, and_true, h1]; done) | (simp (disch := omega) only [decide_eq_true_eq, decide_eq_false_iff_not, Bool.not_eq_true', Bool.not_eq_false', Bool.and_eq_true, Bool.and_eq_false_iff, Int.not_lt, Int.not_le, ne_eq, not_false_eq_true, not_true_eq_false, reduceCtorEq, Bool.true_eq_false, Bool.false_eq_true, beq_iff_eq, bne_iff_ne, beq_eq_false_iff_ne, false_or, or_false, true_and, and_true, h1] at hx; first | (exfalso; omega) | skip) | skip)
        | trivial
        | exact fit_ofL _ _
        | (simp (disch := omega) only [notAgg_v, notAgg_sl, plain_v, fits, fitsOne, fitsCells, xsOf, cell_zero, cell_succ, List.range, List.range.loop, List.map, cond_true, cond_false, D.v.injEq, exists_eq', exists_eq, and_self, and_true, true_and, D.agg.injEq, List.length, exists_eq_left', D.sl.injEq, reduceCtorEq, false_or, true_or, or_true, or_false, cell_zero, cell_succ, cell_v, cells_v, cells_agg, List.length_cons, List.length_nil, h1]; done))
      all_goals first
        | (exfalso; omega)
        | exact fit_ofL _ _
        | exact fitC hX
        | exact plainC hX
        | exact plainS hX
        | exact ⟨_, rfl⟩
        | omega
        | rfl
        | (simp only [leftG]; omega)
        | (simp only [ints_length, cls_len, List.length_cons, List.length_nil, List.length_append]; omega)
        | exact plain_ofL (ints_plain _ _)
        | exact plainO
        | (simp only [ch3, cls_len, List.length_cons, List.length_nil]; omega)
        | (simp only [cell_zero, cell_succ, Nat.zero_add, h1]; first | done | exact ⟨_, rfl⟩)
        | (simp only [cell_zero, cell_succ, h1]; simp [D.cells, D.isAgg']; done)
        | (simp only [app_nil, h1]; simp [D.cells, D.isAgg']; done)
        | (simp; done)
        | fail
    · skip
      repeat' (first
        | (refine ex_some (by simp (disch := omega) only [bin_shr, bin_shl, bin_and, bin_or, bin_xor, len_str, toStr_ofL, bin_add, bin_sub, bin_mul, bin_quo, bin_rem, bin_lss, bin_leq, bin_gtr, bin_geq, bin_eql, bin_neq, eqs_cn, eqs_ci, eqs_cb, eqs_cs, Option.map_some, lenT_ofL, lst_ofL, lstSz_ofL, chunk_one, lst_nil, lst_sl, lstSz_sl, lstSz_nil, Bool.and_true, Bool.true_and, Bool.and_false, Bool.false_and, beq_self_eq_true, beq_bb, bne_bb, un_not, un_neg, conv_int, min2_int, max2_int, w64, w32, wu8, wu16, wu32, wu64, tdiv_nn, tmod_nn, cell_zero, cell_succ, cell_v, cells_v, cells_agg, Bool.not_true, Bool.not_false, Int.reduceLT, Int.reduceLE, Int.reduceEq, Int.reduceNeg, Int.reduceAdd, Int.reduceSub, Int.reduceMul, intOf_v, decide_true, decide_false, h1]; rfl) ?_)
        | (refine ex_bool ?_)
        | (refine ⟨_, C, ?_⟩)
        | (refine ⟨_, LV, ?_⟩)
        | (exact i1)
        | (refine And.intro ?_ ?_)
        | (intro hx; have hprop := (show ∀ (p : Prop), p → True from fun _ _ => True.intro) _ hx; clear hprop; first | (cases hx; done) | (exfalso; revert hx; simp (disch := omega) only [decide_eq_true_eq, decide_eq_false_iff_not, Bool.not_eq_true', Bool.not_eq_false', Bool.and_eq_true, Bool.and_eq_false_iff, Int.not_lt, Int.not_le, ne_eq, not_false_eq_true, not_true_eq_false, reduceCtorEq, Bool.true_eq_false, Bool.false_eq_true, beq_iff_eq, bne_iff_ne, beq_eq_false_iff_ne, false_or, or_false, true_and, and_true, h1]; done) | (simp (disch := omega) only [decide_eq_true_eq, decide_eq_false_iff_not, Bool.not_eq_true', Bool.not_eq_false', Bool.and_eq_true, Bool.and_eq_false_iff, Int.not_lt, Int.not_le, ne_eq, not_false_eq_true, not_true_eq_false, reduceCtorEq, Bool.true_eq_false, Bool.false_eq_true, beq_iff_eq, bne_iff_ne, beq_eq_false_iff_ne, false_or, or_false, true_and, and_true, h1] at hx; first | (exfalso; omega) | skip) | skip)
        | trivial
        | exact fit_ofL _ _
        | (simp (disch := omega) only [notAgg_v, notAgg_sl, plain_v, fits, fitsOne, fitsCells, xsOf, cell_zero, cell_succ, List.range, List.range.loop, List.map, cond_true, cond_false, D.v.injEq, exists_eq', exists_eq, and_self, and_true, true_and, D.agg.injEq, List.length, exists_eq_left', D.sl.injEq, reduceCtorEq, false_or, true_or, or_true, or_false, cell_zero, cell_succ, cell_v, cells_v, cells_agg, List.length_cons, List.length_nil, h1]; done))
      all_goals first
        | (exfalso; omega)
        | exact fit_ofL _ _
        | exact fitC hX
        | exact plainC hX
        | exact plainS hX
        | exact ⟨_, rfl⟩
        | omega
        | rfl
        | (simp only [leftG]; omega)
        | (simp only [ints_length, cls_len, List.length_cons, List.length_nil, List.length_append]; omega)
        | exact plain_ofL (ints_plain _ _)
        | exact plainO
        | (simp only [ch3, cls_len, List.length_cons, List.length_nil]; omega)
        | (simp only [cell_zero, cell_succ, Nat.zero_add, h1]; first | done | exact ⟨_, rfl⟩)
        | (simp only [cell_zero, cell_succ, h1]; simp [D.cells, D.isAgg']; done)
        | (simp only [app_nil, h1]; simp [D.cells, D.isAgg']; done)
        | (simp; done)
        | fail

theorem vc_rsame (x y : D) (a b : List Cl) (f u g v : Int) : Cond Try.prog (fun k => if k = 4 then some ⟨[5], [], [2, 3], []⟩ else none) Try.f15 [.agg [x, .v (.int .i64 f), .v (.int .i64 u)], .agg [y, .v (.int .i64 g), .v (.int .i64 v)]] [.v (.bool (sameS a b f g u v))] = (((∃ (cs : List D), D.agg [x, D.v (Value.int IntKind.i64 f), D.v (Value.int IntKind.i64 u)] = D.agg cs ∧ cs.length = 3) ∧ (∃ (cs : List D), D.agg [y, D.v (Value.int IntKind.i64 g), D.v (Value.int IntKind.i64 v)] = D.agg cs ∧ cs.length = 3) ∧ True) ∧ ∃ (r : D), D.lenT (TypeDesc.slice 63) x = some r ∧ ∃ (r_1 : D), D.lenT (TypeDesc.slice 63) y = some r_1 ∧ ∃ (r_2 : D), D.bin BinOp.neq r r_1 = some r_2 ∧ ∃ (b_1 : Bool), r_2 = D.v (Value.bool b_1) ∧ (b_1 = true → (True ∧ True) ∧ [D.v (Value.bool false)] = [D.v (Value.bool (sameS a b f g u v))]) ∧ (b_1 = false → ∃ (I : List D → Prop), ∃ (μ : List D → Nat), ((D.v (Value.int IntKind.i64 0) = D.v (Value.int IntKind.i64 0) ∧ (true = true ∧ true = true) ∧ (true = true ∧ true = true) ∧ True) ∧ ((x = x ∧ D.v (Value.int IntKind.i64 f) = D.v (Value.int IntKind.i64 f) ∧ D.v (Value.int IntKind.i64 u) = D.v (Value.int IntKind.i64 u) ∧ True) ∧ (y = y ∧ D.v (Value.int IntKind.i64 g) = D.v (Value.int IntKind.i64 g) ∧ D.v (Value.int IntKind.i64 v) = D.v (Value.int IntKind.i64 v) ∧ True) ∧ True) ∧ I [D.v (Value.int IntKind.i64 0)]) ∧ ∀ (r : D), I [r] → ∃ (r_3 : D), D.lenT (TypeDesc.slice 63) x = some r_3 ∧ ∃ (r_4 : D), D.bin BinOp.lss r r_3 = some r_4 ∧ ∃ (b_2 : Bool), r_4 = D.v (Value.bool b_2) ∧ (b_2 = true → D.inb 3 x r ∧ 0 + 3 ≤ (x.at_ r).cells.length ∧ D.inb 3 y r ∧ 0 + 3 ≤ (y.at_ r).cells.length ∧ ∃ (r_5 : Bool), eqs [EqK.b, EqK.i, EqK.i] [(x.at_ r).cell (0 + 0), (x.at_ r).cell (0 + 1), (x.at_ r).cell (0 + 2)] [(y.at_ r).cell (0 + 0), (y.at_ r).cell (0 + 1), (y.at_ r).cell (0 + 2)] = some r_5 ∧ ∃ (b_3 : Bool), D.v (Value.bool (match r_5 with | true => false | false => true)) = D.v (Value.bool b_3) ∧ (b_3 = true → (True ∧ True) ∧ [D.v (Value.bool false)] = [D.v (Value.bool (sameS a b f g u v))]) ∧ (b_3 = false → ∃ (r_6 : D), D.bin BinOp.add r (D.v (Value.int IntKind.i64 1)) = some r_6 ∧ (r_6 = r_6 ∧ (true = true ∧ true = true) ∧ (true = true ∧ true = true) ∧ True) ∧ ((x = x ∧ D.v (Value.int IntKind.i64 f) = D.v (Value.int IntKind.i64 f) ∧ D.v (Value.int IntKind.i64 u) = D.v (Value.int IntKind.i64 u) ∧ True) ∧ (y = y ∧ D.v (Value.int IntKind.i64 g) = D.v (Value.int IntKind.i64 g) ∧ D.v (Value.int IntKind.i64 v) = D.v (Value.int IntKind.i64 v) ∧ True) ∧ True) ∧ I [r_6] ∧ μ [r_6] < μ [r])) ∧ (b_2 = false → ∃ (r : D), D.bin BinOp.eql (D.v (Value.int IntKind.i64 f)) (D.v (Value.int IntKind.i64 g)) = some r ∧ ∃ (b_3 : Bool), r = D.v (Value.bool b_3) ∧ (b_3 = true → ∃ (r : D), D.bin BinOp.eql (D.v (Value.int IntKind.i64 u)) (D.v (Value.int IntKind.i64 v)) = some r ∧ ((∃ (y : Value), r = D.v y) ∧ True) ∧ [r] = [D.v (Value.bool (sameS a b f g u v))]) ∧ (b_3 = false → (True ∧ True) ∧ [D.v (Value.bool false)] = [D.v (Value.bool (sameS a b f g u v))])))) := by kernel_rfl
set_option maxHeartbeats 4000000 in
theorem rsame (x y : D) (a b : List Cl) (f u g v : Int) (hX : IsL 3 (cls a) x) (hY : IsL 3 (cls b) y) (ha : a.length ≤ 100000) (hb : b.length ≤ 100000) : PureD Try.prog 15 [.agg [x, .v (.int .i64 f), .v (.int .i64 u)], .agg [y, .v (.int .i64 g), .v (.int .i64 v)]] [.v (.bool (sameS a b f g u v))] := by
  refine pure_cond (Lp := (fun k => if k = 4 then some ⟨[5], [], [2, 3], []⟩ else none)) (by kernel_rfl) Try.func15 (by kernel_rfl) (by kernel_rfl) ?_
  rw [vc_rsame x y a b f u g v]
  simp only [hX.notAgg, hY.notAgg, hX.lenT, hY.lenT, cls_len, Option.some.injEq, exists_eq_left']
  by_cases hab : a.length = b.length
  · have hab2 : True := trivial
    repeat' (first
      | (refine ex_some (by simp (disch := omega) only [bin_shr, bin_shl, bin_and, bin_or, bin_xor, len_str, toStr_ofL, bin_add, bin_sub, bin_mul, bin_quo, bin_rem, bin_lss, bin_leq, bin_gtr, bin_geq, bin_eql, bin_neq, eqs_cn, eqs_ci, eqs_cb, eqs_cs, Option.map_some, lenT_ofL, lst_ofL, lstSz_ofL, chunk_one, lst_nil, lst_sl, lstSz_sl, lstSz_nil, Bool.and_true, Bool.true_and, Bool.and_false, Bool.false_and, beq_self_eq_true, beq_bb, bne_bb, un_not, un_neg, conv_int, min2_int, max2_int, w64, w32, wu8, wu16, wu32, wu64, tdiv_nn, tmod_nn, cell_zero, cell_succ, cell_v, cells_v, cells_agg, Bool.not_true, Bool.not_false, Int.reduceLT, Int.reduceLE, Int.reduceEq, Int.reduceNeg, Int.reduceAdd, Int.reduceSub, Int.reduceMul, intOf_v, decide_true, decide_false]; rfl) ?_)
      | (refine ex_bool ?_)
      | (refine ⟨(fun r => ∃ k : Nat, k ≤ a.length ∧ a.take k = b.take k ∧ r = [.v (.int .i64 (k : Nat))]), leftG a.length, ?_⟩)
      | (refine fun (r2 : D) (hI : (fun r => ∃ k : Nat, k ≤ a.length ∧ a.take k = b.take k ∧ r = [.v (.int .i64 (k : Nat))]) [r2]) => ?_; obtain ⟨k, hk, hek, hl0⟩ := hI; simp only [List.cons.injEq, and_true] at hl0; subst hl0; by_cases hlt : k < a.length <;> first | (have hk1 : k < a.length := (by omega); have h1 := cls_at hX (z := (k : Nat)) (by omega) (by omega); have h2 := cls_at hY (z := (k : Nat)) (by omega) (by omega); rw [Int.toNat_natCast] at h1 h2; have i1 := cls_inb hX (z := (k : Nat)) (by omega) (by omega); have i2 := cls_inb hY (z := (k : Nat)) (by omega) (by omega); have hst := take_eqC hk1 hab hek; generalize a.getD k c0 = p at h1 hst; generalize b.getD k c0 = q at h2 hst; obtain ⟨p1, p2, p3⟩ := p; obtain ⟨q1, q2, q3⟩ := q; simp only [clD] at h1 h2; simp only [Cl.mk.injEq] at hst; simp only [h1, h2, Nat.zero_add, cell_zero, cell_succ, cells_agg, List.length_cons, List.length_nil]; have inl : True := trivial) | (have hkk : k = a.length := (by omega); subst hkk; rw [List.take_length, hab, List.take_length] at hek; have hsm : sameC a b = true := (by simp [sameC, hek]); have inl2 : True := trivial))
      | (exact i1)
      | (exact i2)
      | (refine ⟨(0 : Nat), Nat.zero_le _, rfl, rfl⟩)
      | (have := inl; refine ⟨(k + 1 : Nat), by omega, ?_, rfl⟩)
      | (refine And.intro ?_ ?_)
      | (intro hx; have hprop := (show ∀ (p : Prop), p → True from fun _ _ => True.intro) _ hx; clear hprop; first | (cases hx; done) | (exfalso; revert hx; simp (disch := omega) only [decide_eq_true_eq, decide_eq_false_iff_not, Bool.not_eq_true', Bool.not_eq_false', Bool.and_eq_true, Bool.and_eq_false_iff, Int.not_lt, Int.not_le, ne_eq, not_false_eq_true, not_true_eq_false, reduceCtorEq, Bool.true_eq_false, Bool.false_eq_true, beq_iff_eq, bne_iff_ne, beq_eq_false_iff_ne, false_or, or_false, true_and, and_true]; done) | (simp (disch := omega) only [decide_eq_true_eq, decide_eq_false_iff_not, Bool.not_eq_true', Bool.not_eq_false', Bool.and_eq_true, Bool.and_eq_false_iff, Int.not_lt, Int.not_le, ne_eq, not_false_eq_true, not_true_eq_false, reduceCtorEq, Bool.true_eq_false, Bool.false_eq_true, beq_iff_eq, bne_iff_ne, beq_eq_false_iff_ne, false_or, or_false, true_and, and_true] at hx; first | (exfalso; omega) | skip) | skip)
      | trivial
      | exact fit_ofL _ _
      | (simp (disch := omega) only [notAgg_v, notAgg_sl, plain_v, fits, fitsOne, fitsCells, xsOf, cell_zero, cell_succ, List.range, List.range.loop, List.map, cond_true, cond_false, D.v.injEq, exists_eq', exists_eq, and_self, and_true, true_and, D.agg.injEq, List.length, exists_eq_left', D.sl.injEq, reduceCtorEq, false_or, true_or, or_true, or_false, cell_zero, cell_succ, cell_v, cells_v, cells_agg, List.length_cons, List.length_nil]; done))
    all_goals first
      | (exfalso; omega)
      | omega
      | (simp only [leftG]; omega)
      | (simp_all [sameS]; done)
      | (simp_all [sameS]; omega)
      | (refine hst.2 ?_; revert hx; cases e1 : p1 == q1 <;> cases e2 : p2 == q2 <;> cases e3 : p3 == q3 <;> simp_all; done)
      | (have hne : a ≠ b := fun h => by subst h; have := hst.1 rfl; simp_all
         simp [sameS, sameC, hne]; done)
      | (simp; done)
      | fail
  · have hsm : sameC a b = false := by unfold sameC; rw [decide_eq_false_iff_not]; intro h; exact hab (by rw [h])
    repeat' (first
      | (refine ex_some (by simp (disch := omega) only [bin_shr, bin_shl, bin_and, bin_or, bin_xor, len_str, toStr_ofL, bin_add, bin_sub, bin_mul, bin_quo, bin_rem, bin_lss, bin_leq, bin_gtr, bin_geq, bin_eql, bin_neq, eqs_cn, eqs_ci, eqs_cb, eqs_cs, Option.map_some, lenT_ofL, lst_ofL, lstSz_ofL, chunk_one, lst_nil, lst_sl, lstSz_sl, lstSz_nil, Bool.and_true, Bool.true_and, Bool.and_false, Bool.false_and, beq_self_eq_true, beq_bb, bne_bb, un_not, un_neg, conv_int, min2_int, max2_int, w64, w32, wu8, wu16, wu32, wu64, tdiv_nn, tmod_nn, cell_zero, cell_succ, cell_v, cells_v, cells_agg, Bool.not_true, Bool.not_false, Int.reduceLT, Int.reduceLE, Int.reduceEq, Int.reduceNeg, Int.reduceAdd, Int.reduceSub, Int.reduceMul, intOf_v, decide_true, decide_false]; rfl) ?_)
      | (refine ex_bool ?_)
      | (refine And.intro ?_ ?_)
      | (intro hx; have hprop := (show ∀ (p : Prop), p → True from fun _ _ => True.intro) _ hx; clear hprop; first | (cases hx; done) | (exfalso; revert hx; simp (disch := omega) only [decide_eq_true_eq, decide_eq_false_iff_not, Bool.not_eq_true', Bool.not_eq_false', Bool.and_eq_true, Bool.and_eq_false_iff, Int.not_lt, Int.not_le, ne_eq, not_false_eq_true, not_true_eq_false, reduceCtorEq, Bool.true_eq_false, Bool.false_eq_true, beq_iff_eq, bne_iff_ne, beq_eq_false_iff_ne, false_or, or_false, true_and, and_true]; done) | (simp (disch := omega) only [decide_eq_true_eq, decide_eq_false_iff_not, Bool.not_eq_true', Bool.not_eq_false', Bool.and_eq_true, Bool.and_eq_false_iff, Int.not_lt, Int.not_le, ne_eq, not_false_eq_true, not_true_eq_false, reduceCtorEq, Bool.true_eq_false, Bool.false_eq_true, beq_iff_eq, bne_iff_ne, beq_eq_false_iff_ne, false_or, or_false, true_and, and_true] at hx; first | (exfalso; omega) | skip) | skip)
      | trivial
      | exact fit_ofL _ _
      | (simp (disch := omega) only [notAgg_v, notAgg_sl, plain_v, fits, fitsOne, fitsCells, xsOf, cell_zero, cell_succ, List.range, List.range.loop, List.map, cond_true, cond_false, D.v.injEq, exists_eq', exists_eq, and_self, and_true, true_and, D.agg.injEq, List.length, exists_eq_left', D.sl.injEq, reduceCtorEq, false_or, true_or, or_true, or_false, cell_zero, cell_succ, cell_v, cells_v, cells_agg, List.length_cons, List.length_nil]; done))
    all_goals first | (exfalso; omega) | (simp [sameS, hsm]; done) | fail

theorem vc_rlive (x : D) (cs : List Cl) (f u : Int) : Cond Try.prog (fun k => if k = 3 then some ⟨[4], [3], [1], []⟩ else none) Try.f23 [.agg [x, .v (.int .i64 f), .v (.int .i64 u)]] [ofL 1 (ints .i64 (liveF cs f u))] = (((∃ (cs : List D), D.agg [x, D.v (Value.int IntKind.i64 f), D.v (Value.int IntKind.i64 u)] = D.agg cs ∧ cs.length = 3) ∧ True) ∧ ∃ (I : List D → Prop), ∃ (μ : List D → Nat), ((D.v (Value.int IntKind.i64 0) = D.v (Value.int IntKind.i64 0) ∧ true = true ∧ (true = true ∧ true = true) ∧ True) ∧ ((true = true ∧ D.v nilS = D.v nilS) ∧ (x = x ∧ D.v (Value.int IntKind.i64 f) = D.v (Value.int IntKind.i64 f) ∧ D.v (Value.int IntKind.i64 u) = D.v (Value.int IntKind.i64 u) ∧ True) ∧ True) ∧ I [D.v (Value.int IntKind.i64 0), D.v nilS]) ∧ ∀ (r r_1 : D), I [r, r_1] → ∃ (r_2 : D), D.lenT (TypeDesc.slice 63) x = some r_2 ∧ ∃ (r_3 : D), D.bin BinOp.lss r r_2 = some r_3 ∧ ∃ (b : Bool), r_3 = D.v (Value.bool b) ∧ (b = true → ∃ (r_4 : D), PureD Try.prog 20 [D.agg [x, D.v (Value.int IntKind.i64 f), D.v (Value.int IntKind.i64 u)]] [r_4] ∧ fits [(false, [none])] [r_4] ∧ ∃ (r_5 : D), D.bin BinOp.eql r_4 (D.v (Value.int IntKind.i64 0)) = some r_5 ∧ ∃ (b : Bool), r_5 = D.v (Value.bool b) ∧ (b = true → D.inb 3 x r ∧ 0 + 1 ≤ (x.at_ r).cells.length ∧ ∃ (b : Bool), (x.at_ r).cell 0 = D.v (Value.bool b) ∧ (b = true → ∃ (ls : List D), r_1.lst = some ls ∧ ∃ (lx : List D), D.lstSz 1 (D.sl 1 (chunks false 1 1 [r])) = some lx ∧ (ls.length + lx.length) * 8 ≤ 1099511627776 ∧ ∃ (r_6 : D), D.bin BinOp.add r (D.v (Value.int IntKind.i64 1)) = some r_6 ∧ (r_6 = r_6 ∧ true = true ∧ (true = true ∧ true = true) ∧ True) ∧ ((true = true ∧ D.app 1 r_1 lx = D.app 1 r_1 lx) ∧ (x = x ∧ D.v (Value.int IntKind.i64 f) = D.v (Value.int IntKind.i64 f) ∧ D.v (Value.int IntKind.i64 u) = D.v (Value.int IntKind.i64 u) ∧ True) ∧ True) ∧ I [r_6, D.app 1 r_1 lx] ∧ μ [r_6, D.app 1 r_1 lx] < μ [r, r_1]) ∧ (b = false → ∃ (r_6 : D), D.bin BinOp.add r (D.v (Value.int IntKind.i64 1)) = some r_6 ∧ (r_6 = r_6 ∧ true = true ∧ (true = true ∧ true = true) ∧ True) ∧ ((true = true ∧ r_1 = r_1) ∧ (x = x ∧ D.v (Value.int IntKind.i64 f) = D.v (Value.int IntKind.i64 f) ∧ D.v (Value.int IntKind.i64 u) = D.v (Value.int IntKind.i64 u) ∧ True) ∧ True) ∧ I [r_6, r_1] ∧ μ [r_6, r_1] < μ [r, r_1])) ∧ (b = false → (PlainD r_1 ∧ True) ∧ [r_1] = [ofL 1 (ints IntKind.i64 (liveF cs f u))])) ∧ (b = false → (PlainD r_1 ∧ True) ∧ [r_1] = [ofL 1 (ints IntKind.i64 (liveF cs f u))])) := by kernel_rfl
set_option maxHeartbeats 4000000 in
theorem rlive (x : D) (cs : List Cl) (f u : Int) (hX : IsL 3 (cls cs) x) (hl : cs.length ≤ 100000) : PureD Try.prog 23 [.agg [x, .v (.int .i64 f), .v (.int .i64 u)]] [ofL 1 (ints .i64 (liveF cs f u))] := by
  refine pure_cond (Lp := (fun k => if k = 3 then some ⟨[4], [3], [1], []⟩ else none)) (by kernel_rfl) Try.func23 (by kernel_rfl) (by kernel_rfl) ?_
  rw [vc_rlive x cs f u]
  have C := rcheck x cs f u hX hl
  have hk := chk_cases cs f u
  have h1 : True := trivial
  by_cases h0 : chkF cs f u = 0
  · rw [h0] at C
    have hG : liveF cs f u = liveL cs cs.length := if_pos h0
    rw [hG]
    repeat' (first
      | (refine ex_some (by simp (disch := omega) only [bin_shr, bin_shl, bin_and, bin_or, bin_xor, len_str, toStr_ofL, bin_add, bin_sub, bin_mul, bin_quo, bin_rem, bin_lss, bin_leq, bin_gtr, bin_geq, bin_eql, bin_neq, eqs_cn, eqs_ci, eqs_cb, eqs_cs, Option.map_some, lenT_ofL, lst_ofL, lstSz_ofL, chunk_one, lst_nil, lst_sl, lstSz_sl, lstSz_nil, Bool.and_true, Bool.true_and, Bool.and_false, Bool.false_and, beq_self_eq_true, beq_bb, bne_bb, un_not, un_neg, conv_int, min2_int, max2_int, w64, w32, wu8, wu16, wu32, wu64, tdiv_nn, tmod_nn, cell_zero, cell_succ, cell_v, cells_v, cells_agg, Bool.not_true, Bool.not_false, Int.reduceLT, Int.reduceLE, Int.reduceEq, Int.reduceNeg, Int.reduceAdd, Int.reduceSub, Int.reduceMul, intOf_v, decide_true, decide_false, h1, hX.lenT, cls_len, lst_ofL, lenT_ofL]; rfl) ?_)
      | (refine ex_bool ?_)
      | (refine ⟨_, C, ?_⟩)
      | (refine ⟨(fun r => ∃ k : Nat, k ≤ cs.length ∧ r = [.v (.int .i64 (k : Nat)), ofL 1 (ints .i64 (liveL cs k))]), leftG cs.length, ?_⟩)
      | (refine fun (r2 r3 : D) (hI : (fun r => ∃ k : Nat, k ≤ cs.length ∧ r = [.v (.int .i64 (k : Nat)), ofL 1 (ints .i64 (liveL cs k))]) [r2, r3]) => ?_; obtain ⟨k, hk, hl0⟩ := hI; simp only [List.cons.injEq, and_true] at hl0; obtain ⟨rfl, rfl⟩ := hl0; by_cases hlt : k < cs.length <;> first | (have hk1 : k < cs.length := (by omega); have h1 := cls_at hX (z := (k : Nat)) (by omega) (by omega); rw [Int.toNat_natCast] at h1; have i1 := cls_inb hX (z := (k : Nat)) (by omega) (by omega); have hLL := liveL_len cs k; have hs : liveL cs (k + 1) = liveL cs k ++ (if (cs.getD k c0).live then [(k : Int)] else []) := rfl; generalize cs.getD k c0 = c at h1 hs; obtain ⟨lv, vl, lk⟩ := c; simp only [clD] at h1; simp only [h1, Nat.zero_add, cell_zero, cell_succ, cells_agg, List.length_cons, List.length_nil]; have inl : True := trivial) | (have hkk : k = cs.length := (by omega); subst hkk; have h1 : True := trivial; have out : True := trivial))
      | (exact i1)
      | (have := inl; refine ⟨(k + 1 : Nat), by omega, ?_⟩)
      | (refine ⟨(0 : Nat), Nat.zero_le _, rfl⟩)
      | (refine And.intro ?_ ?_)
      | (intro hx; have hprop := (show ∀ (p : Prop), p → True from fun _ _ => True.intro) _ hx; clear hprop; first | (cases hx; done) | (exfalso; revert hx; simp (disch := omega) only [decide_eq_true_eq, decide_eq_false_iff_not, Bool.not_eq_true', Bool.not_eq_false', Bool.and_eq_true, Bool.and_eq_false_iff, Int.not_lt, Int.not_le, ne_eq, not_false_eq_true, not_true_eq_false, reduceCtorEq, Bool.true_eq_false, Bool.false_eq_true, beq_iff_eq, bne_iff_ne, beq_eq_false_iff_ne, false_or, or_false, true_and, and_true, h1, hX.lenT, cls_len, lst_ofL, lenT_ofL]; done) | (simp (disch := omega) only [decide_eq_true_eq, decide_eq_false_iff_not, Bool.not_eq_true', Bool.not_eq_false', Bool.and_eq_true, Bool.and_eq_false_iff, Int.not_lt, Int.not_le, ne_eq, not_false_eq_true, not_true_eq_false, reduceCtorEq, Bool.true_eq_false, Bool.false_eq_true, beq_iff_eq, bne_iff_ne, beq_eq_false_iff_ne, false_or, or_false, true_and, and_true, h1, hX.lenT, cls_len, lst_ofL, lenT_ofL] at hx; first | (exfalso; omega) | skip) | skip)
      | trivial
      | exact fit_ofL _ _
      | (simp (disch := omega) only [notAgg_v, notAgg_sl, plain_v, fits, fitsOne, fitsCells, xsOf, cell_zero, cell_succ, List.range, List.range.loop, List.map, cond_true, cond_false, D.v.injEq, exists_eq', exists_eq, and_self, and_true, true_and, D.agg.injEq, List.length, exists_eq_left', D.sl.injEq, reduceCtorEq, false_or, true_or, or_true, or_false, cell_zero, cell_succ, cell_v, cells_v, cells_agg, List.length_cons, List.length_nil, h1, hX.lenT, cls_len, lst_ofL, lenT_ofL]; done))
    all_goals first
      | (exfalso; omega)
      | exact fit_ofL _ _
      | exact fitC hX
      | exact plainC hX
      | exact plainS hX
      | exact ⟨_, rfl⟩
      | omega
      | rfl
      | (simp only [app_ofL]; rw [hs]; simp_all [ints]; done)
      | (rw [hs]; simp_all; done)
      | (simp only [leftG]; omega)
      | (simp only [ints_length, cls_len, List.length_cons, List.length_nil, List.length_append]; omega)
      | exact plain_ofL (ints_plain _ _)
      | exact plainO
      | (simp only [ch3, cls_len, List.length_cons, List.length_nil]; omega)
      | (simp only [cell_zero, cell_succ, Nat.zero_add, h1]; first | done | exact ⟨_, rfl⟩)
      | (simp only [cell_zero, cell_succ, h1]; simp [D.cells, D.isAgg']; done)
      | (simp only [app_nil, h1]; simp [D.cells, D.isAgg']; done)
      | (simp; done)
      | fail
  · have hG : liveF cs f u = [] := if_neg h0
    rw [hG]
    repeat' (first
      | (refine ex_some (by simp (disch := omega) only [bin_shr, bin_shl, bin_and, bin_or, bin_xor, len_str, toStr_ofL, bin_add, bin_sub, bin_mul, bin_quo, bin_rem, bin_lss, bin_leq, bin_gtr, bin_geq, bin_eql, bin_neq, eqs_cn, eqs_ci, eqs_cb, eqs_cs, Option.map_some, lenT_ofL, lst_ofL, lstSz_ofL, chunk_one, lst_nil, lst_sl, lstSz_sl, lstSz_nil, Bool.and_true, Bool.true_and, Bool.and_false, Bool.false_and, beq_self_eq_true, beq_bb, bne_bb, un_not, un_neg, conv_int, min2_int, max2_int, w64, w32, wu8, wu16, wu32, wu64, tdiv_nn, tmod_nn, cell_zero, cell_succ, cell_v, cells_v, cells_agg, Bool.not_true, Bool.not_false, Int.reduceLT, Int.reduceLE, Int.reduceEq, Int.reduceNeg, Int.reduceAdd, Int.reduceSub, Int.reduceMul, intOf_v, decide_true, decide_false, h1, hX.lenT, cls_len, lst_ofL, lenT_ofL]; rfl) ?_)
      | (refine ex_bool ?_)
      | (refine ⟨_, C, ?_⟩)
      | (refine ⟨(fun r => ∃ k : Nat, k = 0 ∧ r = [.v (.int .i64 (k : Nat)), ofL 1 (ints .i64 [])]), leftG cs.length, ?_⟩)
      | (refine fun (r2 r3 : D) (hI : (fun r => ∃ k : Nat, k = 0 ∧ r = [.v (.int .i64 (k : Nat)), ofL 1 (ints .i64 [])]) [r2, r3]) => ?_; obtain ⟨k, hkz, hl0⟩ := hI; simp only [List.cons.injEq, and_true] at hl0; obtain ⟨rfl, rfl⟩ := hl0; by_cases hlt : k < cs.length <;> first | (have inl : True := trivial) | (have out : True := trivial))
      | (refine ⟨0, rfl, rfl⟩)
      | (refine And.intro ?_ ?_)
      | (intro hx; have hprop := (show ∀ (p : Prop), p → True from fun _ _ => True.intro) _ hx; clear hprop; first | (cases hx; done) | (exfalso; revert hx; simp (disch := omega) only [decide_eq_true_eq, decide_eq_false_iff_not, Bool.not_eq_true', Bool.not_eq_false', Bool.and_eq_true, Bool.and_eq_false_iff, Int.not_lt, Int.not_le, ne_eq, not_false_eq_true, not_true_eq_false, reduceCtorEq, Bool.true_eq_false, Bool.false_eq_true, beq_iff_eq, bne_iff_ne, beq_eq_false_iff_ne, false_or, or_false, true_and, and_true, h1, hX.lenT, cls_len, lst_ofL, lenT_ofL]; done) | (simp (disch := omega) only [decide_eq_true_eq, decide_eq_false_iff_not, Bool.not_eq_true', Bool.not_eq_false', Bool.and_eq_true, Bool.and_eq_false_iff, Int.not_lt, Int.not_le, ne_eq, not_false_eq_true, not_true_eq_false, reduceCtorEq, Bool.true_eq_false, Bool.false_eq_true, beq_iff_eq, bne_iff_ne, beq_eq_false_iff_ne, false_or, or_false, true_and, and_true, h1, hX.lenT, cls_len, lst_ofL, lenT_ofL] at hx; first | (exfalso; omega) | skip) | skip)
      | trivial
      | exact fit_ofL _ _
      | (simp (disch := omega) only [notAgg_v, notAgg_sl, plain_v, fits, fitsOne, fitsCells, xsOf, cell_zero, cell_succ, List.range, List.range.loop, List.map, cond_true, cond_false, D.v.injEq, exists_eq', exists_eq, and_self, and_true, true_and, D.agg.injEq, List.length, exists_eq_left', D.sl.injEq, reduceCtorEq, false_or, true_or, or_true, or_false, cell_zero, cell_succ, cell_v, cells_v, cells_agg, List.length_cons, List.length_nil, h1, hX.lenT, cls_len, lst_ofL, lenT_ofL]; done))
    all_goals first
      | (exfalso; omega)
      | exact fit_ofL _ _
      | exact fitC hX
      | exact plainC hX
      | exact plainS hX
      | exact ⟨_, rfl⟩
      | omega
      | rfl
      | (simp only [leftG]; omega)
      | (simp only [ints_length, cls_len, List.length_cons, List.length_nil, List.length_append]; omega)
      | exact plain_ofL (ints_plain _ _)
      | exact plainO
      | (simp only [ch3, cls_len, List.length_cons, List.length_nil]; omega)
      | (simp only [cell_zero, cell_succ, Nat.zero_add, h1]; first | done | exact ⟨_, rfl⟩)
      | (simp only [cell_zero, cell_succ, h1]; simp [D.cells, D.isAgg']; done)
      | (simp only [app_nil, h1]; simp [D.cells, D.isAgg']; done)
      | (simp; done)
      | fail

theorem vc_rspare (x : D) (cs : List Cl) (f u : Int) : Cond Try.prog (fun _ => none) Try.f25 [.agg [x, .v (.int .i64 f), .v (.int .i64 u)]] [ofL 1 (ints .i64 (spareF cs f u))] = (((∃ (cs : List D), D.agg [x, D.v (Value.int IntKind.i64 f), D.v (Value.int IntKind.i64 u)] = D.agg cs ∧ cs.length = 3) ∧ True) ∧ ∃ (r : D), PureD Try.prog 20 [D.agg [x, D.v (Value.int IntKind.i64 f), D.v (Value.int IntKind.i64 u)]] [r] ∧ fits [(false, [none])] [r] ∧ ∃ (r_1 : D), D.bin BinOp.neq r (D.v (Value.int IntKind.i64 0)) = some r_1 ∧ ∃ (b : Bool), r_1 = D.v (Value.bool b) ∧ (b = true → (PlainD (D.v nilS) ∧ True) ∧ [D.v nilS] = [ofL 1 (ints IntKind.i64 (spareF cs f u))]) ∧ (b = false → ∃ (r : D), PureD Try.prog 36 [D.agg [x, D.v (Value.int IntKind.i64 f), D.v (Value.int IntKind.i64 u)]] [r] ∧ fits [(false, [some 1])] [r] ∧ (PlainD r ∧ True) ∧ [r] = [ofL 1 (ints IntKind.i64 (spareF cs f u))])) := by kernel_rfl
set_option maxHeartbeats 4000000 in
theorem rspare (x : D) (cs : List Cl) (f u : Int) (hX : IsL 3 (cls cs) x) (hl : cs.length ≤ 100000) : PureD Try.prog 25 [.agg [x, .v (.int .i64 f), .v (.int .i64 u)]] [ofL 1 (ints .i64 (spareF cs f u))] := by
  refine pure_cond (Lp := (fun _ => none)) (by kernel_rfl) Try.func25 (by kernel_rfl) (by kernel_rfl) ?_
  rw [vc_rspare x cs f u]
  have C := rcheck x cs f u hX hl
  have hk := chk_cases cs f u
  by_cases h0 : chkF cs f u = 0
  · rw [h0] at C
    obtain ⟨hok1, hok2, hok3, hok4, hok5, hok6⟩ := chk_ok h0
    have CH := chain x cs f u hX hl (all_of hok3 hok4) (by simpa [linkB] using hok2)
    have hG : spareF cs f u = chL cs (cs.length + 1) f := if_pos h0
    have h1 : True := trivial
    rw [hG]
    repeat' (first
      | (refine ex_some (by simp (disch := omega) only [bin_shr, bin_shl, bin_and, bin_or, bin_xor, len_str, toStr_ofL, bin_add, bin_sub, bin_mul, bin_quo, bin_rem, bin_lss, bin_leq, bin_gtr, bin_geq, bin_eql, bin_neq, eqs_cn, eqs_ci, eqs_cb, eqs_cs, Option.map_some, lenT_ofL, lst_ofL, lstSz_ofL, chunk_one, lst_nil, lst_sl, lstSz_sl, lstSz_nil, Bool.and_true, Bool.true_and, Bool.and_false, Bool.false_and, beq_self_eq_true, beq_bb, bne_bb, un_not, un_neg, conv_int, min2_int, max2_int, w64, w32, wu8, wu16, wu32, wu64, tdiv_nn, tmod_nn, cell_zero, cell_succ, cell_v, cells_v, cells_agg, Bool.not_true, Bool.not_false, Int.reduceLT, Int.reduceLE, Int.reduceEq, Int.reduceNeg, Int.reduceAdd, Int.reduceSub, Int.reduceMul, intOf_v, decide_true, decide_false, h1]; rfl) ?_)
      | (refine ex_bool ?_)
      | (refine ⟨_, C, ?_⟩)
      | (refine ⟨_, CH, ?_⟩)
      | (refine And.intro ?_ ?_)
      | (intro hx; have hprop := (show ∀ (p : Prop), p → True from fun _ _ => True.intro) _ hx; clear hprop; first | (cases hx; done) | (exfalso; revert hx; simp (disch := omega) only [decide_eq_true_eq, decide_eq_false_iff_not, Bool.not_eq_true', Bool.not_eq_false', Bool.and_eq_true, Bool.and_eq_false_iff, Int.not_lt, Int.not_le, ne_eq, not_false_eq_true, not_true_eq_false, reduceCtorEq, Bool.true_eq_false, Bool.false_eq_true, beq_iff_eq, bne_iff_ne, beq_eq_false_iff_ne, false_or, or_false, true_and, and_true, h1]; done) | (simp (disch := omega) only [decide_eq_true_eq, decide_eq_false_iff_not, Bool.not_eq_true', Bool.not_eq_false', Bool.and_eq_true, Bool.and_eq_false_iff, Int.not_lt, Int.not_le, ne_eq, not_false_eq_true, not_true_eq_false, reduceCtorEq, Bool.true_eq_false, Bool.false_eq_true, beq_iff_eq, bne_iff_ne, beq_eq_false_iff_ne, false_or, or_false, true_and, and_true, h1] at hx; first | (exfalso; omega) | skip) | skip)
      | trivial
      | exact fit_ofL _ _
      | (simp (disch := omega) only [notAgg_v, notAgg_sl, plain_v, fits, fitsOne, fitsCells, xsOf, cell_zero, cell_succ, List.range, List.range.loop, List.map, cond_true, cond_false, D.v.injEq, exists_eq', exists_eq, and_self, and_true, true_and, D.agg.injEq, List.length, exists_eq_left', D.sl.injEq, reduceCtorEq, false_or, true_or, or_true, or_false, cell_zero, cell_succ, cell_v, cells_v, cells_agg, List.length_cons, List.length_nil, h1]; done))
    all_goals first
      | (exfalso; omega)
      | exact fit_ofL _ _
      | exact fitC hX
      | exact plainC hX
      | exact plainS hX
      | exact ⟨_, rfl⟩
      | omega
      | rfl
      | (simp only [leftG]; omega)
      | (simp only [ints_length, cls_len, List.length_cons, List.length_nil, List.length_append]; omega)
      | exact plain_ofL (ints_plain _ _)
      | exact plainO
      | (simp only [ch3, cls_len, List.length_cons, List.length_nil]; omega)
      | (simp only [cell_zero, cell_succ, Nat.zero_add, h1]; first | done | exact ⟨_, rfl⟩)
      | (simp only [cell_zero, cell_succ, h1]; simp [D.cells, D.isAgg']; done)
      | (simp only [app_nil, h1]; simp [D.cells, D.isAgg']; done)
      | (simp; done)
      | fail
  · have hG : spareF cs f u = [] := if_neg h0
    have h1 : True := trivial
    rw [hG]
    repeat' (first
      | (refine ex_some (by simp (disch := omega) only [bin_shr, bin_shl, bin_and, bin_or, bin_xor, len_str, toStr_ofL, bin_add, bin_sub, bin_mul, bin_quo, bin_rem, bin_lss, bin_leq, bin_gtr, bin_geq, bin_eql, bin_neq, eqs_cn, eqs_ci, eqs_cb, eqs_cs, Option.map_some, lenT_ofL, lst_ofL, lstSz_ofL, chunk_one, lst_nil, lst_sl, lstSz_sl, lstSz_nil, Bool.and_true, Bool.true_and, Bool.and_false, Bool.false_and, beq_self_eq_true, beq_bb, bne_bb, un_not, un_neg, conv_int, min2_int, max2_int, w64, w32, wu8, wu16, wu32, wu64, tdiv_nn, tmod_nn, cell_zero, cell_succ, cell_v, cells_v, cells_agg, Bool.not_true, Bool.not_false, Int.reduceLT, Int.reduceLE, Int.reduceEq, Int.reduceNeg, Int.reduceAdd, Int.reduceSub, Int.reduceMul, intOf_v, decide_true, decide_false, h1]; rfl) ?_)
      | (refine ex_bool ?_)
      | (refine ⟨_, C, ?_⟩)
      | (refine ⟨_, CH, ?_⟩)
      | (refine And.intro ?_ ?_)
      | (intro hx; have hprop := (show ∀ (p : Prop), p → True from fun _ _ => True.intro) _ hx; clear hprop; first | (cases hx; done) | (exfalso; revert hx; simp (disch := omega) only [decide_eq_true_eq, decide_eq_false_iff_not, Bool.not_eq_true', Bool.not_eq_false', Bool.and_eq_true, Bool.and_eq_false_iff, Int.not_lt, Int.not_le, ne_eq, not_false_eq_true, not_true_eq_false, reduceCtorEq, Bool.true_eq_false, Bool.false_eq_true, beq_iff_eq, bne_iff_ne, beq_eq_false_iff_ne, false_or, or_false, true_and, and_true, h1]; done) | (simp (disch := omega) only [decide_eq_true_eq, decide_eq_false_iff_not, Bool.not_eq_true', Bool.not_eq_false', Bool.and_eq_true, Bool.and_eq_false_iff, Int.not_lt, Int.not_le, ne_eq, not_false_eq_true, not_true_eq_false, reduceCtorEq, Bool.true_eq_false, Bool.false_eq_true, beq_iff_eq, bne_iff_ne, beq_eq_false_iff_ne, false_or, or_false, true_and, and_true, h1] at hx; first | (exfalso; omega) | skip) | skip)
      | trivial
      | exact fit_ofL _ _
      | (simp (disch := omega) only [notAgg_v, notAgg_sl, plain_v, fits, fitsOne, fitsCells, xsOf, cell_zero, cell_succ, List.range, List.range.loop, List.map, cond_true, cond_false, D.v.injEq, exists_eq', exists_eq, and_self, and_true, true_and, D.agg.injEq, List.length, exists_eq_left', D.sl.injEq, reduceCtorEq, false_or, true_or, or_true, or_false, cell_zero, cell_succ, cell_v, cells_v, cells_agg, List.length_cons, List.length_nil, h1]; done))
    all_goals first
      | (exfalso; omega)
      | exact fit_ofL _ _
      | exact fitC hX
      | exact plainC hX
      | exact plainS hX
      | exact ⟨_, rfl⟩
      | omega
      | rfl
      | (simp only [leftG]; omega)
      | (simp only [ints_length, cls_len, List.length_cons, List.length_nil, List.length_append]; omega)
      | exact plain_ofL (ints_plain _ _)
      | exact plainO
      | (simp only [ch3, cls_len, List.length_cons, List.length_nil]; omega)
      | (simp only [cell_zero, cell_succ, Nat.zero_add, h1]; first | done | exact ⟨_, rfl⟩)
      | (simp only [cell_zero, cell_succ, h1]; simp [D.cells, D.isAgg']; done)
      | (simp only [app_nil, h1]; simp [D.cells, D.isAgg']; done)
      | (simp; done)
      | fail

end Go.Proofs.Ytlamjfdghhbkpaa