/-
  Layer 18: the document answers.
-/
import Derived.Test.YtlamjfdghhbkpaaT1
import Derived.Test.YtlamjfdghhbkpaaT2
import Derived.Test.YtlamjfdghhbkpaaT3
import Derived.Test.YtlamjfdghhbkpaaT4
import Derived.Test.YtlamjfdghhbkpaaT5
import Derived.Test.YtlamjfdghhbkpaaT6
import Derived.Test.YtlamjfdghhbkpaaT7
import Derived.Test.YtlamjfdghhbkpaaT8
namespace Go.Proofs.Ytlamjfdghhbkpaa
open Go.RowKit
set_option linter.unusedSimpArgs false
set_option linter.unusedVariables false


theorem vc_rset (x : D) (cs : List Cl) (f u : Int) (z v : Int) : CondR Try.prog (fun _ => none) Try.f14 [.agg [x, .v (.int .i64 f), .v (.int .i64 u)], .v (.int .i64 z), .v (.int .i64 v)] [.agg [reD x (setF cs f u z v), .v (.int .i64 f), .v (.int .i64 u)], .v (.int .i64 (findF cs f u z))] = (((∃ (cs : List D), D.agg [x, D.v (Value.int IntKind.i64 f), D.v (Value.int IntKind.i64 u)] = D.agg cs ∧ cs.length = 3) ∧ NotAgg (D.v (Value.int IntKind.i64 z)) ∧ NotAgg (D.v (Value.int IntKind.i64 v)) ∧ True) ∧ ∃ (r : D), PureD Try.prog 20 [D.agg [x, D.v (Value.int IntKind.i64 f), D.v (Value.int IntKind.i64 u)]] [r] ∧ fits [(false, [none])] [r] ∧ ∃ (r_1 : D), D.bin BinOp.neq r (D.v (Value.int IntKind.i64 0)) = some r_1 ∧ ∃ (b : Bool), r_1 = D.v (Value.bool b) ∧ (b = true → [D.agg [x, D.v (Value.int IntKind.i64 f), D.v (Value.int IntKind.i64 u)], r] = [D.agg [reD x (setF cs f u z v), D.v (Value.int IntKind.i64 f), D.v (Value.int IntKind.i64 u)], D.v (Value.int IntKind.i64 (findF cs f u z))]) ∧ (b = false → ∃ (r : D), PureD Try.prog 32 [D.agg [x, D.v (Value.int IntKind.i64 f), D.v (Value.int IntKind.i64 u)], D.v (Value.int IntKind.i64 z)] [r] ∧ fits [(false, [none])] [r] ∧ ∃ (r_2 : D), D.un UnOp.not r = some r_2 ∧ ∃ (b : Bool), r_2 = D.v (Value.bool b) ∧ (b = true → [D.agg [x, D.v (Value.int IntKind.i64 f), D.v (Value.int IntKind.i64 u)], D.v (Value.int IntKind.i64 6)] = [D.agg [reD x (setF cs f u z v), D.v (Value.int IntKind.i64 f), D.v (Value.int IntKind.i64 u)], D.v (Value.int IntKind.i64 (findF cs f u z))]) ∧ (b = false → ∃ (r : D), PureD Try.prog 30 [D.agg [x, D.v (Value.int IntKind.i64 f), D.v (Value.int IntKind.i64 u)], D.v (Value.int IntKind.i64 z), D.agg [D.v (Value.bool true), D.v (Value.int IntKind.i64 v), D.v (Value.int IntKind.i64 0)]] [r] ∧ fits [(true, [some 3, none, none])] [r] ∧ [D.agg [r.cell 0, r.cell 1, r.cell 2], D.v (Value.int IntKind.i64 0)] = [D.agg [reD x (setF cs f u z v), D.v (Value.int IntKind.i64 f), D.v (Value.int IntKind.i64 u)], D.v (Value.int IntKind.i64 (findF cs f u z))]))) := by kernel_rfl
set_option maxHeartbeats 4000000 in
theorem rset (x : D) (cs : List Cl) (f u : Int) (z v : Int) (hX : IsL 3 (cls cs) x) (hl : cs.length ≤ 100000) : ReadD Try.prog 14 [.agg [x, .v (.int .i64 f), .v (.int .i64 u)], .v (.int .i64 z), .v (.int .i64 v)] [.agg [reD x (setF cs f u z v), .v (.int .i64 f), .v (.int .i64 u)], .v (.int .i64 (findF cs f u z))] := by
  refine read_cond (Lp := (fun _ => none)) (by kernel_rfl) Try.func14 (by kernel_rfl) (by kernel_rfl) ?_
  rw [vc_rset x cs f u z v]
  have C := rcheck x cs f u hX hl
  have LV := live1 x cs f u z hX hl
  rw [← liveB_C] at LV
  have hk := chk_cases cs f u
  have h1 : True := trivial
  by_cases h0 : findF cs f u z = 0
  · have hG : setF cs f u z v = cs.set z.toNat ⟨true, v, 0⟩ := by unfold setF; rw [if_pos h0]
    obtain ⟨hck, hz0, hz1, vl, hc⟩ := find_ok h0
    rw [show liveB cs z = true by unfold liveB; rw [hc, decide_eq_true ⟨hz0, hz1⟩]; rfl] at LV
    have W := withC x cs f u z true v 0 hX hl ⟨hz0, hz1⟩
    rw [hck] at C
    rw [hG, h0]
    repeat' (first
      | (refine ex_some (by simp (disch := omega) only [bin_shr, bin_shl, bin_and, bin_or, bin_xor, len_str, toStr_ofL, bin_add, bin_sub, bin_mul, bin_quo, bin_rem, bin_lss, bin_leq, bin_gtr, bin_geq, bin_eql, bin_neq, eqs_cn, eqs_ci, eqs_cb, eqs_cs, Option.map_some, lenT_ofL, lst_ofL, lstSz_ofL, chunk_one, lst_nil, lst_sl, lstSz_sl, lstSz_nil, Bool.and_true, Bool.true_and, Bool.and_false, Bool.false_and, beq_self_eq_true, beq_bb, bne_bb, un_not, un_neg, conv_int, min2_int, max2_int, w64, w32, wu8, wu16, wu32, wu64, tdiv_nn, tmod_nn, cell_zero, cell_succ, cell_v, cells_v, cells_agg, Bool.not_true, Bool.not_false, Int.reduceLT, Int.reduceLE, Int.reduceEq, Int.reduceNeg, Int.reduceAdd, Int.reduceSub, Int.reduceMul, intOf_v, decide_true, decide_false, h1]; rfl) ?_)
      | (refine ex_bool ?_)
      | (refine ⟨_, C, ?_⟩)
      | (refine ⟨_, LV, ?_⟩)
      | (refine ⟨_, W, ?_⟩)
      | (refine And.intro ?_ ?_)
      | (intro hx; have hprop := (show ∀ (p : Prop), p → True from fun _ _ => True.intro) _ hx; clear hprop; first | (cases hx; done) | (exfalso; revert hx; simp (disch := omega) only [decide_eq_true_eq, decide_eq_false_iff_not, Bool.not_eq_true', Bool.not_eq_false', Bool.and_eq_true, Bool.and_eq_false_iff, Int.not_lt, Int.not_le, ne_eq, not_false_eq_true, not_true_eq_false, reduceCtorEq, Bool.true_eq_false, Bool.false_eq_true, beq_iff_eq, bne_iff_ne, beq_eq_false_iff_ne, false_or, or_false, true_and, and_true, h1]; done) | (simp (disch := omega) only [decide_eq_true_eq, decide_eq_false_iff_not, Bool.not_eq_true', Bool.not_eq_false', Bool.and_eq_true, Bool.and_eq_false_iff, Int.not_lt, Int.not_le, ne_eq, not_false_eq_true, not_true_eq_false, reduceCtorEq, Bool.true_eq_false, Bool.false_eq_true, beq_iff_eq, bne_iff_ne, beq_eq_false_iff_ne, false_or, or_false, true_and, and_true, h1] at hx; first | (exfalso; omega) | skip) | skip)
      | trivial
      | exact fit_ofL _ _
      | (simp (disch := omega) only [notAgg_v, notAgg_sl, plain_v, fits, fitsOne, fitsCells, xsOf, cell_zero, cell_succ, List.range, List.range.loop, List.map, cond_true, cond_false, D.v.injEq, exists_eq', exists_eq, and_self, and_true, true_and, D.agg.injEq, List.length, exists_eq_left', D.sl.injEq, reduceCtorEq, false_or, true_or, or_true, or_false, cell_zero, cell_succ, cell_v, cells_v, cells_agg, List.length_cons, List.length_nil, h1]; done))
    all_goals first
      | (exfalso; omega)
      | exact fit_ofL _ _
      | exact fitC hX
      | exact plainC hX
      | exact plainS hX
      | exact ⟨_, rfl⟩
      | exact ⟨_, rfl, rfl⟩
      | omega
      | rfl
      | (simp only [leftG]; omega)
      | (simp only [ints_length, cls_len, List.length_cons, List.length_nil, List.length_append]; omega)
      | exact plain_ofL (ints_plain _ _)
      | exact plainO
      | (simp only [ch3, cls_len, List.length_cons, List.length_nil]; omega)
      | (simp only [cell_zero, cell_succ, Nat.zero_add, h1]; first | done | exact ⟨_, rfl⟩)
      | (simp only [cell_zero, cell_succ, h1]; simp [D.cells, D.isAgg']; done)
      | (simp only [cell_zero]; exact fitRe hX)
      | (simp; done)
      | fail
  · have hG : setF cs f u z v = cs := by unfold setF; rw [if_neg h0]
    rw [hG, reD_self hX]
    by_cases hck : chkF cs f u = 0
    · have hlv : liveB cs z = false := by cases e : liveB cs z; rfl; exact absurd (by unfold findF; rw [if_neg (by omega), if_pos e]) h0
      have hF : findF cs f u z = 6 := by unfold findF; rw [if_neg (by omega), if_neg (by rw [hlv]; simp)]
      rw [hF]
      rw [hlv] at LV
      rw [hck] at C
      repeat' (first
        | (refine ex_some (by simp (disch := omega) only [bin_shr, bin_shl, bin_and, bin_or, bin_xor, len_str, toStr_ofL, bin_add, bin_sub, bin_mul, bin_quo, bin_rem, bin_lss, bin_leq, bin_gtr, bin_geq, bin_eql, bin_neq, eqs_cn, eqs_ci, eqs_cb, eqs_cs, Option.map_some, lenT_ofL, lst_ofL, lstSz_ofL, chunk_one, lst_nil, lst_sl, lstSz_sl, lstSz_nil, Bool.and_true, Bool.true_and, Bool.and_false, Bool.false_and, beq_self_eq_true, beq_bb, bne_bb, un_not, un_neg, conv_int, min2_int, max2_int, w64, w32, wu8, wu16, wu32, wu64, tdiv_nn, tmod_nn, cell_zero, cell_succ, cell_v, cells_v, cells_agg, Bool.not_true, Bool.not_false, Int.reduceLT, Int.reduceLE, Int.reduceEq, Int.reduceNeg, Int.reduceAdd, Int.reduceSub, Int.reduceMul, intOf_v, decide_true, decide_false, h1]; rfl) ?_)
        | (refine ex_bool ?_)
        | (refine ⟨_, C, ?_⟩)
        | (refine ⟨_, LV, ?_⟩)
        | (refine ⟨_, W, ?_⟩)
        | (refine And.intro ?_ ?_)
        | (intro hx; have hprop := (show ∀ (p : Prop), p → True from fun _ _ => True.intro) _ hx; clear hprop; first | (cases hx; done) | (exfalso; revert hx; simp (disch := omega) only [decide_eq_true_eq, decide_eq_false_iff_not, Bool.not_eq_true', Bool.not_eq_false', Bool.and_eq_true, Bool.and_eq_false_iff, Int.not_lt, Int.not_le, ne_eq, not_false_eq_true, not_true_eq_false, reduceCtorEq, Bool.true_eq_false, Bool.false_eq_true, beq_iff_eq, bne_iff_ne, beq_eq_false_iff_ne, false_or, or_false, true_and, and_true, h1]; done) | (simp (disch := omega) only [decide_eq_true_eq, decide_eq_false_iff_not, Bool.not_eq_true', Bool.not_eq_false', Bool.and_eq_true, Bool.and_eq_false_iff, Int.not_lt, Int.not_le, ne_eq, not_false_eq_true, not_true_eq_false, reduceCtorEq, Bool.true_eq_false, Bool.false_eq_true, beq_iff_eq, bne_iff_ne, beq_eq_false_iff_ne, false_or, or_false, true_and, and_true, h1] at hx; first | (exfalso; omega) | skip) | skip)
        | trivial
        | exact fit_ofL _ _
        | (simp (disch := omega) only [notAgg_v, notAgg_sl, plain_v, fits, fitsOne, fitsCells, xsOf, cell_zero, cell_succ, List.range, List.range.loop, List.map, cond_true, cond_false, D.v.injEq, exists_eq', exists_eq, and_self, and_true, true_and, D.agg.injEq, List.length, exists_eq_left', D.sl.injEq, reduceCtorEq, false_or, true_or, or_true, or_false, cell_zero, cell_succ, cell_v, cells_v, cells_agg, List.length_cons, List.length_nil, h1]; done))
      all_goals first
        | (exfalso; omega)
        | exact fit_ofL _ _
        | exact fitC hX
        | exact plainC hX
        | exact plainS hX
        | exact ⟨_, rfl⟩
        | exact ⟨_, rfl, rfl⟩
        | omega
        | rfl
        | (simp only [leftG]; omega)
        | (simp only [ints_length, cls_len, List.length_cons, List.length_nil, List.length_append]; omega)
        | exact plain_ofL (ints_plain _ _)
        | exact plainO
        | (simp only [ch3, cls_len, List.length_cons, List.length_nil]; omega)
        | (simp only [cell_zero, cell_succ, Nat.zero_add, h1]; first | done | exact ⟨_, rfl⟩)
        | (simp only [cell_zero, cell_succ, h1]; simp [D.cells, D.isAgg']; done)
        | (simp only [cell_zero]; exact fitRe hX)
        | (simp; done)
        | fail
    · have hF : findF cs f u z = chkF cs f u := by unfold findF; rw [if_pos hck]
      rw [hF]
      repeat' (first
        | (refine ex_some (by simp (disch := omega) only [bin_shr, bin_shl, bin_and, bin_or, bin_xor, len_str, toStr_ofL, bin_add, bin_sub, bin_mul, bin_quo, bin_rem, bin_lss, bin_leq, bin_gtr, bin_geq, bin_eql, bin_neq, eqs_cn, eqs_ci, eqs_cb, eqs_cs, Option.map_some, lenT_ofL, lst_ofL, lstSz_ofL, chunk_one, lst_nil, lst_sl, lstSz_sl, lstSz_nil, Bool.and_true, Bool.true_and, Bool.and_false, Bool.false_and, beq_self_eq_true, beq_bb, bne_bb, un_not, un_neg, conv_int, min2_int, max2_int, w64, w32, wu8, wu16, wu32, wu64, tdiv_nn, tmod_nn, cell_zero, cell_succ, cell_v, cells_v, cells_agg, Bool.not_true, Bool.not_false, Int.reduceLT, Int.reduceLE, Int.reduceEq, Int.reduceNeg, Int.reduceAdd, Int.reduceSub, Int.reduceMul, intOf_v, decide_true, decide_false, h1]; rfl) ?_)
        | (refine ex_bool ?_)
        | (refine ⟨_, C, ?_⟩)
        | (refine ⟨_, LV, ?_⟩)
        | (refine ⟨_, W, ?_⟩)
        | (refine And.intro ?_ ?_)
        | (intro hx; have hprop := (show ∀ (p : Prop), p → True from fun _ _ => True.intro) _ hx; clear hprop; first | (cases hx; done) | (exfalso; revert hx; simp (disch := omega) only [decide_eq_true_eq, decide_eq_false_iff_not, Bool.not_eq_true', Bool.not_eq_false', Bool.and_eq_true, Bool.and_eq_false_iff, Int.not_lt, Int.not_le, ne_eq, not_false_eq_true, not_true_eq_false, reduceCtorEq, Bool.true_eq_false, Bool.false_eq_true, beq_iff_eq, bne_iff_ne, beq_eq_false_iff_ne, false_or, or_false, true_and, and_true, h1]; done) | (simp (disch := omega) only [decide_eq_true_eq, decide_eq_false_iff_not, Bool.not_eq_true', Bool.not_eq_false', Bool.and_eq_true, Bool.and_eq_false_iff, Int.not_lt, Int.not_le, ne_eq, not_false_eq_true, not_true_eq_false, reduceCtorEq, Bool.true_eq_false, Bool.false_eq_true, beq_iff_eq, bne_iff_ne, beq_eq_false_iff_ne, false_or, or_false, true_and, and_true, h1] at hx; first | (exfalso; omega) | skip) | skip)
        | trivial
        | exact fit_ofL _ _
        | (simp (disch := omega) only [notAgg_v, notAgg_sl, plain_v, fits, fitsOne, fitsCells, xsOf, cell_zero, cell_succ, List.range, List.range.loop, List.map, cond_true, cond_false, D.v.injEq, exists_eq', exists_eq, and_self, and_true, true_and, D.agg.injEq, List.length, exists_eq_left', D.sl.injEq, reduceCtorEq, false_or, true_or, or_true, or_false, cell_zero, cell_succ, cell_v, cells_v, cells_agg, List.length_cons, List.length_nil, h1]; done))
      all_goals first
        | (exfalso; omega)
        | exact fit_ofL _ _
        | exact fitC hX
        | exact plainC hX
        | exact plainS hX
        | exact ⟨_, rfl⟩
        | exact ⟨_, rfl, rfl⟩
        | omega
        | rfl
        | (simp only [leftG]; omega)
        | (simp only [ints_length, cls_len, List.length_cons, List.length_nil, List.length_append]; omega)
        | exact plain_ofL (ints_plain _ _)
        | exact plainO
        | (simp only [ch3, cls_len, List.length_cons, List.length_nil]; omega)
        | (simp only [cell_zero, cell_succ, Nat.zero_add, h1]; first | done | exact ⟨_, rfl⟩)
        | (simp only [cell_zero, cell_succ, h1]; simp [D.cells, D.isAgg']; done)
        | (simp only [cell_zero]; exact fitRe hX)
        | (simp; done)
        | fail

theorem vc_rgive (x : D) (cs : List Cl) (f u : Int) (z : Int) : CondR Try.prog (fun _ => none) Try.f12 [.agg [x, .v (.int .i64 f), .v (.int .i64 u)], .v (.int .i64 z)] [.agg [reD x (giveF cs f u z).1, .v (.int .i64 (giveF cs f u z).2.1), .v (.int .i64 (giveF cs f u z).2.2)], .v (.int .i64 (findF cs f u z))] = (((∃ (cs : List D), D.agg [x, D.v (Value.int IntKind.i64 f), D.v (Value.int IntKind.i64 u)] = D.agg cs ∧ cs.length = 3) ∧ NotAgg (D.v (Value.int IntKind.i64 z)) ∧ True) ∧ ∃ (r : D), PureD Try.prog 20 [D.agg [x, D.v (Value.int IntKind.i64 f), D.v (Value.int IntKind.i64 u)]] [r] ∧ fits [(false, [none])] [r] ∧ ∃ (r_1 : D), D.bin BinOp.neq r (D.v (Value.int IntKind.i64 0)) = some r_1 ∧ ∃ (b : Bool), r_1 = D.v (Value.bool b) ∧ (b = true → [D.agg [x, D.v (Value.int IntKind.i64 f), D.v (Value.int IntKind.i64 u)], r] = [D.agg [reD x (giveF cs f u z).1, D.v (Value.int IntKind.i64 (giveF cs f u z).snd.fst), D.v (Value.int IntKind.i64 (giveF cs f u z).snd.snd)], D.v (Value.int IntKind.i64 (findF cs f u z))]) ∧ (b = false → ∃ (r : D), PureD Try.prog 32 [D.agg [x, D.v (Value.int IntKind.i64 f), D.v (Value.int IntKind.i64 u)], D.v (Value.int IntKind.i64 z)] [r] ∧ fits [(false, [none])] [r] ∧ ∃ (r_2 : D), D.un UnOp.not r = some r_2 ∧ ∃ (b : Bool), r_2 = D.v (Value.bool b) ∧ (b = true → [D.agg [x, D.v (Value.int IntKind.i64 f), D.v (Value.int IntKind.i64 u)], D.v (Value.int IntKind.i64 6)] = [D.agg [reD x (giveF cs f u z).1, D.v (Value.int IntKind.i64 (giveF cs f u z).snd.fst), D.v (Value.int IntKind.i64 (giveF cs f u z).snd.snd)], D.v (Value.int IntKind.i64 (findF cs f u z))]) ∧ (b = false → ∃ (r : D), PureD Try.prog 30 [D.agg [x, D.v (Value.int IntKind.i64 f), D.v (Value.int IntKind.i64 u)], D.v (Value.int IntKind.i64 z), D.agg [D.v (Value.bool false), D.v (Value.int IntKind.i64 0), D.v (Value.int IntKind.i64 f)]] [r] ∧ fits [(true, [some 3, none, none])] [r] ∧ ∃ (r_3 : D), D.bin BinOp.sub (r.cell 2) (D.v (Value.int IntKind.i64 1)) = some r_3 ∧ [D.agg [r.cell 0, D.v (Value.int IntKind.i64 z), r_3], D.v (Value.int IntKind.i64 0)] = [D.agg [reD x (giveF cs f u z).1, D.v (Value.int IntKind.i64 (giveF cs f u z).snd.fst), D.v (Value.int IntKind.i64 (giveF cs f u z).snd.snd)], D.v (Value.int IntKind.i64 (findF cs f u z))]))) := by kernel_rfl
set_option maxHeartbeats 4000000 in
theorem rgive (x : D) (cs : List Cl) (f u : Int) (z : Int) (hX : IsL 3 (cls cs) x) (hl : cs.length ≤ 100000) : ReadD Try.prog 12 [.agg [x, .v (.int .i64 f), .v (.int .i64 u)], .v (.int .i64 z)] [.agg [reD x (giveF cs f u z).1, .v (.int .i64 (giveF cs f u z).2.1), .v (.int .i64 (giveF cs f u z).2.2)], .v (.int .i64 (findF cs f u z))] := by
  refine read_cond (Lp := (fun _ => none)) (by kernel_rfl) Try.func12 (by kernel_rfl) (by kernel_rfl) ?_
  rw [vc_rgive x cs f u z]
  have C := rcheck x cs f u hX hl
  have LV := live1 x cs f u z hX hl
  rw [← liveB_C] at LV
  have hk := chk_cases cs f u
  have h1 : True := trivial
  by_cases h0 : findF cs f u z = 0
  · have hG : giveF cs f u z = (cs.set z.toNat ⟨false, 0, f⟩, z, u - 1) := by unfold giveF; rw [if_pos h0]
    obtain ⟨hck, hz0, hz1, vl, hc⟩ := find_ok h0
    rw [show liveB cs z = true by unfold liveB; rw [hc, decide_eq_true ⟨hz0, hz1⟩]; rfl] at LV
    have W := withC x cs f u z false 0 f hX hl ⟨hz0, hz1⟩
    have hok := chk_ok hck
    have hp := cnt_pos (cs := cs) (k := z.toNat) (by omega) (by rw [hc])
    have hcl := cnt_le cs
    have hu := hok.2.2.2.2.1
    rw [hck] at C
    rw [hG, h0]
    repeat' (first
      | (refine ex_some (by simp (disch := omega) only [bin_shr, bin_shl, bin_and, bin_or, bin_xor, len_str, toStr_ofL, bin_add, bin_sub, bin_mul, bin_quo, bin_rem, bin_lss, bin_leq, bin_gtr, bin_geq, bin_eql, bin_neq, eqs_cn, eqs_ci, eqs_cb, eqs_cs, Option.map_some, lenT_ofL, lst_ofL, lstSz_ofL, chunk_one, lst_nil, lst_sl, lstSz_sl, lstSz_nil, Bool.and_true, Bool.true_and, Bool.and_false, Bool.false_and, beq_self_eq_true, beq_bb, bne_bb, un_not, un_neg, conv_int, min2_int, max2_int, w64, w32, wu8, wu16, wu32, wu64, tdiv_nn, tmod_nn, cell_zero, cell_succ, cell_v, cells_v, cells_agg, Bool.not_true, Bool.not_false, Int.reduceLT, Int.reduceLE, Int.reduceEq, Int.reduceNeg, Int.reduceAdd, Int.reduceSub, Int.reduceMul, intOf_v, decide_true, decide_false, h1]; rfl) ?_)
      | (refine ex_bool ?_)
      | (refine ⟨_, C, ?_⟩)
      | (refine ⟨_, LV, ?_⟩)
      | (refine ⟨_, W, ?_⟩)
      | (refine And.intro ?_ ?_)
      | (intro hx; have hprop := (show ∀ (p : Prop), p → True from fun _ _ => True.intro) _ hx; clear hprop; first | (cases hx; done) | (exfalso; revert hx; simp (disch := omega) only [decide_eq_true_eq, decide_eq_false_iff_not, Bool.not_eq_true', Bool.not_eq_false', Bool.and_eq_true, Bool.and_eq_false_iff, Int.not_lt, Int.not_le, ne_eq, not_false_eq_true, not_true_eq_false, reduceCtorEq, Bool.true_eq_false, Bool.false_eq_true, beq_iff_eq, bne_iff_ne, beq_eq_false_iff_ne, false_or, or_false, true_and, and_true, h1]; done) | (simp (disch := omega) only [decide_eq_true_eq, decide_eq_false_iff_not, Bool.not_eq_true', Bool.not_eq_false', Bool.and_eq_true, Bool.and_eq_false_iff, Int.not_lt, Int.not_le, ne_eq, not_false_eq_true, not_true_eq_false, reduceCtorEq, Bool.true_eq_false, Bool.false_eq_true, beq_iff_eq, bne_iff_ne, beq_eq_false_iff_ne, false_or, or_false, true_and, and_true, h1] at hx; first | (exfalso; omega) | skip) | skip)
      | trivial
      | exact fit_ofL _ _
      | (simp (disch := omega) only [notAgg_v, notAgg_sl, plain_v, fits, fitsOne, fitsCells, xsOf, cell_zero, cell_succ, List.range, List.range.loop, List.map, cond_true, cond_false, D.v.injEq, exists_eq', exists_eq, and_self, and_true, true_and, D.agg.injEq, List.length, exists_eq_left', D.sl.injEq, reduceCtorEq, false_or, true_or, or_true, or_false, cell_zero, cell_succ, cell_v, cells_v, cells_agg, List.length_cons, List.length_nil, h1]; done))
    all_goals first
      | (exfalso; omega)
      | exact fit_ofL _ _
      | exact fitC hX
      | exact plainC hX
      | exact plainS hX
      | exact ⟨_, rfl⟩
      | exact ⟨_, rfl, rfl⟩
      | omega
      | rfl
      | (simp only [leftG]; omega)
      | (simp only [ints_length, cls_len, List.length_cons, List.length_nil, List.length_append]; omega)
      | exact plain_ofL (ints_plain _ _)
      | exact plainO
      | (simp only [ch3, cls_len, List.length_cons, List.length_nil]; omega)
      | (simp only [cell_zero, cell_succ, Nat.zero_add, h1]; first | done | exact ⟨_, rfl⟩)
      | (simp only [cell_zero, cell_succ, h1]; simp [D.cells, D.isAgg']; done)
      | (simp only [cell_zero]; exact fitRe hX)
      | (simp; done)
      | fail
  · have hG : giveF cs f u z = (cs, f, u) := by unfold giveF; rw [if_neg h0]
    rw [hG]
    simp only
    rw [reD_self hX]
    by_cases hck : chkF cs f u = 0
    · have hlv : liveB cs z = false := by cases e : liveB cs z; rfl; exact absurd (by unfold findF; rw [if_neg (by omega), if_pos e]) h0
      have hF : findF cs f u z = 6 := by unfold findF; rw [if_neg (by omega), if_neg (by rw [hlv]; simp)]
      rw [hF]
      rw [hlv] at LV
      rw [hck] at C
      repeat' (first
        | (refine ex_some (by simp (disch := omega) only [bin_shr, bin_shl, bin_and, bin_or, bin_xor, len_str, toStr_ofL, bin_add, bin_sub, bin_mul, bin_quo, bin_rem, bin_lss, bin_leq, bin_gtr, bin_geq, bin_eql, bin_neq, eqs_cn, eqs_ci, eqs_cb, eqs_cs, Option.map_some, lenT_ofL, lst_ofL, lstSz_ofL, chunk_one, lst_nil, lst_sl, lstSz_sl, lstSz_nil, Bool.and_true, Bool.true_and, Bool.and_false, Bool.false_and, beq_self_eq_true, beq_bb, bne_bb, un_not, un_neg, conv_int, min2_int, max2_int, w64, w32, wu8, wu16, wu32, wu64, tdiv_nn, tmod_nn, cell_zero, cell_succ, cell_v, cells_v, cells_agg, Bool.not_true, Bool.not_false, Int.reduceLT, Int.reduceLE, Int.reduceEq, Int.reduceNeg, Int.reduceAdd, Int.reduceSub, Int.reduceMul, intOf_v, decide_true, decide_false, h1]; rfl) ?_)
        | (refine ex_bool ?_)
        | (refine ⟨_, C, ?_⟩)
        | (refine ⟨_, LV, ?_⟩)
        | (refine ⟨_, W, ?_⟩)
        | (refine And.intro ?_ ?_)
        | (intro hx; have hprop := (show ∀ (p : Prop), p → True from fun _ _ => True.intro) _ hx; clear hprop; first | (cases hx; done) | (exfalso; revert hx; simp (disch := omega) only [decide_eq_true_eq, decide_eq_false_iff_not, Bool.not_eq_true', Bool.not_eq_false', Bool.and_eq_true, Bool.and_eq_false_iff, Int.not_lt, Int.not_le, ne_eq, not_false_eq_true, not_true_eq_false, reduceCtorEq, Bool.true_eq_false, Bool.false_eq_true, beq_iff_eq, bne_iff_ne, beq_eq_false_iff_ne, false_or, or_false, true_and, and_true, h1]; done) | (simp (disch := omega) only [decide_eq_true_eq, decide_eq_false_iff_not, Bool.not_eq_true', Bool.not_eq_false', Bool.and_eq_true, Bool.and_eq_false_iff, Int.not_lt, Int.not_le, ne_eq, not_false_eq_true, not_true_eq_false, reduceCtorEq, Bool.true_eq_false, Bool.false_eq_true, beq_iff_eq, bne_iff_ne, beq_eq_false_iff_ne, false_or, or_false, true_and, and_true, h1] at hx; first | (exfalso; omega) | skip) | skip)
        | trivial
        | exact fit_ofL _ _
        | (simp (disch := omega) only [notAgg_v, notAgg_sl, plain_v, fits, fitsOne, fitsCells, xsOf, cell_zero, cell_succ, List.range, List.range.loop, List.map, cond_true, cond_false, D.v.injEq, exists_eq', exists_eq, and_self, and_true, true_and, D.agg.injEq, List.length, exists_eq_left', D.sl.injEq, reduceCtorEq, false_or, true_or, or_true, or_false, cell_zero, cell_succ, cell_v, cells_v, cells_agg, List.length_cons, List.length_nil, h1]; done))
      all_goals first
        | (exfalso; omega)
        | exact fit_ofL _ _
        | exact fitC hX
        | exact plainC hX
        | exact plainS hX
        | exact ⟨_, rfl⟩
        | exact ⟨_, rfl, rfl⟩
        | omega
        | rfl
        | (simp only [leftG]; omega)
        | (simp only [ints_length, cls_len, List.length_cons, List.length_nil, List.length_append]; omega)
        | exact plain_ofL (ints_plain _ _)
        | exact plainO
        | (simp only [ch3, cls_len, List.length_cons, List.length_nil]; omega)
        | (simp only [cell_zero, cell_succ, Nat.zero_add, h1]; first | done | exact ⟨_, rfl⟩)
        | (simp only [cell_zero, cell_succ, h1]; simp [D.cells, D.isAgg']; done)
        | (simp only [cell_zero]; exact fitRe hX)
        | (simp; done)
        | fail
    · have hF : findF cs f u z = chkF cs f u := by unfold findF; rw [if_pos hck]
      rw [hF]
      repeat' (first
        | (refine ex_some (by simp (disch := omega) only [bin_shr, bin_shl, bin_and, bin_or, bin_xor, len_str, toStr_ofL, bin_add, bin_sub, bin_mul, bin_quo, bin_rem, bin_lss, bin_leq, bin_gtr, bin_geq, bin_eql, bin_neq, eqs_cn, eqs_ci, eqs_cb, eqs_cs, Option.map_some, lenT_ofL, lst_ofL, lstSz_ofL, chunk_one, lst_nil, lst_sl, lstSz_sl, lstSz_nil, Bool.and_true, Bool.true_and, Bool.and_false, Bool.false_and, beq_self_eq_true, beq_bb, bne_bb, un_not, un_neg, conv_int, min2_int, max2_int, w64, w32, wu8, wu16, wu32, wu64, tdiv_nn, tmod_nn, cell_zero, cell_succ, cell_v, cells_v, cells_agg, Bool.not_true, Bool.not_false, Int.reduceLT, Int.reduceLE, Int.reduceEq, Int.reduceNeg, Int.reduceAdd, Int.reduceSub, Int.reduceMul, intOf_v, decide_true, decide_false, h1]; rfl) ?_)
        | (refine ex_bool ?_)
        | (refine ⟨_, C, ?_⟩)
        | (refine ⟨_, LV, ?_⟩)
        | (refine ⟨_, W, ?_⟩)
        | (refine And.intro ?_ ?_)
        | (intro hx; have hprop := (show ∀ (p : Prop), p → True from fun _ _ => True.intro) _ hx; clear hprop; first | (cases hx; done) | (exfalso; revert hx; simp (disch := omega) only [decide_eq_true_eq, decide_eq_false_iff_not, Bool.not_eq_true', Bool.not_eq_false', Bool.and_eq_true, Bool.and_eq_false_iff, Int.not_lt, Int.not_le, ne_eq, not_false_eq_true, not_true_eq_false, reduceCtorEq, Bool.true_eq_false, Bool.false_eq_true, beq_iff_eq, bne_iff_ne, beq_eq_false_iff_ne, false_or, or_false, true_and, and_true, h1]; done) | (simp (disch := omega) only [decide_eq_true_eq, decide_eq_false_iff_not, Bool.not_eq_true', Bool.not_eq_false', Bool.and_eq_true, Bool.and_eq_false_iff, Int.not_lt, Int.not_le, ne_eq, not_false_eq_true, not_true_eq_false, reduceCtorEq, Bool.true_eq_false, Bool.false_eq_true, beq_iff_eq, bne_iff_ne, beq_eq_false_iff_ne, false_or, or_false, true_and, and_true, h1] at hx; first | (exfalso; omega) | skip) | skip)
        | trivial
        | exact fit_ofL _ _
        | (simp (disch := omega) only [notAgg_v, notAgg_sl, plain_v, fits, fitsOne, fitsCells, xsOf, cell_zero, cell_succ, List.range, List.range.loop, List.map, cond_true, cond_false, D.v.injEq, exists_eq', exists_eq, and_self, and_true, true_and, D.agg.injEq, List.length, exists_eq_left', D.sl.injEq, reduceCtorEq, false_or, true_or, or_true, or_false, cell_zero, cell_succ, cell_v, cells_v, cells_agg, List.length_cons, List.length_nil, h1]; done))
      all_goals first
        | (exfalso; omega)
        | exact fit_ofL _ _
        | exact fitC hX
        | exact plainC hX
        | exact plainS hX
        | exact ⟨_, rfl⟩
        | exact ⟨_, rfl, rfl⟩
        | omega
        | rfl
        | (simp only [leftG]; omega)
        | (simp only [ints_length, cls_len, List.length_cons, List.length_nil, List.length_append]; omega)
        | exact plain_ofL (ints_plain _ _)
        | exact plainO
        | (simp only [ch3, cls_len, List.length_cons, List.length_nil]; omega)
        | (simp only [cell_zero, cell_succ, Nat.zero_add, h1]; first | done | exact ⟨_, rfl⟩)
        | (simp only [cell_zero, cell_succ, h1]; simp [D.cells, D.isAgg']; done)
        | (simp only [cell_zero]; exact fitRe hX)
        | (simp; done)
        | fail

theorem vc_rtake (x : D) (cs : List Cl) (f u : Int) (v : Int) : CondR Try.prog (fun _ => none) Try.f10 [.agg [x, .v (.int .i64 f), .v (.int .i64 u)], .v (.int .i64 v)] [.agg [reD x (takeF cs f u v).1, .v (.int .i64 (takeF cs f u v).2.1), .v (.int .i64 (takeF cs f u v).2.2.1)], .v (.int .i64 (takeF cs f u v).2.2.2.1), .v (.int .i64 (takeF cs f u v).2.2.2.2)] = (((∃ (cs : List D), D.agg [x, D.v (Value.int IntKind.i64 f), D.v (Value.int IntKind.i64 u)] = D.agg cs ∧ cs.length = 3) ∧ NotAgg (D.v (Value.int IntKind.i64 v)) ∧ True) ∧ ∃ (r : D), PureD Try.prog 20 [D.agg [x, D.v (Value.int IntKind.i64 f), D.v (Value.int IntKind.i64 u)]] [r] ∧ fits [(false, [none])] [r] ∧ ∃ (r_1 : D), D.bin BinOp.neq r (D.v (Value.int IntKind.i64 0)) = some r_1 ∧ ∃ (b : Bool), r_1 = D.v (Value.bool b) ∧ (b = true → [D.agg [x, D.v (Value.int IntKind.i64 f), D.v (Value.int IntKind.i64 u)], D.v (Value.int IntKind.i64 0), r] = [D.agg [reD x (takeF cs f u v).1, D.v (Value.int IntKind.i64 (takeF cs f u v).snd.fst), D.v (Value.int IntKind.i64 (takeF cs f u v).snd.snd.fst)], D.v (Value.int IntKind.i64 (takeF cs f u v).snd.snd.snd.fst), D.v (Value.int IntKind.i64 (takeF cs f u v).snd.snd.snd.snd)]) ∧ (b = false → ∃ (r : D), D.bin BinOp.geq (D.v (Value.int IntKind.i64 u)) (D.v (Value.int IntKind.i64 64)) = some r ∧ ∃ (b : Bool), r = D.v (Value.bool b) ∧ (b = true → [D.agg [x, D.v (Value.int IntKind.i64 f), D.v (Value.int IntKind.i64 u)], D.v (Value.int IntKind.i64 0), D.v (Value.int IntKind.i64 7)] = [D.agg [reD x (takeF cs f u v).1, D.v (Value.int IntKind.i64 (takeF cs f u v).snd.fst), D.v (Value.int IntKind.i64 (takeF cs f u v).snd.snd.fst)], D.v (Value.int IntKind.i64 (takeF cs f u v).snd.snd.snd.fst), D.v (Value.int IntKind.i64 (takeF cs f u v).snd.snd.snd.snd)]) ∧ (b = false → ∃ (r : D), D.bin BinOp.add (D.v (Value.int IntKind.i64 u)) (D.v (Value.int IntKind.i64 1)) = some r ∧ ∃ (r_2 : D), D.bin BinOp.lss (D.v (Value.int IntKind.i64 f)) (D.v (Value.int IntKind.i64 0)) = some r_2 ∧ ∃ (b : Bool), r_2 = D.v (Value.bool b) ∧ (b = true → ∃ (ls : List D), (D.v nilS).lst = some ls ∧ ∃ (lx : List D), D.lstSz 3 x = some lx ∧ (ls.length + lx.length) * 24 ≤ 1099511627776 ∧ ∃ (ls : List D), (D.app 3 (D.v nilS) lx).lst = some ls ∧ ∃ (lx_1 : List D), D.lstSz 3 (D.sl 3 (chunks true 3 1 [D.v (Value.bool true), D.v (Value.int IntKind.i64 v), D.v (Value.int IntKind.i64 0)])) = some lx_1 ∧ (ls.length + lx_1.length) * 24 ≤ 1099511627776 ∧ ∃ (r_3 : D), D.lenT (TypeDesc.slice 63) (D.app 3 (D.app 3 (D.v nilS) lx) lx_1) = some r_3 ∧ ∃ (r_4 : D), D.bin BinOp.sub r_3 (D.v (Value.int IntKind.i64 1)) = some r_4 ∧ [D.agg [D.app 3 (D.app 3 (D.v nilS) lx) lx_1, D.v (Value.int IntKind.i64 f), r], r_4, D.v (Value.int IntKind.i64 0)] = [D.agg [reD x (takeF cs f u v).1, D.v (Value.int IntKind.i64 (takeF cs f u v).snd.fst), D.v (Value.int IntKind.i64 (takeF cs f u v).snd.snd.fst)], D.v (Value.int IntKind.i64 (takeF cs f u v).snd.snd.snd.fst), D.v (Value.int IntKind.i64 (takeF cs f u v).snd.snd.snd.snd)]) ∧ (b = false → D.inb 3 x (D.v (Value.int IntKind.i64 f)) ∧ 1 + 1 + 1 ≤ (x.at_ (D.v (Value.int IntKind.i64 f))).cells.length ∧ ∃ (r_3 : D), PureD Try.prog 30 [D.agg [x, (x.at_ (D.v (Value.int IntKind.i64 f))).cell (1 + 1), r], D.v (Value.int IntKind.i64 f), D.agg [D.v (Value.bool true), D.v (Value.int IntKind.i64 v), D.v (Value.int IntKind.i64 0)]] [r_3] ∧ fits [(true, [some 3, none, none])] [r_3] ∧ [D.agg [r_3.cell 0, r_3.cell 1, r_3.cell 2], D.v (Value.int IntKind.i64 f), D.v (Value.int IntKind.i64 0)] = [D.agg [reD x (takeF cs f u v).1, D.v (Value.int IntKind.i64 (takeF cs f u v).snd.fst), D.v (Value.int IntKind.i64 (takeF cs f u v).snd.snd.fst)], D.v (Value.int IntKind.i64 (takeF cs f u v).snd.snd.snd.fst), D.v (Value.int IntKind.i64 (takeF cs f u v).snd.snd.snd.snd)])))) := by kernel_rfl
set_option maxHeartbeats 4000000 in
theorem rtake (x : D) (cs : List Cl) (f u : Int) (v : Int) (hX : IsL 3 (cls cs) x) (hl : cs.length ≤ 100000) : ReadD Try.prog 10 [.agg [x, .v (.int .i64 f), .v (.int .i64 u)], .v (.int .i64 v)] [.agg [reD x (takeF cs f u v).1, .v (.int .i64 (takeF cs f u v).2.1), .v (.int .i64 (takeF cs f u v).2.2.1)], .v (.int .i64 (takeF cs f u v).2.2.2.1), .v (.int .i64 (takeF cs f u v).2.2.2.2)] := by
  refine read_cond (Lp := (fun _ => none)) (by kernel_rfl) Try.func10 (by kernel_rfl) (by kernel_rfl) ?_
  rw [vc_rtake x cs f u v]
  have C := rcheck x cs f u hX hl
  have hk := chk_cases cs f u
  by_cases h0 : chkF cs f u = 0
  · rw [h0] at C
    obtain ⟨hok1, hok2, hok3, hok4, hok5, hok6⟩ := chk_ok h0
    have hcl := cnt_le cs
    simp only [linkB, decide_eq_true_eq] at hok2
    by_cases h64 : 64 ≤ u
    · have hG : takeF cs f u v = (cs, f, u, 0, 7) := by unfold takeF; rw [if_neg (by omega), if_pos h64]
      have h1 : True := trivial
      have s1 : True := trivial
      rw [hG]
      simp only
      rw [reD_self hX]
      repeat' (first
        | (refine ex_some (by simp (disch := omega) only [bin_shr, bin_shl, bin_and, bin_or, bin_xor, len_str, toStr_ofL, bin_add, bin_sub, bin_mul, bin_quo, bin_rem, bin_lss, bin_leq, bin_gtr, bin_geq, bin_eql, bin_neq, eqs_cn, eqs_ci, eqs_cb, eqs_cs, Option.map_some, lenT_ofL, lst_ofL, lstSz_ofL, chunk_one, lst_nil, lst_sl, lstSz_sl, lstSz_nil, Bool.and_true, Bool.true_and, Bool.and_false, Bool.false_and, beq_self_eq_true, beq_bb, bne_bb, un_not, un_neg, conv_int, min2_int, max2_int, w64, w32, wu8, wu16, wu32, wu64, tdiv_nn, tmod_nn, cell_zero, cell_succ, cell_v, cells_v, cells_agg, Bool.not_true, Bool.not_false, Int.reduceLT, Int.reduceLE, Int.reduceEq, Int.reduceNeg, Int.reduceAdd, Int.reduceSub, Int.reduceMul, intOf_v, decide_true, decide_false, hX.lst, hX.lstSz, cls_len, ch3, app_nil, app_ofL]; rfl) ?_)
        | (refine ex_bool ?_)
        | (refine ⟨_, C, ?_⟩)
        | (refine ⟨_, W, ?_⟩)
        | (exact i1)
        | (refine And.intro ?_ ?_)
        | (intro hx; have hprop := (show ∀ (p : Prop), p → True from fun _ _ => True.intro) _ hx; clear hprop; first | (cases hx; done) | (exfalso; revert hx; simp (disch := omega) only [decide_eq_true_eq, decide_eq_false_iff_not, Bool.not_eq_true', Bool.not_eq_false', Bool.and_eq_true, Bool.and_eq_false_iff, Int.not_lt, Int.not_le, ne_eq, not_false_eq_true, not_true_eq_false, reduceCtorEq, Bool.true_eq_false, Bool.false_eq_true, beq_iff_eq, bne_iff_ne, beq_eq_false_iff_ne, false_or, or_false, true_and, and_true, hX.lst, hX.lstSz, cls_len, ch3, app_nil, app_ofL]; done) | (simp (disch := omega) only [decide_eq_true_eq, decide_eq_false_iff_not, Bool.not_eq_true', Bool.not_eq_false', Bool.and_eq_true, Bool.and_eq_false_iff, Int.not_lt, Int.not_le, ne_eq, not_false_eq_true, not_true_eq_false, reduceCtorEq, Bool.true_eq_false, Bool.false_eq_true, beq_iff_eq, bne_iff_ne, beq_eq_false_iff_ne, false_or, or_false, true_and, and_true, hX.lst, hX.lstSz, cls_len, ch3, app_nil, app_ofL] at hx; first | (exfalso; omega) | skip) | skip)
        | trivial
        | exact fit_ofL _ _
        | (simp (disch := omega) only [notAgg_v, notAgg_sl, plain_v, fits, fitsOne, fitsCells, xsOf, cell_zero, cell_succ, List.range, List.range.loop, List.map, cond_true, cond_false, D.v.injEq, exists_eq', exists_eq, and_self, and_true, true_and, D.agg.injEq, List.length, exists_eq_left', D.sl.injEq, reduceCtorEq, false_or, true_or, or_true, or_false, cell_zero, cell_succ, cell_v, cells_v, cells_agg, List.length_cons, List.length_nil, hX.lst, hX.lstSz, cls_len, ch3, app_nil, app_ofL]; done))
      all_goals first
        | (exfalso; omega)
        | exact fit_ofL _ _
        | exact fitC hX
        | exact plainC hX
        | exact plainS hX
        | exact ⟨_, rfl⟩
        | exact ⟨_, rfl, rfl⟩
        | omega
        | rfl
        | (simp only [leftG]; omega)
        | (simp only [ints_length, cls_len, List.length_cons, List.length_nil, List.length_append]; omega)
        | exact plain_ofL (ints_plain _ _)
        | exact plainO
        | (simp only [ch3, cls_len, List.length_cons, List.length_nil]; omega)
        | (simp only [cell_zero, cell_succ, Nat.zero_add, h1]; first | done | exact ⟨_, rfl⟩)
        | (simp only [cell_zero, cell_succ, h1]; simp [D.cells, D.isAgg']; done)
        | (simp only [cell_zero]; exact fitRe hX)
        | (rw [h1]; simp only [app_nil, s1]; done)
        | (simp only [e2]; done)
        | (simp; done)
        | fail
    · by_cases hf : f = -1
      · subst hf
        have hG : takeF cs (-1) u v = (cs ++ [⟨true, v, 0⟩], -1, u + 1, ((cs.length : Nat) : Int), 0) := by unfold takeF; rw [if_neg (by omega), if_neg h64, if_pos rfl]
        have s1 := app_O (x := x) (cs := cs) ⟨true, v, 0⟩
        simp only at s1
        have hn : cs ++ [⟨true, v, 0⟩] ≠ ([] : List Cl) := by simp
        have h1 : IntKind.i64.wrap (((cls cs ++ [D.agg [.v (.bool true), .v (.int .i64 v), .v (.int .i64 0)]]).length : Nat) - 1) = ((cs.length : Nat) : Int) := by
          simp only [List.length_append, cls_len, List.length_cons, List.length_nil]
          rw [w64 (by omega) (by omega)]; omega
        rw [hG]
        repeat' (first
          | (refine ex_some (by simp (disch := omega) only [bin_shr, bin_shl, bin_and, bin_or, bin_xor, len_str, toStr_ofL, bin_add, bin_sub, bin_mul, bin_quo, bin_rem, bin_lss, bin_leq, bin_gtr, bin_geq, bin_eql, bin_neq, eqs_cn, eqs_ci, eqs_cb, eqs_cs, Option.map_some, lenT_ofL, lst_ofL, lstSz_ofL, chunk_one, lst_nil, lst_sl, lstSz_sl, lstSz_nil, Bool.and_true, Bool.true_and, Bool.and_false, Bool.false_and, beq_self_eq_true, beq_bb, bne_bb, un_not, un_neg, conv_int, min2_int, max2_int, w64, w32, wu8, wu16, wu32, wu64, tdiv_nn, tmod_nn, cell_zero, cell_succ, cell_v, cells_v, cells_agg, Bool.not_true, Bool.not_false, Int.reduceLT, Int.reduceLE, Int.reduceEq, Int.reduceNeg, Int.reduceAdd, Int.reduceSub, Int.reduceMul, intOf_v, decide_true, decide_false, hX.lst, hX.lstSz, cls_len, ch3, app_nil, app_ofL]; rfl) ?_)
          | (refine ex_bool ?_)
          | (refine ⟨_, C, ?_⟩)
          | (refine ⟨_, W, ?_⟩)
          | (exact i1)
          | (refine And.intro ?_ ?_)
          | (intro hx; have hprop := (show ∀ (p : Prop), p → True from fun _ _ => True.intro) _ hx; clear hprop; first | (cases hx; done) | (exfalso; revert hx; simp (disch := omega) only [decide_eq_true_eq, decide_eq_false_iff_not, Bool.not_eq_true', Bool.not_eq_false', Bool.and_eq_true, Bool.and_eq_false_iff, Int.not_lt, Int.not_le, ne_eq, not_false_eq_true, not_true_eq_false, reduceCtorEq, Bool.true_eq_false, Bool.false_eq_true, beq_iff_eq, bne_iff_ne, beq_eq_false_iff_ne, false_or, or_false, true_and, and_true, hX.lst, hX.lstSz, cls_len, ch3, app_nil, app_ofL]; done) | (simp (disch := omega) only [decide_eq_true_eq, decide_eq_false_iff_not, Bool.not_eq_true', Bool.not_eq_false', Bool.and_eq_true, Bool.and_eq_false_iff, Int.not_lt, Int.not_le, ne_eq, not_false_eq_true, not_true_eq_false, reduceCtorEq, Bool.true_eq_false, Bool.false_eq_true, beq_iff_eq, bne_iff_ne, beq_eq_false_iff_ne, false_or, or_false, true_and, and_true, hX.lst, hX.lstSz, cls_len, ch3, app_nil, app_ofL] at hx; first | (exfalso; omega) | skip) | skip)
          | trivial
          | exact fit_ofL _ _
          | (simp (disch := omega) only [notAgg_v, notAgg_sl, plain_v, fits, fitsOne, fitsCells, xsOf, cell_zero, cell_succ, List.range, List.range.loop, List.map, cond_true, cond_false, D.v.injEq, exists_eq', exists_eq, and_self, and_true, true_and, D.agg.injEq, List.length, exists_eq_left', D.sl.injEq, reduceCtorEq, false_or, true_or, or_true, or_false, cell_zero, cell_succ, cell_v, cells_v, cells_agg, List.length_cons, List.length_nil, hX.lst, hX.lstSz, cls_len, ch3, app_nil, app_ofL]; done))
        all_goals first
          | (exfalso; omega)
          | exact fit_ofL _ _
          | exact fitC hX
          | exact plainC hX
          | exact plainS hX
          | exact ⟨_, rfl⟩
          | exact ⟨_, rfl, rfl⟩
          | omega
          | rfl
          | (simp only [leftG]; omega)
          | (simp only [ints_length, cls_len, List.length_cons, List.length_nil, List.length_append]; omega)
          | exact plain_ofL (ints_plain _ _)
          | exact plainO
          | (simp only [ch3, cls_len, List.length_cons, List.length_nil]; omega)
          | (simp only [cell_zero, cell_succ, Nat.zero_add, h1]; first | done | exact ⟨_, rfl⟩)
          | (simp only [cell_zero, cell_succ, h1]; simp [D.cells, D.isAgg']; done)
          | (simp only [cell_zero]; exact fitRe hX)
          | (rw [h1]; simp only [app_nil, s1]; done)
          | (simp only [e2]; done)
          | (simp; done)
          | fail
      · obtain ⟨hz0, hz1, lk, hc, hk0, hk1⟩ := free_ok h0 hf
        have hG : takeF cs f u v = (cs.set f.toNat ⟨true, v, 0⟩, lk, u + 1, f, 0) := by unfold takeF; rw [if_neg (by omega), if_neg h64, if_neg hf, hc]
        have h1 := cls_at hX hz0 hz1
        rw [hc] at h1
        simp only [clD] at h1
        have i1 := cls_inb hX hz0 hz1
        have s1 : True := trivial
        have W := withC x cs lk (u + 1) f true v 0 hX hl ⟨hz0, hz1⟩
        have e2 : (x.at_ (.v (.int .i64 f))).cell (0 + 2) = .v (.int .i64 lk) := by rw [h1]; rfl
        rw [← e2] at W
        rw [hG]
        repeat' (first
          | (refine ex_some (by simp (disch := omega) only [bin_shr, bin_shl, bin_and, bin_or, bin_xor, len_str, toStr_ofL, bin_add, bin_sub, bin_mul, bin_quo, bin_rem, bin_lss, bin_leq, bin_gtr, bin_geq, bin_eql, bin_neq, eqs_cn, eqs_ci, eqs_cb, eqs_cs, Option.map_some, lenT_ofL, lst_ofL, lstSz_ofL, chunk_one, lst_nil, lst_sl, lstSz_sl, lstSz_nil, Bool.and_true, Bool.true_and, Bool.and_false, Bool.false_and, beq_self_eq_true, beq_bb, bne_bb, un_not, un_neg, conv_int, min2_int, max2_int, w64, w32, wu8, wu16, wu32, wu64, tdiv_nn, tmod_nn, cell_zero, cell_succ, cell_v, cells_v, cells_agg, Bool.not_true, Bool.not_false, Int.reduceLT, Int.reduceLE, Int.reduceEq, Int.reduceNeg, Int.reduceAdd, Int.reduceSub, Int.reduceMul, intOf_v, decide_true, decide_false, hX.lst, hX.lstSz, cls_len, ch3, app_nil, app_ofL]; rfl) ?_)
          | (refine ex_bool ?_)
          | (refine ⟨_, C, ?_⟩)
          | (refine ⟨_, W, ?_⟩)
          | (exact i1)
          | (refine And.intro ?_ ?_)
          | (intro hx; have hprop := (show ∀ (p : Prop), p → True from fun _ _ => True.intro) _ hx; clear hprop; first | (cases hx; done) | (exfalso; revert hx; simp (disch := omega) only [decide_eq_true_eq, decide_eq_false_iff_not, Bool.not_eq_true', Bool.not_eq_false', Bool.and_eq_true, Bool.and_eq_false_iff, Int.not_lt, Int.not_le, ne_eq, not_false_eq_true, not_true_eq_false, reduceCtorEq, Bool.true_eq_false, Bool.false_eq_true, beq_iff_eq, bne_iff_ne, beq_eq_false_iff_ne, false_or, or_false, true_and, and_true, hX.lst, hX.lstSz, cls_len, ch3, app_nil, app_ofL]; done) | (simp (disch := omega) only [decide_eq_true_eq, decide_eq_false_iff_not, Bool.not_eq_true', Bool.not_eq_false', Bool.and_eq_true, Bool.and_eq_false_iff, Int.not_lt, Int.not_le, ne_eq, not_false_eq_true, not_true_eq_false, reduceCtorEq, Bool.true_eq_false, Bool.false_eq_true, beq_iff_eq, bne_iff_ne, beq_eq_false_iff_ne, false_or, or_false, true_and, and_true, hX.lst, hX.lstSz, cls_len, ch3, app_nil, app_ofL] at hx; first | (exfalso; omega) | skip) | skip)
          | trivial
          | exact fit_ofL _ _
          | (simp (disch := omega) only [notAgg_v, notAgg_sl, plain_v, fits, fitsOne, fitsCells, xsOf, cell_zero, cell_succ, List.range, List.range.loop, List.map, cond_true, cond_false, D.v.injEq, exists_eq', exists_eq, and_self, and_true, true_and, D.agg.injEq, List.length, exists_eq_left', D.sl.injEq, reduceCtorEq, false_or, true_or, or_true, or_false, cell_zero, cell_succ, cell_v, cells_v, cells_agg, List.length_cons, List.length_nil, hX.lst, hX.lstSz, cls_len, ch3, app_nil, app_ofL]; done))
        all_goals first
          | (exfalso; omega)
          | exact fit_ofL _ _
          | exact fitC hX
          | exact plainC hX
          | exact plainS hX
          | exact ⟨_, rfl⟩
          | exact ⟨_, rfl, rfl⟩
          | omega
          | rfl
          | (simp only [leftG]; omega)
          | (simp only [ints_length, cls_len, List.length_cons, List.length_nil, List.length_append]; omega)
          | exact plain_ofL (ints_plain _ _)
          | exact plainO
          | (simp only [ch3, cls_len, List.length_cons, List.length_nil]; omega)
          | (simp only [cell_zero, cell_succ, Nat.zero_add, h1]; first | done | exact ⟨_, rfl⟩)
          | (simp only [cell_zero, cell_succ, h1]; simp [D.cells, D.isAgg']; done)
          | (simp only [cell_zero]; exact fitRe hX)
          | (rw [h1]; simp only [app_nil, s1]; done)
          | (simp only [e2]; done)
          | (simp; done)
          | fail
  · have hG : takeF cs f u v = (cs, f, u, 0, chkF cs f u) := by unfold takeF; rw [if_pos h0]
    have h1 : True := trivial
    have s1 : True := trivial
    rw [hG]
    simp only
    rw [reD_self hX]
    repeat' (first
      | (refine ex_some (by simp (disch := omega) only [bin_shr, bin_shl, bin_and, bin_or, bin_xor, len_str, toStr_ofL, bin_add, bin_sub, bin_mul, bin_quo, bin_rem, bin_lss, bin_leq, bin_gtr, bin_geq, bin_eql, bin_neq, eqs_cn, eqs_ci, eqs_cb, eqs_cs, Option.map_some, lenT_ofL, lst_ofL, lstSz_ofL, chunk_one, lst_nil, lst_sl, lstSz_sl, lstSz_nil, Bool.and_true, Bool.true_and, Bool.and_false, Bool.false_and, beq_self_eq_true, beq_bb, bne_bb, un_not, un_neg, conv_int, min2_int, max2_int, w64, w32, wu8, wu16, wu32, wu64, tdiv_nn, tmod_nn, cell_zero, cell_succ, cell_v, cells_v, cells_agg, Bool.not_true, Bool.not_false, Int.reduceLT, Int.reduceLE, Int.reduceEq, Int.reduceNeg, Int.reduceAdd, Int.reduceSub, Int.reduceMul, intOf_v, decide_true, decide_false, hX.lst, hX.lstSz, cls_len, ch3, app_nil, app_ofL]; rfl) ?_)
      | (refine ex_bool ?_)
      | (refine ⟨_, C, ?_⟩)
      | (refine ⟨_, W, ?_⟩)
      | (exact i1)
      | (refine And.intro ?_ ?_)
      | (intro hx; have hprop := (show ∀ (p : Prop), p → True from fun _ _ => True.intro) _ hx; clear hprop; first | (cases hx; done) | (exfalso; revert hx; simp (disch := omega) only [decide_eq_true_eq, decide_eq_false_iff_not, Bool.not_eq_true', Bool.not_eq_false', Bool.and_eq_true, Bool.and_eq_false_iff, Int.not_lt, Int.not_le, ne_eq, not_false_eq_true, not_true_eq_false, reduceCtorEq, Bool.true_eq_false, Bool.false_eq_true, beq_iff_eq, bne_iff_ne, beq_eq_false_iff_ne, false_or, or_false, true_and, and_true, hX.lst, hX.lstSz, cls_len, ch3, app_nil, app_ofL]; done) | (simp (disch := omega) only [decide_eq_true_eq, decide_eq_false_iff_not, Bool.not_eq_true', Bool.not_eq_false', Bool.and_eq_true, Bool.and_eq_false_iff, Int.not_lt, Int.not_le, ne_eq, not_false_eq_true, not_true_eq_false, reduceCtorEq, Bool.true_eq_false, Bool.false_eq_true, beq_iff_eq, bne_iff_ne, beq_eq_false_iff_ne, false_or, or_false, true_and, and_true, hX.lst, hX.lstSz, cls_len, ch3, app_nil, app_ofL] at hx; first | (exfalso; omega) | skip) | skip)
      | trivial
      | exact fit_ofL _ _
      | (simp (disch := omega) only [notAgg_v, notAgg_sl, plain_v, fits, fitsOne, fitsCells, xsOf, cell_zero, cell_succ, List.range, List.range.loop, List.map, cond_true, cond_false, D.v.injEq, exists_eq', exists_eq, and_self, and_true, true_and, D.agg.injEq, List.length, exists_eq_left', D.sl.injEq, reduceCtorEq, false_or, true_or, or_true, or_false, cell_zero, cell_succ, cell_v, cells_v, cells_agg, List.length_cons, List.length_nil, hX.lst, hX.lstSz, cls_len, ch3, app_nil, app_ofL]; done))
    all_goals first
      | (exfalso; omega)
      | exact fit_ofL _ _
      | exact fitC hX
      | exact plainC hX
      | exact plainS hX
      | exact ⟨_, rfl⟩
      | exact ⟨_, rfl, rfl⟩
      | omega
      | rfl
      | (simp only [leftG]; omega)
      | (simp only [ints_length, cls_len, List.length_cons, List.length_nil, List.length_append]; omega)
      | exact plain_ofL (ints_plain _ _)
      | exact plainO
      | (simp only [ch3, cls_len, List.length_cons, List.length_nil]; omega)
      | (simp only [cell_zero, cell_succ, Nat.zero_add, h1]; first | done | exact ⟨_, rfl⟩)
      | (simp only [cell_zero, cell_succ, h1]; simp [D.cells, D.isAgg']; done)
      | (simp only [cell_zero]; exact fitRe hX)
      | (rw [h1]; simp only [app_nil, s1]; done)
      | (simp only [e2]; done)
      | (simp; done)
      | fail

end Go.Proofs.Ytlamjfdghhbkpaa