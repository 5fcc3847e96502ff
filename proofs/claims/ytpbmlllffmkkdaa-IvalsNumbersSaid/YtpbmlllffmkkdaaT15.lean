/-
  Layer 6: the reference: Add, Cut, Gaps, Meet.
-/
import Derived.Test.YtpbmlllffmkkdaaT1
import Derived.Test.YtpbmlllffmkkdaaT2
import Derived.Test.YtpbmlllffmkkdaaT3
import Derived.Test.YtpbmlllffmkkdaaT4
import Derived.Test.YtpbmlllffmkkdaaT5
import Derived.Test.YtpbmlllffmkkdaaT6
import Derived.Test.YtpbmlllffmkkdaaT7
import Derived.Test.YtpbmlllffmkkdaaT8
import Derived.Test.YtpbmlllffmkkdaaT10
import Derived.Test.YtpbmlllffmkkdaaT11
import Derived.Test.YtpbmlllffmkkdaaT12
import Derived.Test.YtpbmlllffmkkdaaT13
import Derived.Test.YtpbmlllffmkkdaaT14
namespace Go.Proofs.Ytpbmlllffmkkdaa
open Go.RowKit
set_option linter.unusedSimpArgs false
set_option linter.unusedVariables false


abbrev oneF (z : Z) : List Z := if emp z = true then [] else [z]
theorem oneF_len (z : Z) : (oneF z).length ≤ 1 := by unfold oneF; split <;> simp
theorem fitI {x : D} {cs : List Z} (h : IsL 2 (cs.map iv) x) : x = .v nilS ∨ ∃ es, x = .sl 2 es := by rcases h with rfl | ⟨rfl, _⟩; exact .inr ⟨_, rfl⟩; exact .inl rfl
theorem plainI {x : D} {cs : List Z} (h : IsL 2 (cs.map iv) x) : PlainD x := by rcases h with rfl | ⟨rfl, _⟩; exact plain_sl (ivs_plain _); exact plain_v _

theorem vc_radd0 (x : D) (zs : List (Int × Int)) (a b : Int) : CondR Try.prog (fun _ => none) Try.f12 [x, .agg [.v (.int .i64 a), .v (.int .i64 b)]] [x] = ((NotAgg x ∧ (∃ (cs : List D), D.agg [D.v (Value.int IntKind.i64 a), D.v (Value.int IntKind.i64 b)] = D.agg cs ∧ cs.length = 2) ∧ True) ∧ ∃ (r : D), PureD Try.prog 20 [x] [r] ∧ fits [(false, [none])] [r] ∧ ∃ (r_1 : D), D.bin BinOp.neq r (D.v (Value.int IntKind.i64 0)) = some r_1 ∧ ∃ (b_1 : Bool), r_1 = D.v (Value.bool b_1) ∧ (b_1 = false → ∃ (r : D), PureD Try.prog 34 [D.agg [D.v (Value.int IntKind.i64 a), D.v (Value.int IntKind.i64 b)]] [r] ∧ fits [(false, [none])] [r] ∧ ∃ (r_2 : D), D.un UnOp.not r = some r_2 ∧ ∃ (b_2 : Bool), r_2 = D.v (Value.bool b_2) ∧ (b_2 = true → [x] = [x]) ∧ (b_2 = false → ∃ (r : D), PureD Try.prog 36 [D.agg [D.v (Value.int IntKind.i64 a), D.v (Value.int IntKind.i64 b)]] [r] ∧ fits [(false, [some 2])] [r] ∧ ∃ (r_3 : D), PureD Try.prog 35 [x, r, D.v (Value.int IntKind.i64 0)] [r_3] ∧ fits [(false, [some 2])] [r_3] ∧ [r_3] = [x])) ∧ (b_1 = true → [x] = [x])) := by kernel_rfl
set_option maxHeartbeats 2000000 in
theorem radd0 (x : D) (zs : List (Int × Int)) (a b : Int) (hX : IsL 2 (zs.map iv) x) (hm : zs.length ≤ 1000) (hT : chkF zs ≠ 0 ∨ rgd (a, b) = false) : ReadD Try.prog 12 [x, .agg [.v (.int .i64 a), .v (.int .i64 b)]] [x] := by
  refine read_cond (Lp := (fun _ => none)) (by kernel_rfl) Try.func12 (by kernel_rfl) (by kernel_rfl) ?_
  rw [vc_radd0 x zs a b]
  have C1 := rcheck x zs hX (by omega)
  have M1 := rmay a b
  have O1 := one a b
  have h1 := oneF_len (a, b)
  by_cases hc : chkF zs = 0
  · have hr : rgd (a, b) = false := hT.resolve_left (fun h => h hc)
    rw [hc] at C1
    rw [hr] at M1
    repeat' (first
      | (refine ex_some (by simp (disch := omega) only [bin_shr, bin_shl, bin_and, bin_or, bin_xor, len_str, toStr_ofL, bin_add, bin_sub, bin_mul, bin_quo, bin_rem, bin_lss, bin_leq, bin_gtr, bin_geq, bin_eql, bin_neq, eqs_cn, eqs_ci, eqs_cb, eqs_cs, Option.map_some, lenT_ofL, lst_ofL, lstSz_ofL, chunk_one, lst_nil, lst_sl, lstSz_sl, lstSz_nil, Bool.and_true, Bool.true_and, Bool.and_false, Bool.false_and, beq_self_eq_true, beq_bb, bne_bb, un_not, un_neg, conv_int, min2_int, max2_int, w64, w32, wu8, wu16, wu32, wu64, tdiv_nn, tmod_nn, cell_zero, cell_succ, cell_v, cells_v, cells_agg, Bool.not_true, Bool.not_false, Int.reduceLT, Int.reduceLE, Int.reduceEq, Int.reduceNeg, Int.reduceAdd, Int.reduceSub, Int.reduceMul, intOf_v, decide_true, decide_false]; rfl) ?_)
      | (refine ex_bool ?_)
      | (refine ⟨_, C1, ?_⟩)
      | (refine ⟨_, M1, ?_⟩)
      | (refine And.intro ?_ ?_)
      | (intro hx; have hprop := (show ∀ (p : Prop), p → True from fun _ _ => True.intro) _ hx; clear hprop; first | (cases hx; done) | (exfalso; revert hx; simp (disch := omega) only [decide_eq_true_eq, decide_eq_false_iff_not, Bool.not_eq_true', Bool.not_eq_false', Bool.and_eq_true, Bool.and_eq_false_iff, Int.not_lt, Int.not_le, ne_eq, not_false_eq_true, not_true_eq_false, reduceCtorEq, Bool.true_eq_false, Bool.false_eq_true, beq_iff_eq, bne_iff_ne, beq_eq_false_iff_ne, false_or, or_false, true_and, and_true]; done) | (simp (disch := omega) only [decide_eq_true_eq, decide_eq_false_iff_not, Bool.not_eq_true', Bool.not_eq_false', Bool.and_eq_true, Bool.and_eq_false_iff, Int.not_lt, Int.not_le, ne_eq, not_false_eq_true, not_true_eq_false, reduceCtorEq, Bool.true_eq_false, Bool.false_eq_true, beq_iff_eq, bne_iff_ne, beq_eq_false_iff_ne, false_or, or_false, true_and, and_true] at hx; first | (exfalso; omega) | skip) | skip)
      | trivial
      | exact fit_ofL _ _
      | (simp (disch := omega) only [notAgg_v, notAgg_sl, plain_v, fits, fitsOne, fitsCells, xsOf, cell_zero, cell_succ, List.range, List.range.loop, List.map, cond_true, cond_false, D.v.injEq, exists_eq', exists_eq, and_self, and_true, true_and, D.agg.injEq, List.length, exists_eq_left', D.sl.injEq, reduceCtorEq, false_or, true_or, or_true, or_false, cell_zero, cell_succ, cell_v, cells_v, cells_agg, List.length_cons, List.length_nil]; done))
    all_goals first
      | (exfalso; omega)
      | omega
      | exact hX.notAgg
      | exact hY.notAgg
      | exact (isL_ofL _ _).notAgg
      | exact fitI hX
      | exact plainI hX
      | exact fit_ofL _ _
      | exact plain_ofL (ivs_plain _)
      | exact plain_v _
      | rfl
      | exact .inl rfl
      | exact .inr ⟨_, rfl⟩
      | exact ⟨_, rfl⟩
      | exact ⟨_, rfl, rfl⟩
      | exact notAgg_v _
      | (simp; done)
      | fail
  · skip
    repeat' (first
      | (refine ex_some (by simp (disch := omega) only [bin_shr, bin_shl, bin_and, bin_or, bin_xor, len_str, toStr_ofL, bin_add, bin_sub, bin_mul, bin_quo, bin_rem, bin_lss, bin_leq, bin_gtr, bin_geq, bin_eql, bin_neq, eqs_cn, eqs_ci, eqs_cb, eqs_cs, Option.map_some, lenT_ofL, lst_ofL, lstSz_ofL, chunk_one, lst_nil, lst_sl, lstSz_sl, lstSz_nil, Bool.and_true, Bool.true_and, Bool.and_false, Bool.false_and, beq_self_eq_true, beq_bb, bne_bb, un_not, un_neg, conv_int, min2_int, max2_int, w64, w32, wu8, wu16, wu32, wu64, tdiv_nn, tmod_nn, cell_zero, cell_succ, cell_v, cells_v, cells_agg, Bool.not_true, Bool.not_false, Int.reduceLT, Int.reduceLE, Int.reduceEq, Int.reduceNeg, Int.reduceAdd, Int.reduceSub, Int.reduceMul, intOf_v, decide_true, decide_false]; rfl) ?_)
      | (refine ex_bool ?_)
      | (refine ⟨_, C1, ?_⟩)
      | (refine ⟨_, M1, ?_⟩)
      | (refine And.intro ?_ ?_)
      | (intro hx; have hprop := (show ∀ (p : Prop), p → True from fun _ _ => True.intro) _ hx; clear hprop; first | (cases hx; done) | (exfalso; revert hx; simp (disch := omega) only [decide_eq_true_eq, decide_eq_false_iff_not, Bool.not_eq_true', Bool.not_eq_false', Bool.and_eq_true, Bool.and_eq_false_iff, Int.not_lt, Int.not_le, ne_eq, not_false_eq_true, not_true_eq_false, reduceCtorEq, Bool.true_eq_false, Bool.false_eq_true, beq_iff_eq, bne_iff_ne, beq_eq_false_iff_ne, false_or, or_false, true_and, and_true]; done) | (simp (disch := omega) only [decide_eq_true_eq, decide_eq_false_iff_not, Bool.not_eq_true', Bool.not_eq_false', Bool.and_eq_true, Bool.and_eq_false_iff, Int.not_lt, Int.not_le, ne_eq, not_false_eq_true, not_true_eq_false, reduceCtorEq, Bool.true_eq_false, Bool.false_eq_true, beq_iff_eq, bne_iff_ne, beq_eq_false_iff_ne, false_or, or_false, true_and, and_true] at hx; first | (exfalso; omega) | skip) | skip)
      | trivial
      | exact fit_ofL _ _
      | (simp (disch := omega) only [notAgg_v, notAgg_sl, plain_v, fits, fitsOne, fitsCells, xsOf, cell_zero, cell_succ, List.range, List.range.loop, List.map, cond_true, cond_false, D.v.injEq, exists_eq', exists_eq, and_self, and_true, true_and, D.agg.injEq, List.length, exists_eq_left', D.sl.injEq, reduceCtorEq, false_or, true_or, or_true, or_false, cell_zero, cell_succ, cell_v, cells_v, cells_agg, List.length_cons, List.length_nil]; done))
    all_goals first
      | (exfalso; omega)
      | omega
      | exact hX.notAgg
      | exact hY.notAgg
      | exact (isL_ofL _ _).notAgg
      | exact fitI hX
      | exact plainI hX
      | exact fit_ofL _ _
      | exact plain_ofL (ivs_plain _)
      | exact plain_v _
      | rfl
      | exact .inl rfl
      | exact .inr ⟨_, rfl⟩
      | exact ⟨_, rfl⟩
      | exact ⟨_, rfl, rfl⟩
      | exact notAgg_v _
      | (simp; done)
      | fail

theorem vc_radd1 (x : D) (zs : List (Int × Int)) (a b : Int) : CondR Try.prog (fun _ => none) Try.f12 [x, .agg [.v (.int .i64 a), .v (.int .i64 b)]] [ofL 2 ((kindF orF zs (oneF (a, b))).map iv)] = ((NotAgg x ∧ (∃ (cs : List D), D.agg [D.v (Value.int IntKind.i64 a), D.v (Value.int IntKind.i64 b)] = D.agg cs ∧ cs.length = 2) ∧ True) ∧ ∃ (r : D), PureD Try.prog 20 [x] [r] ∧ fits [(false, [none])] [r] ∧ ∃ (r_1 : D), D.bin BinOp.neq r (D.v (Value.int IntKind.i64 0)) = some r_1 ∧ ∃ (b_1 : Bool), r_1 = D.v (Value.bool b_1) ∧ (b_1 = false → ∃ (r : D), PureD Try.prog 34 [D.agg [D.v (Value.int IntKind.i64 a), D.v (Value.int IntKind.i64 b)]] [r] ∧ fits [(false, [none])] [r] ∧ ∃ (r_2 : D), D.un UnOp.not r = some r_2 ∧ ∃ (b_2 : Bool), r_2 = D.v (Value.bool b_2) ∧ (b_2 = true → [x] = [ofL 2 (List.map iv (kindF orF zs (oneF (a, b))))]) ∧ (b_2 = false → ∃ (r : D), PureD Try.prog 36 [D.agg [D.v (Value.int IntKind.i64 a), D.v (Value.int IntKind.i64 b)]] [r] ∧ fits [(false, [some 2])] [r] ∧ ∃ (r_3 : D), PureD Try.prog 35 [x, r, D.v (Value.int IntKind.i64 0)] [r_3] ∧ fits [(false, [some 2])] [r_3] ∧ [r_3] = [ofL 2 (List.map iv (kindF orF zs (oneF (a, b))))])) ∧ (b_1 = true → [x] = [ofL 2 (List.map iv (kindF orF zs (oneF (a, b))))])) := by kernel_rfl
set_option maxHeartbeats 2000000 in
theorem radd1 (x : D) (zs : List (Int × Int)) (a b : Int) (hX : IsL 2 (zs.map iv) x) (hm : zs.length ≤ 1000) (hc : chkF zs = 0) (hr : rgd (a, b) = true) : ReadD Try.prog 12 [x, .agg [.v (.int .i64 a), .v (.int .i64 b)]] [ofL 2 ((kindF orF zs (oneF (a, b))).map iv)] := by
  refine read_cond (Lp := (fun _ => none)) (by kernel_rfl) Try.func12 (by kernel_rfl) (by kernel_rfl) ?_
  rw [vc_radd1 x zs a b]
  have C1 := rcheck x zs hX (by omega)
  have M1 := rmay a b
  have O1 := one a b
  have h1 := oneF_len (a, b)
  have K1 := kind0 x _ zs (oneF (a, b)) hX (by omega) (isL_ofL 2 _) (by omega)
  rw [hc] at C1
  rw [hr] at M1
  repeat' (first
    | (refine ex_some (by simp (disch := omega) only [bin_shr, bin_shl, bin_and, bin_or, bin_xor, len_str, toStr_ofL, bin_add, bin_sub, bin_mul, bin_quo, bin_rem, bin_lss, bin_leq, bin_gtr, bin_geq, bin_eql, bin_neq, eqs_cn, eqs_ci, eqs_cb, eqs_cs, Option.map_some, lenT_ofL, lst_ofL, lstSz_ofL, chunk_one, lst_nil, lst_sl, lstSz_sl, lstSz_nil, Bool.and_true, Bool.true_and, Bool.and_false, Bool.false_and, beq_self_eq_true, beq_bb, bne_bb, un_not, un_neg, conv_int, min2_int, max2_int, w64, w32, wu8, wu16, wu32, wu64, tdiv_nn, tmod_nn, cell_zero, cell_succ, cell_v, cells_v, cells_agg, Bool.not_true, Bool.not_false, Int.reduceLT, Int.reduceLE, Int.reduceEq, Int.reduceNeg, Int.reduceAdd, Int.reduceSub, Int.reduceMul, intOf_v, decide_true, decide_false]; rfl) ?_)
    | (refine ex_bool ?_)
    | (refine ⟨_, C1, ?_⟩)
    | (refine ⟨_, M1, ?_⟩)
    | (refine ⟨_, O1, ?_⟩)
    | (refine ⟨_, K1, ?_⟩)
    | (refine And.intro ?_ ?_)
    | (intro hx; have hprop := (show ∀ (p : Prop), p → True from fun _ _ => True.intro) _ hx; clear hprop; first | (cases hx; done) | (exfalso; revert hx; simp (disch := omega) only [decide_eq_true_eq, decide_eq_false_iff_not, Bool.not_eq_true', Bool.not_eq_false', Bool.and_eq_true, Bool.and_eq_false_iff, Int.not_lt, Int.not_le, ne_eq, not_false_eq_true, not_true_eq_false, reduceCtorEq, Bool.true_eq_false, Bool.false_eq_true, beq_iff_eq, bne_iff_ne, beq_eq_false_iff_ne, false_or, or_false, true_and, and_true]; done) | (simp (disch := omega) only [decide_eq_true_eq, decide_eq_false_iff_not, Bool.not_eq_true', Bool.not_eq_false', Bool.and_eq_true, Bool.and_eq_false_iff, Int.not_lt, Int.not_le, ne_eq, not_false_eq_true, not_true_eq_false, reduceCtorEq, Bool.true_eq_false, Bool.false_eq_true, beq_iff_eq, bne_iff_ne, beq_eq_false_iff_ne, false_or, or_false, true_and, and_true] at hx; first | (exfalso; omega) | skip) | skip)
    | trivial
    | exact fit_ofL _ _
    | (simp (disch := omega) only [notAgg_v, notAgg_sl, plain_v, fits, fitsOne, fitsCells, xsOf, cell_zero, cell_succ, List.range, List.range.loop, List.map, cond_true, cond_false, D.v.injEq, exists_eq', exists_eq, and_self, and_true, true_and, D.agg.injEq, List.length, exists_eq_left', D.sl.injEq, reduceCtorEq, false_or, true_or, or_true, or_false, cell_zero, cell_succ, cell_v, cells_v, cells_agg, List.length_cons, List.length_nil]; done))
  all_goals first
    | (exfalso; omega)
    | omega
    | exact hX.notAgg
    | exact hY.notAgg
    | exact (isL_ofL _ _).notAgg
    | exact fitI hX
    | exact plainI hX
    | exact fit_ofL _ _
    | exact plain_ofL (ivs_plain _)
    | exact plain_v _
    | rfl
    | exact .inl rfl
    | exact .inr ⟨_, rfl⟩
    | exact ⟨_, rfl⟩
    | exact ⟨_, rfl, rfl⟩
    | exact notAgg_v _
    | (simp; done)
    | fail

theorem vc_rcut0 (x : D) (zs : List (Int × Int)) (a b : Int) : CondR Try.prog (fun _ => none) Try.f14 [x, .agg [.v (.int .i64 a), .v (.int .i64 b)]] [x] = ((NotAgg x ∧ (∃ (cs : List D), D.agg [D.v (Value.int IntKind.i64 a), D.v (Value.int IntKind.i64 b)] = D.agg cs ∧ cs.length = 2) ∧ True) ∧ ∃ (r : D), PureD Try.prog 20 [x] [r] ∧ fits [(false, [none])] [r] ∧ ∃ (r_1 : D), D.bin BinOp.neq r (D.v (Value.int IntKind.i64 0)) = some r_1 ∧ ∃ (b_1 : Bool), r_1 = D.v (Value.bool b_1) ∧ (b_1 = false → ∃ (r : D), PureD Try.prog 34 [D.agg [D.v (Value.int IntKind.i64 a), D.v (Value.int IntKind.i64 b)]] [r] ∧ fits [(false, [none])] [r] ∧ ∃ (r_2 : D), D.un UnOp.not r = some r_2 ∧ ∃ (b_2 : Bool), r_2 = D.v (Value.bool b_2) ∧ (b_2 = true → [x] = [x]) ∧ (b_2 = false → ∃ (r : D), PureD Try.prog 36 [D.agg [D.v (Value.int IntKind.i64 a), D.v (Value.int IntKind.i64 b)]] [r] ∧ fits [(false, [some 2])] [r] ∧ ∃ (r_3 : D), PureD Try.prog 35 [x, r, D.v (Value.int IntKind.i64 1)] [r_3] ∧ fits [(false, [some 2])] [r_3] ∧ [r_3] = [x])) ∧ (b_1 = true → [x] = [x])) := by kernel_rfl
set_option maxHeartbeats 2000000 in
theorem rcut0 (x : D) (zs : List (Int × Int)) (a b : Int) (hX : IsL 2 (zs.map iv) x) (hm : zs.length ≤ 1000) (hT : chkF zs ≠ 0 ∨ rgd (a, b) = false) : ReadD Try.prog 14 [x, .agg [.v (.int .i64 a), .v (.int .i64 b)]] [x] := by
  refine read_cond (Lp := (fun _ => none)) (by kernel_rfl) Try.func14 (by kernel_rfl) (by kernel_rfl) ?_
  rw [vc_rcut0 x zs a b]
  have C1 := rcheck x zs hX (by omega)
  have M1 := rmay a b
  have O1 := one a b
  have h1 := oneF_len (a, b)
  by_cases hc : chkF zs = 0
  · have hr : rgd (a, b) = false := hT.resolve_left (fun h => h hc)
    rw [hc] at C1
    rw [hr] at M1
    repeat' (first
      | (refine ex_some (by simp (disch := omega) only [bin_shr, bin_shl, bin_and, bin_or, bin_xor, len_str, toStr_ofL, bin_add, bin_sub, bin_mul, bin_quo, bin_rem, bin_lss, bin_leq, bin_gtr, bin_geq, bin_eql, bin_neq, eqs_cn, eqs_ci, eqs_cb, eqs_cs, Option.map_some, lenT_ofL, lst_ofL, lstSz_ofL, chunk_one, lst_nil, lst_sl, lstSz_sl, lstSz_nil, Bool.and_true, Bool.true_and, Bool.and_false, Bool.false_and, beq_self_eq_true, beq_bb, bne_bb, un_not, un_neg, conv_int, min2_int, max2_int, w64, w32, wu8, wu16, wu32, wu64, tdiv_nn, tmod_nn, cell_zero, cell_succ, cell_v, cells_v, cells_agg, Bool.not_true, Bool.not_false, Int.reduceLT, Int.reduceLE, Int.reduceEq, Int.reduceNeg, Int.reduceAdd, Int.reduceSub, Int.reduceMul, intOf_v, decide_true, decide_false]; rfl) ?_)
      | (refine ex_bool ?_)
      | (refine ⟨_, C1, ?_⟩)
      | (refine ⟨_, M1, ?_⟩)
      | (refine And.intro ?_ ?_)
      | (intro hx; have hprop := (show ∀ (p : Prop), p → True from fun _ _ => True.intro) _ hx; clear hprop; first | (cases hx; done) | (exfalso; revert hx; simp (disch := omega) only [decide_eq_true_eq, decide_eq_false_iff_not, Bool.not_eq_true', Bool.not_eq_false', Bool.and_eq_true, Bool.and_eq_false_iff, Int.not_lt, Int.not_le, ne_eq, not_false_eq_true, not_true_eq_false, reduceCtorEq, Bool.true_eq_false, Bool.false_eq_true, beq_iff_eq, bne_iff_ne, beq_eq_false_iff_ne, false_or, or_false, true_and, and_true]; done) | (simp (disch := omega) only [decide_eq_true_eq, decide_eq_false_iff_not, Bool.not_eq_true', Bool.not_eq_false', Bool.and_eq_true, Bool.and_eq_false_iff, Int.not_lt, Int.not_le, ne_eq, not_false_eq_true, not_true_eq_false, reduceCtorEq, Bool.true_eq_false, Bool.false_eq_true, beq_iff_eq, bne_iff_ne, beq_eq_false_iff_ne, false_or, or_false, true_and, and_true] at hx; first | (exfalso; omega) | skip) | skip)
      | trivial
      | exact fit_ofL _ _
      | (simp (disch := omega) only [notAgg_v, notAgg_sl, plain_v, fits, fitsOne, fitsCells, xsOf, cell_zero, cell_succ, List.range, List.range.loop, List.map, cond_true, cond_false, D.v.injEq, exists_eq', exists_eq, and_self, and_true, true_and, D.agg.injEq, List.length, exists_eq_left', D.sl.injEq, reduceCtorEq, false_or, true_or, or_true, or_false, cell_zero, cell_succ, cell_v, cells_v, cells_agg, List.length_cons, List.length_nil]; done))
    all_goals first
      | (exfalso; omega)
      | omega
      | exact hX.notAgg
      | exact hY.notAgg
      | exact (isL_ofL _ _).notAgg
      | exact fitI hX
      | exact plainI hX
      | exact fit_ofL _ _
      | exact plain_ofL (ivs_plain _)
      | exact plain_v _
      | rfl
      | exact .inl rfl
      | exact .inr ⟨_, rfl⟩
      | exact ⟨_, rfl⟩
      | exact ⟨_, rfl, rfl⟩
      | exact notAgg_v _
      | (simp; done)
      | fail
  · skip
    repeat' (first
      | (refine ex_some (by simp (disch := omega) only [bin_shr, bin_shl, bin_and, bin_or, bin_xor, len_str, toStr_ofL, bin_add, bin_sub, bin_mul, bin_quo, bin_rem, bin_lss, bin_leq, bin_gtr, bin_geq, bin_eql, bin_neq, eqs_cn, eqs_ci, eqs_cb, eqs_cs, Option.map_some, lenT_ofL, lst_ofL, lstSz_ofL, chunk_one, lst_nil, lst_sl, lstSz_sl, lstSz_nil, Bool.and_true, Bool.true_and, Bool.and_false, Bool.false_and, beq_self_eq_true, beq_bb, bne_bb, un_not, un_neg, conv_int, min2_int, max2_int, w64, w32, wu8, wu16, wu32, wu64, tdiv_nn, tmod_nn, cell_zero, cell_succ, cell_v, cells_v, cells_agg, Bool.not_true, Bool.not_false, Int.reduceLT, Int.reduceLE, Int.reduceEq, Int.reduceNeg, Int.reduceAdd, Int.reduceSub, Int.reduceMul, intOf_v, decide_true, decide_false]; rfl) ?_)
      | (refine ex_bool ?_)
      | (refine ⟨_, C1, ?_⟩)
      | (refine ⟨_, M1, ?_⟩)
      | (refine And.intro ?_ ?_)
      | (intro hx; have hprop := (show ∀ (p : Prop), p → True from fun _ _ => True.intro) _ hx; clear hprop; first | (cases hx; done) | (exfalso; revert hx; simp (disch := omega) only [decide_eq_true_eq, decide_eq_false_iff_not, Bool.not_eq_true', Bool.not_eq_false', Bool.and_eq_true, Bool.and_eq_false_iff, Int.not_lt, Int.not_le, ne_eq, not_false_eq_true, not_true_eq_false, reduceCtorEq, Bool.true_eq_false, Bool.false_eq_true, beq_iff_eq, bne_iff_ne, beq_eq_false_iff_ne, false_or, or_false, true_and, and_true]; done) | (simp (disch := omega) only [decide_eq_true_eq, decide_eq_false_iff_not, Bool.not_eq_true', Bool.not_eq_false', Bool.and_eq_true, Bool.and_eq_false_iff, Int.not_lt, Int.not_le, ne_eq, not_false_eq_true, not_true_eq_false, reduceCtorEq, Bool.true_eq_false, Bool.false_eq_true, beq_iff_eq, bne_iff_ne, beq_eq_false_iff_ne, false_or, or_false, true_and, and_true] at hx; first | (exfalso; omega) | skip) | skip)
      | trivial
      | exact fit_ofL _ _
      | (simp (disch := omega) only [notAgg_v, notAgg_sl, plain_v, fits, fitsOne, fitsCells, xsOf, cell_zero, cell_succ, List.range, List.range.loop, List.map, cond_true, cond_false, D.v.injEq, exists_eq', exists_eq, and_self, and_true, true_and, D.agg.injEq, List.length, exists_eq_left', D.sl.injEq, reduceCtorEq, false_or, true_or, or_true, or_false, cell_zero, cell_succ, cell_v, cells_v, cells_agg, List.length_cons, List.length_nil]; done))
    all_goals first
      | (exfalso; omega)
      | omega
      | exact hX.notAgg
      | exact hY.notAgg
      | exact (isL_ofL _ _).notAgg
      | exact fitI hX
      | exact plainI hX
      | exact fit_ofL _ _
      | exact plain_ofL (ivs_plain _)
      | exact plain_v _
      | rfl
      | exact .inl rfl
      | exact .inr ⟨_, rfl⟩
      | exact ⟨_, rfl⟩
      | exact ⟨_, rfl, rfl⟩
      | exact notAgg_v _
      | (simp; done)
      | fail

theorem vc_rcut1 (x : D) (zs : List (Int × Int)) (a b : Int) : CondR Try.prog (fun _ => none) Try.f14 [x, .agg [.v (.int .i64 a), .v (.int .i64 b)]] [ofL 2 ((kindF diF zs (oneF (a, b))).map iv)] = ((NotAgg x ∧ (∃ (cs : List D), D.agg [D.v (Value.int IntKind.i64 a), D.v (Value.int IntKind.i64 b)] = D.agg cs ∧ cs.length = 2) ∧ True) ∧ ∃ (r : D), PureD Try.prog 20 [x] [r] ∧ fits [(false, [none])] [r] ∧ ∃ (r_1 : D), D.bin BinOp.neq r (D.v (Value.int IntKind.i64 0)) = some r_1 ∧ ∃ (b_1 : Bool), r_1 = D.v (Value.bool b_1) ∧ (b_1 = false → ∃ (r : D), PureD Try.prog 34 [D.agg [D.v (Value.int IntKind.i64 a), D.v (Value.int IntKind.i64 b)]] [r] ∧ fits [(false, [none])] [r] ∧ ∃ (r_2 : D), D.un UnOp.not r = some r_2 ∧ ∃ (b_2 : Bool), r_2 = D.v (Value.bool b_2) ∧ (b_2 = true → [x] = [ofL 2 (List.map iv (kindF diF zs (oneF (a, b))))]) ∧ (b_2 = false → ∃ (r : D), PureD Try.prog 36 [D.agg [D.v (Value.int IntKind.i64 a), D.v (Value.int IntKind.i64 b)]] [r] ∧ fits [(false, [some 2])] [r] ∧ ∃ (r_3 : D), PureD Try.prog 35 [x, r, D.v (Value.int IntKind.i64 1)] [r_3] ∧ fits [(false, [some 2])] [r_3] ∧ [r_3] = [ofL 2 (List.map iv (kindF diF zs (oneF (a, b))))])) ∧ (b_1 = true → [x] = [ofL 2 (List.map iv (kindF diF zs (oneF (a, b))))])) := by kernel_rfl
set_option maxHeartbeats 2000000 in
theorem rcut1 (x : D) (zs : List (Int × Int)) (a b : Int) (hX : IsL 2 (zs.map iv) x) (hm : zs.length ≤ 1000) (hc : chkF zs = 0) (hr : rgd (a, b) = true) : ReadD Try.prog 14 [x, .agg [.v (.int .i64 a), .v (.int .i64 b)]] [ofL 2 ((kindF diF zs (oneF (a, b))).map iv)] := by
  refine read_cond (Lp := (fun _ => none)) (by kernel_rfl) Try.func14 (by kernel_rfl) (by kernel_rfl) ?_
  rw [vc_rcut1 x zs a b]
  have C1 := rcheck x zs hX (by omega)
  have M1 := rmay a b
  have O1 := one a b
  have h1 := oneF_len (a, b)
  have K1 := kind1 x _ zs (oneF (a, b)) hX (by omega) (isL_ofL 2 _) (by omega)
  rw [hc] at C1
  rw [hr] at M1
  repeat' (first
    | (refine ex_some (by simp (disch := omega) only [bin_shr, bin_shl, bin_and, bin_or, bin_xor, len_str, toStr_ofL, bin_add, bin_sub, bin_mul, bin_quo, bin_rem, bin_lss, bin_leq, bin_gtr, bin_geq, bin_eql, bin_neq, eqs_cn, eqs_ci, eqs_cb, eqs_cs, Option.map_some, lenT_ofL, lst_ofL, lstSz_ofL, chunk_one, lst_nil, lst_sl, lstSz_sl, lstSz_nil, Bool.and_true, Bool.true_and, Bool.and_false, Bool.false_and, beq_self_eq_true, beq_bb, bne_bb, un_not, un_neg, conv_int, min2_int, max2_int, w64, w32, wu8, wu16, wu32, wu64, tdiv_nn, tmod_nn, cell_zero, cell_succ, cell_v, cells_v, cells_agg, Bool.not_true, Bool.not_false, Int.reduceLT, Int.reduceLE, Int.reduceEq, Int.reduceNeg, Int.reduceAdd, Int.reduceSub, Int.reduceMul, intOf_v, decide_true, decide_false]; rfl) ?_)
    | (refine ex_bool ?_)
    | (refine ⟨_, C1, ?_⟩)
    | (refine ⟨_, M1, ?_⟩)
    | (refine ⟨_, O1, ?_⟩)
    | (refine ⟨_, K1, ?_⟩)
    | (refine And.intro ?_ ?_)
    | (intro hx; have hprop := (show ∀ (p : Prop), p → True from fun _ _ => True.intro) _ hx; clear hprop; first | (cases hx; done) | (exfalso; revert hx; simp (disch := omega) only [decide_eq_true_eq, decide_eq_false_iff_not, Bool.not_eq_true', Bool.not_eq_false', Bool.and_eq_true, Bool.and_eq_false_iff, Int.not_lt, Int.not_le, ne_eq, not_false_eq_true, not_true_eq_false, reduceCtorEq, Bool.true_eq_false, Bool.false_eq_true, beq_iff_eq, bne_iff_ne, beq_eq_false_iff_ne, false_or, or_false, true_and, and_true]; done) | (simp (disch := omega) only [decide_eq_true_eq, decide_eq_false_iff_not, Bool.not_eq_true', Bool.not_eq_false', Bool.and_eq_true, Bool.and_eq_false_iff, Int.not_lt, Int.not_le, ne_eq, not_false_eq_true, not_true_eq_false, reduceCtorEq, Bool.true_eq_false, Bool.false_eq_true, beq_iff_eq, bne_iff_ne, beq_eq_false_iff_ne, false_or, or_false, true_and, and_true] at hx; first | (exfalso; omega) | skip) | skip)
    | trivial
    | exact fit_ofL _ _
    | (simp (disch := omega) only [notAgg_v, notAgg_sl, plain_v, fits, fitsOne, fitsCells, xsOf, cell_zero, cell_succ, List.range, List.range.loop, List.map, cond_true, cond_false, D.v.injEq, exists_eq', exists_eq, and_self, and_true, true_and, D.agg.injEq, List.length, exists_eq_left', D.sl.injEq, reduceCtorEq, false_or, true_or, or_true, or_false, cell_zero, cell_succ, cell_v, cells_v, cells_agg, List.length_cons, List.length_nil]; done))
  all_goals first
    | (exfalso; omega)
    | omega
    | exact hX.notAgg
    | exact hY.notAgg
    | exact (isL_ofL _ _).notAgg
    | exact fitI hX
    | exact plainI hX
    | exact fit_ofL _ _
    | exact plain_ofL (ivs_plain _)
    | exact plain_v _
    | rfl
    | exact .inl rfl
    | exact .inr ⟨_, rfl⟩
    | exact ⟨_, rfl⟩
    | exact ⟨_, rfl, rfl⟩
    | exact notAgg_v _
    | (simp; done)
    | fail

theorem vc_rgap0 (x : D) (zs : List (Int × Int)) (a b : Int) : Cond Try.prog (fun _ => none) Try.f16 [x, .agg [.v (.int .i64 a), .v (.int .i64 b)]] [.v nilS] = ((NotAgg x ∧ (∃ (cs : List D), D.agg [D.v (Value.int IntKind.i64 a), D.v (Value.int IntKind.i64 b)] = D.agg cs ∧ cs.length = 2) ∧ True) ∧ ∃ (r : D), PureD Try.prog 20 [x] [r] ∧ fits [(false, [none])] [r] ∧ ∃ (r_1 : D), D.bin BinOp.neq r (D.v (Value.int IntKind.i64 0)) = some r_1 ∧ ∃ (b_1 : Bool), r_1 = D.v (Value.bool b_1) ∧ (b_1 = false → ∃ (r : D), PureD Try.prog 34 [D.agg [D.v (Value.int IntKind.i64 a), D.v (Value.int IntKind.i64 b)]] [r] ∧ fits [(false, [none])] [r] ∧ ∃ (r_2 : D), D.un UnOp.not r = some r_2 ∧ ∃ (b_2 : Bool), r_2 = D.v (Value.bool b_2) ∧ (b_2 = true → (PlainD (D.v nilS) ∧ True) ∧ [D.v nilS] = [D.v nilS]) ∧ (b_2 = false → ∃ (r : D), PureD Try.prog 36 [D.agg [D.v (Value.int IntKind.i64 a), D.v (Value.int IntKind.i64 b)]] [r] ∧ fits [(false, [some 2])] [r] ∧ ∃ (r_3 : D), PureD Try.prog 35 [r, x, D.v (Value.int IntKind.i64 1)] [r_3] ∧ fits [(false, [some 2])] [r_3] ∧ (PlainD r_3 ∧ True) ∧ [r_3] = [D.v nilS])) ∧ (b_1 = true → (PlainD (D.v nilS) ∧ True) ∧ [D.v nilS] = [D.v nilS])) := by kernel_rfl
set_option maxHeartbeats 2000000 in
theorem rgap0 (x : D) (zs : List (Int × Int)) (a b : Int) (hX : IsL 2 (zs.map iv) x) (hm : zs.length ≤ 1000) (hT : chkF zs ≠ 0 ∨ rgd (a, b) = false) : PureD Try.prog 16 [x, .agg [.v (.int .i64 a), .v (.int .i64 b)]] [.v nilS] := by
  refine pure_cond (Lp := (fun _ => none)) (by kernel_rfl) Try.func16 (by kernel_rfl) (by kernel_rfl) ?_
  rw [vc_rgap0 x zs a b]
  have C1 := rcheck x zs hX (by omega)
  have M1 := rmay a b
  have O1 := one a b
  have h1 := oneF_len (a, b)
  by_cases hc : chkF zs = 0
  · have hr : rgd (a, b) = false := hT.resolve_left (fun h => h hc)
    rw [hc] at C1
    rw [hr] at M1
    repeat' (first
      | (refine ex_some (by simp (disch := omega) only [bin_shr, bin_shl, bin_and, bin_or, bin_xor, len_str, toStr_ofL, bin_add, bin_sub, bin_mul, bin_quo, bin_rem, bin_lss, bin_leq, bin_gtr, bin_geq, bin_eql, bin_neq, eqs_cn, eqs_ci, eqs_cb, eqs_cs, Option.map_some, lenT_ofL, lst_ofL, lstSz_ofL, chunk_one, lst_nil, lst_sl, lstSz_sl, lstSz_nil, Bool.and_true, Bool.true_and, Bool.and_false, Bool.false_and, beq_self_eq_true, beq_bb, bne_bb, un_not, un_neg, conv_int, min2_int, max2_int, w64, w32, wu8, wu16, wu32, wu64, tdiv_nn, tmod_nn, cell_zero, cell_succ, cell_v, cells_v, cells_agg, Bool.not_true, Bool.not_false, Int.reduceLT, Int.reduceLE, Int.reduceEq, Int.reduceNeg, Int.reduceAdd, Int.reduceSub, Int.reduceMul, intOf_v, decide_true, decide_false]; rfl) ?_)
      | (refine ex_bool ?_)
      | (refine ⟨_, C1, ?_⟩)
      | (refine ⟨_, M1, ?_⟩)
      | (refine And.intro ?_ ?_)
      | (intro hx; have hprop := (show ∀ (p : Prop), p → True from fun _ _ => True.intro) _ hx; clear hprop; first | (cases hx; done) | (exfalso; revert hx; simp (disch := omega) only [decide_eq_true_eq, decide_eq_false_iff_not, Bool.not_eq_true', Bool.not_eq_false', Bool.and_eq_true, Bool.and_eq_false_iff, Int.not_lt, Int.not_le, ne_eq, not_false_eq_true, not_true_eq_false, reduceCtorEq, Bool.true_eq_false, Bool.false_eq_true, beq_iff_eq, bne_iff_ne, beq_eq_false_iff_ne, false_or, or_false, true_and, and_true]; done) | (simp (disch := omega) only [decide_eq_true_eq, decide_eq_false_iff_not, Bool.not_eq_true', Bool.not_eq_false', Bool.and_eq_true, Bool.and_eq_false_iff, Int.not_lt, Int.not_le, ne_eq, not_false_eq_true, not_true_eq_false, reduceCtorEq, Bool.true_eq_false, Bool.false_eq_true, beq_iff_eq, bne_iff_ne, beq_eq_false_iff_ne, false_or, or_false, true_and, and_true] at hx; first | (exfalso; omega) | skip) | skip)
      | trivial
      | exact fit_ofL _ _
      | (simp (disch := omega) only [notAgg_v, notAgg_sl, plain_v, fits, fitsOne, fitsCells, xsOf, cell_zero, cell_succ, List.range, List.range.loop, List.map, cond_true, cond_false, D.v.injEq, exists_eq', exists_eq, and_self, and_true, true_and, D.agg.injEq, List.length, exists_eq_left', D.sl.injEq, reduceCtorEq, false_or, true_or, or_true, or_false, cell_zero, cell_succ, cell_v, cells_v, cells_agg, List.length_cons, List.length_nil]; done))
    all_goals first
      | (exfalso; omega)
      | omega
      | exact hX.notAgg
      | exact hY.notAgg
      | exact (isL_ofL _ _).notAgg
      | exact fitI hX
      | exact plainI hX
      | exact fit_ofL _ _
      | exact plain_ofL (ivs_plain _)
      | exact plain_v _
      | rfl
      | exact .inl rfl
      | exact .inr ⟨_, rfl⟩
      | exact ⟨_, rfl⟩
      | exact ⟨_, rfl, rfl⟩
      | exact notAgg_v _
      | (simp; done)
      | fail
  · skip
    repeat' (first
      | (refine ex_some (by simp (disch := omega) only [bin_shr, bin_shl, bin_and, bin_or, bin_xor, len_str, toStr_ofL, bin_add, bin_sub, bin_mul, bin_quo, bin_rem, bin_lss, bin_leq, bin_gtr, bin_geq, bin_eql, bin_neq, eqs_cn, eqs_ci, eqs_cb, eqs_cs, Option.map_some, lenT_ofL, lst_ofL, lstSz_ofL, chunk_one, lst_nil, lst_sl, lstSz_sl, lstSz_nil, Bool.and_true, Bool.true_and, Bool.and_false, Bool.false_and, beq_self_eq_true, beq_bb, bne_bb, un_not, un_neg, conv_int, min2_int, max2_int, w64, w32, wu8, wu16, wu32, wu64, tdiv_nn, tmod_nn, cell_zero, cell_succ, cell_v, cells_v, cells_agg, Bool.not_true, Bool.not_false, Int.reduceLT, Int.reduceLE, Int.reduceEq, Int.reduceNeg, Int.reduceAdd, Int.reduceSub, Int.reduceMul, intOf_v, decide_true, decide_false]; rfl) ?_)
      | (refine ex_bool ?_)
      | (refine ⟨_, C1, ?_⟩)
      | (refine ⟨_, M1, ?_⟩)
      | (refine And.intro ?_ ?_)
      | (intro hx; have hprop := (show ∀ (p : Prop), p → True from fun _ _ => True.intro) _ hx; clear hprop; first | (cases hx; done) | (exfalso; revert hx; simp (disch := omega) only [decide_eq_true_eq, decide_eq_false_iff_not, Bool.not_eq_true', Bool.not_eq_false', Bool.and_eq_true, Bool.and_eq_false_iff, Int.not_lt, Int.not_le, ne_eq, not_false_eq_true, not_true_eq_false, reduceCtorEq, Bool.true_eq_false, Bool.false_eq_true, beq_iff_eq, bne_iff_ne, beq_eq_false_iff_ne, false_or, or_false, true_and, and_true]; done) | (simp (disch := omega) only [decide_eq_true_eq, decide_eq_false_iff_not, Bool.not_eq_true', Bool.not_eq_false', Bool.and_eq_true, Bool.and_eq_false_iff, Int.not_lt, Int.not_le, ne_eq, not_false_eq_true, not_true_eq_false, reduceCtorEq, Bool.true_eq_false, Bool.false_eq_true, beq_iff_eq, bne_iff_ne, beq_eq_false_iff_ne, false_or, or_false, true_and, and_true] at hx; first | (exfalso; omega) | skip) | skip)
      | trivial
      | exact fit_ofL _ _
      | (simp (disch := omega) only [notAgg_v, notAgg_sl, plain_v, fits, fitsOne, fitsCells, xsOf, cell_zero, cell_succ, List.range, List.range.loop, List.map, cond_true, cond_false, D.v.injEq, exists_eq', exists_eq, and_self, and_true, true_and, D.agg.injEq, List.length, exists_eq_left', D.sl.injEq, reduceCtorEq, false_or, true_or, or_true, or_false, cell_zero, cell_succ, cell_v, cells_v, cells_agg, List.length_cons, List.length_nil]; done))
    all_goals first
      | (exfalso; omega)
      | omega
      | exact hX.notAgg
      | exact hY.notAgg
      | exact (isL_ofL _ _).notAgg
      | exact fitI hX
      | exact plainI hX
      | exact fit_ofL _ _
      | exact plain_ofL (ivs_plain _)
      | exact plain_v _
      | rfl
      | exact .inl rfl
      | exact .inr ⟨_, rfl⟩
      | exact ⟨_, rfl⟩
      | exact ⟨_, rfl, rfl⟩
      | exact notAgg_v _
      | (simp; done)
      | fail

theorem vc_rgap1 (x : D) (zs : List (Int × Int)) (a b : Int) : Cond Try.prog (fun _ => none) Try.f16 [x, .agg [.v (.int .i64 a), .v (.int .i64 b)]] [ofL 2 ((kindF diF (oneF (a, b)) zs).map iv)] = ((NotAgg x ∧ (∃ (cs : List D), D.agg [D.v (Value.int IntKind.i64 a), D.v (Value.int IntKind.i64 b)] = D.agg cs ∧ cs.length = 2) ∧ True) ∧ ∃ (r : D), PureD Try.prog 20 [x] [r] ∧ fits [(false, [none])] [r] ∧ ∃ (r_1 : D), D.bin BinOp.neq r (D.v (Value.int IntKind.i64 0)) = some r_1 ∧ ∃ (b_1 : Bool), r_1 = D.v (Value.bool b_1) ∧ (b_1 = false → ∃ (r : D), PureD Try.prog 34 [D.agg [D.v (Value.int IntKind.i64 a), D.v (Value.int IntKind.i64 b)]] [r] ∧ fits [(false, [none])] [r] ∧ ∃ (r_2 : D), D.un UnOp.not r = some r_2 ∧ ∃ (b_2 : Bool), r_2 = D.v (Value.bool b_2) ∧ (b_2 = true → (PlainD (D.v nilS) ∧ True) ∧ [D.v nilS] = [ofL 2 (List.map iv (kindF diF (oneF (a, b)) zs))]) ∧ (b_2 = false → ∃ (r : D), PureD Try.prog 36 [D.agg [D.v (Value.int IntKind.i64 a), D.v (Value.int IntKind.i64 b)]] [r] ∧ fits [(false, [some 2])] [r] ∧ ∃ (r_3 : D), PureD Try.prog 35 [r, x, D.v (Value.int IntKind.i64 1)] [r_3] ∧ fits [(false, [some 2])] [r_3] ∧ (PlainD r_3 ∧ True) ∧ [r_3] = [ofL 2 (List.map iv (kindF diF (oneF (a, b)) zs))])) ∧ (b_1 = true → (PlainD (D.v nilS) ∧ True) ∧ [D.v nilS] = [ofL 2 (List.map iv (kindF diF (oneF (a, b)) zs))])) := by kernel_rfl
set_option maxHeartbeats 2000000 in
theorem rgap1 (x : D) (zs : List (Int × Int)) (a b : Int) (hX : IsL 2 (zs.map iv) x) (hm : zs.length ≤ 1000) (hc : chkF zs = 0) (hr : rgd (a, b) = true) : PureD Try.prog 16 [x, .agg [.v (.int .i64 a), .v (.int .i64 b)]] [ofL 2 ((kindF diF (oneF (a, b)) zs).map iv)] := by
  refine pure_cond (Lp := (fun _ => none)) (by kernel_rfl) Try.func16 (by kernel_rfl) (by kernel_rfl) ?_
  rw [vc_rgap1 x zs a b]
  have C1 := rcheck x zs hX (by omega)
  have M1 := rmay a b
  have O1 := one a b
  have h1 := oneF_len (a, b)
  have K1 := kind1 _ x (oneF (a, b)) zs (isL_ofL 2 _) (by omega) hX (by omega)
  rw [hc] at C1
  rw [hr] at M1
  repeat' (first
    | (refine ex_some (by simp (disch := omega) only [bin_shr, bin_shl, bin_and, bin_or, bin_xor, len_str, toStr_ofL, bin_add, bin_sub, bin_mul, bin_quo, bin_rem, bin_lss, bin_leq, bin_gtr, bin_geq, bin_eql, bin_neq, eqs_cn, eqs_ci, eqs_cb, eqs_cs, Option.map_some, lenT_ofL, lst_ofL, lstSz_ofL, chunk_one, lst_nil, lst_sl, lstSz_sl, lstSz_nil, Bool.and_true, Bool.true_and, Bool.and_false, Bool.false_and, beq_self_eq_true, beq_bb, bne_bb, un_not, un_neg, conv_int, min2_int, max2_int, w64, w32, wu8, wu16, wu32, wu64, tdiv_nn, tmod_nn, cell_zero, cell_succ, cell_v, cells_v, cells_agg, Bool.not_true, Bool.not_false, Int.reduceLT, Int.reduceLE, Int.reduceEq, Int.reduceNeg, Int.reduceAdd, Int.reduceSub, Int.reduceMul, intOf_v, decide_true, decide_false]; rfl) ?_)
    | (refine ex_bool ?_)
    | (refine ⟨_, C1, ?_⟩)
    | (refine ⟨_, M1, ?_⟩)
    | (refine ⟨_, O1, ?_⟩)
    | (refine ⟨_, K1, ?_⟩)
    | (refine And.intro ?_ ?_)
    | (intro hx; have hprop := (show ∀ (p : Prop), p → True from fun _ _ => True.intro) _ hx; clear hprop; first | (cases hx; done) | (exfalso; revert hx; simp (disch := omega) only [decide_eq_true_eq, decide_eq_false_iff_not, Bool.not_eq_true', Bool.not_eq_false', Bool.and_eq_true, Bool.and_eq_false_iff, Int.not_lt, Int.not_le, ne_eq, not_false_eq_true, not_true_eq_false, reduceCtorEq, Bool.true_eq_false, Bool.false_eq_true, beq_iff_eq, bne_iff_ne, beq_eq_false_iff_ne, false_or, or_false, true_and, and_true]; done) | (simp (disch := omega) only [decide_eq_true_eq, decide_eq_false_iff_not, Bool.not_eq_true', Bool.not_eq_false', Bool.and_eq_true, Bool.and_eq_false_iff, Int.not_lt, Int.not_le, ne_eq, not_false_eq_true, not_true_eq_false, reduceCtorEq, Bool.true_eq_false, Bool.false_eq_true, beq_iff_eq, bne_iff_ne, beq_eq_false_iff_ne, false_or, or_false, true_and, and_true] at hx; first | (exfalso; omega) | skip) | skip)
    | trivial
    | exact fit_ofL _ _
    | (simp (disch := omega) only [notAgg_v, notAgg_sl, plain_v, fits, fitsOne, fitsCells, xsOf, cell_zero, cell_succ, List.range, List.range.loop, List.map, cond_true, cond_false, D.v.injEq, exists_eq', exists_eq, and_self, and_true, true_and, D.agg.injEq, List.length, exists_eq_left', D.sl.injEq, reduceCtorEq, false_or, true_or, or_true, or_false, cell_zero, cell_succ, cell_v, cells_v, cells_agg, List.length_cons, List.length_nil]; done))
  all_goals first
    | (exfalso; omega)
    | omega
    | exact hX.notAgg
    | exact hY.notAgg
    | exact (isL_ofL _ _).notAgg
    | exact fitI hX
    | exact plainI hX
    | exact fit_ofL _ _
    | exact plain_ofL (ivs_plain _)
    | exact plain_v _
    | rfl
    | exact .inl rfl
    | exact .inr ⟨_, rfl⟩
    | exact ⟨_, rfl⟩
    | exact ⟨_, rfl, rfl⟩
    | exact notAgg_v _
    | (simp; done)
    | fail

theorem vc_rmeet0 (x y : D) (zs ys : List (Int × Int)) : Cond Try.prog (fun _ => none) Try.f18 [x, y] [.v nilS] = ((NotAgg x ∧ NotAgg y ∧ True) ∧ ∃ (r : D), PureD Try.prog 20 [x] [r] ∧ fits [(false, [none])] [r] ∧ ∃ (r_1 : D), D.bin BinOp.neq r (D.v (Value.int IntKind.i64 0)) = some r_1 ∧ ∃ (b : Bool), r_1 = D.v (Value.bool b) ∧ (b = false → ∃ (r : D), PureD Try.prog 20 [y] [r] ∧ fits [(false, [none])] [r] ∧ ∃ (r_2 : D), D.bin BinOp.neq r (D.v (Value.int IntKind.i64 0)) = some r_2 ∧ ∃ (b : Bool), r_2 = D.v (Value.bool b) ∧ (b = true → (PlainD (D.v nilS) ∧ True) ∧ [D.v nilS] = [D.v nilS]) ∧ (b = false → ∃ (r : D), PureD Try.prog 35 [x, y, D.v (Value.int IntKind.i64 2)] [r] ∧ fits [(false, [some 2])] [r] ∧ (PlainD r ∧ True) ∧ [r] = [D.v nilS])) ∧ (b = true → (PlainD (D.v nilS) ∧ True) ∧ [D.v nilS] = [D.v nilS])) := by kernel_rfl
set_option maxHeartbeats 2000000 in
theorem rmeet0 (x y : D) (zs ys : List (Int × Int)) (hX : IsL 2 (zs.map iv) x) (hm : zs.length ≤ 1000) (hY : IsL 2 (ys.map iv) y) (hn : ys.length ≤ 1000) (hT : chkF zs ≠ 0 ∨ chkF ys ≠ 0) : PureD Try.prog 18 [x, y] [.v nilS] := by
  refine pure_cond (Lp := (fun _ => none)) (by kernel_rfl) Try.func18 (by kernel_rfl) (by kernel_rfl) ?_
  rw [vc_rmeet0 x y zs ys]
  have C1 := rcheck x zs hX (by omega)
  have C2 := rcheck y ys hY (by omega)
  by_cases hc : chkF zs = 0
  · have hr : ¬ chkF ys = 0 := hT.resolve_left (fun h => h hc)
    rw [hc] at C1
    repeat' (first
      | (refine ex_some (by simp (disch := omega) only [bin_shr, bin_shl, bin_and, bin_or, bin_xor, len_str, toStr_ofL, bin_add, bin_sub, bin_mul, bin_quo, bin_rem, bin_lss, bin_leq, bin_gtr, bin_geq, bin_eql, bin_neq, eqs_cn, eqs_ci, eqs_cb, eqs_cs, Option.map_some, lenT_ofL, lst_ofL, lstSz_ofL, chunk_one, lst_nil, lst_sl, lstSz_sl, lstSz_nil, Bool.and_true, Bool.true_and, Bool.and_false, Bool.false_and, beq_self_eq_true, beq_bb, bne_bb, un_not, un_neg, conv_int, min2_int, max2_int, w64, w32, wu8, wu16, wu32, wu64, tdiv_nn, tmod_nn, cell_zero, cell_succ, cell_v, cells_v, cells_agg, Bool.not_true, Bool.not_false, Int.reduceLT, Int.reduceLE, Int.reduceEq, Int.reduceNeg, Int.reduceAdd, Int.reduceSub, Int.reduceMul, intOf_v, decide_true, decide_false]; rfl) ?_)
      | (refine ex_bool ?_)
      | (refine ⟨_, C1, ?_⟩)
      | (refine ⟨_, C2, ?_⟩)
      | (refine And.intro ?_ ?_)
      | (intro hx; have hprop := (show ∀ (p : Prop), p → True from fun _ _ => True.intro) _ hx; clear hprop; first | (cases hx; done) | (exfalso; revert hx; simp (disch := omega) only [decide_eq_true_eq, decide_eq_false_iff_not, Bool.not_eq_true', Bool.not_eq_false', Bool.and_eq_true, Bool.and_eq_false_iff, Int.not_lt, Int.not_le, ne_eq, not_false_eq_true, not_true_eq_false, reduceCtorEq, Bool.true_eq_false, Bool.false_eq_true, beq_iff_eq, bne_iff_ne, beq_eq_false_iff_ne, false_or, or_false, true_and, and_true]; done) | (simp (disch := omega) only [decide_eq_true_eq, decide_eq_false_iff_not, Bool.not_eq_true', Bool.not_eq_false', Bool.and_eq_true, Bool.and_eq_false_iff, Int.not_lt, Int.not_le, ne_eq, not_false_eq_true, not_true_eq_false, reduceCtorEq, Bool.true_eq_false, Bool.false_eq_true, beq_iff_eq, bne_iff_ne, beq_eq_false_iff_ne, false_or, or_false, true_and, and_true] at hx; first | (exfalso; omega) | skip) | skip)
      | trivial
      | exact fit_ofL _ _
      | (simp (disch := omega) only [notAgg_v, notAgg_sl, plain_v, fits, fitsOne, fitsCells, xsOf, cell_zero, cell_succ, List.range, List.range.loop, List.map, cond_true, cond_false, D.v.injEq, exists_eq', exists_eq, and_self, and_true, true_and, D.agg.injEq, List.length, exists_eq_left', D.sl.injEq, reduceCtorEq, false_or, true_or, or_true, or_false, cell_zero, cell_succ, cell_v, cells_v, cells_agg, List.length_cons, List.length_nil]; done))
    all_goals first
      | (exfalso; omega)
      | omega
      | exact hX.notAgg
      | exact hY.notAgg
      | exact (isL_ofL _ _).notAgg
      | exact fitI hX
      | exact plainI hX
      | exact fit_ofL _ _
      | exact plain_ofL (ivs_plain _)
      | exact plain_v _
      | rfl
      | exact .inl rfl
      | exact .inr ⟨_, rfl⟩
      | exact ⟨_, rfl⟩
      | exact ⟨_, rfl, rfl⟩
      | exact notAgg_v _
      | (simp; done)
      | fail
  · skip
    repeat' (first
      | (refine ex_some (by simp (disch := omega) only [bin_shr, bin_shl, bin_and, bin_or, bin_xor, len_str, toStr_ofL, bin_add, bin_sub, bin_mul, bin_quo, bin_rem, bin_lss, bin_leq, bin_gtr, bin_geq, bin_eql, bin_neq, eqs_cn, eqs_ci, eqs_cb, eqs_cs, Option.map_some, lenT_ofL, lst_ofL, lstSz_ofL, chunk_one, lst_nil, lst_sl, lstSz_sl, lstSz_nil, Bool.and_true, Bool.true_and, Bool.and_false, Bool.false_and, beq_self_eq_true, beq_bb, bne_bb, un_not, un_neg, conv_int, min2_int, max2_int, w64, w32, wu8, wu16, wu32, wu64, tdiv_nn, tmod_nn, cell_zero, cell_succ, cell_v, cells_v, cells_agg, Bool.not_true, Bool.not_false, Int.reduceLT, Int.reduceLE, Int.reduceEq, Int.reduceNeg, Int.reduceAdd, Int.reduceSub, Int.reduceMul, intOf_v, decide_true, decide_false]; rfl) ?_)
      | (refine ex_bool ?_)
      | (refine ⟨_, C1, ?_⟩)
      | (refine ⟨_, C2, ?_⟩)
      | (refine And.intro ?_ ?_)
      | (intro hx; have hprop := (show ∀ (p : Prop), p → True from fun _ _ => True.intro) _ hx; clear hprop; first | (cases hx; done) | (exfalso; revert hx; simp (disch := omega) only [decide_eq_true_eq, decide_eq_false_iff_not, Bool.not_eq_true', Bool.not_eq_false', Bool.and_eq_true, Bool.and_eq_false_iff, Int.not_lt, Int.not_le, ne_eq, not_false_eq_true, not_true_eq_false, reduceCtorEq, Bool.true_eq_false, Bool.false_eq_true, beq_iff_eq, bne_iff_ne, beq_eq_false_iff_ne, false_or, or_false, true_and, and_true]; done) | (simp (disch := omega) only [decide_eq_true_eq, decide_eq_false_iff_not, Bool.not_eq_true', Bool.not_eq_false', Bool.and_eq_true, Bool.and_eq_false_iff, Int.not_lt, Int.not_le, ne_eq, not_false_eq_true, not_true_eq_false, reduceCtorEq, Bool.true_eq_false, Bool.false_eq_true, beq_iff_eq, bne_iff_ne, beq_eq_false_iff_ne, false_or, or_false, true_and, and_true] at hx; first | (exfalso; omega) | skip) | skip)
      | trivial
      | exact fit_ofL _ _
      | (simp (disch := omega) only [notAgg_v, notAgg_sl, plain_v, fits, fitsOne, fitsCells, xsOf, cell_zero, cell_succ, List.range, List.range.loop, List.map, cond_true, cond_false, D.v.injEq, exists_eq', exists_eq, and_self, and_true, true_and, D.agg.injEq, List.length, exists_eq_left', D.sl.injEq, reduceCtorEq, false_or, true_or, or_true, or_false, cell_zero, cell_succ, cell_v, cells_v, cells_agg, List.length_cons, List.length_nil]; done))
    all_goals first
      | (exfalso; omega)
      | omega
      | exact hX.notAgg
      | exact hY.notAgg
      | exact (isL_ofL _ _).notAgg
      | exact fitI hX
      | exact plainI hX
      | exact fit_ofL _ _
      | exact plain_ofL (ivs_plain _)
      | exact plain_v _
      | rfl
      | exact .inl rfl
      | exact .inr ⟨_, rfl⟩
      | exact ⟨_, rfl⟩
      | exact ⟨_, rfl, rfl⟩
      | exact notAgg_v _
      | (simp; done)
      | fail

theorem vc_rmeet1 (x y : D) (zs ys : List (Int × Int)) : Cond Try.prog (fun _ => none) Try.f18 [x, y] [ofL 2 ((kindF anF zs ys).map iv)] = ((NotAgg x ∧ NotAgg y ∧ True) ∧ ∃ (r : D), PureD Try.prog 20 [x] [r] ∧ fits [(false, [none])] [r] ∧ ∃ (r_1 : D), D.bin BinOp.neq r (D.v (Value.int IntKind.i64 0)) = some r_1 ∧ ∃ (b : Bool), r_1 = D.v (Value.bool b) ∧ (b = false → ∃ (r : D), PureD Try.prog 20 [y] [r] ∧ fits [(false, [none])] [r] ∧ ∃ (r_2 : D), D.bin BinOp.neq r (D.v (Value.int IntKind.i64 0)) = some r_2 ∧ ∃ (b : Bool), r_2 = D.v (Value.bool b) ∧ (b = true → (PlainD (D.v nilS) ∧ True) ∧ [D.v nilS] = [ofL 2 (List.map iv (kindF anF zs ys))]) ∧ (b = false → ∃ (r : D), PureD Try.prog 35 [x, y, D.v (Value.int IntKind.i64 2)] [r] ∧ fits [(false, [some 2])] [r] ∧ (PlainD r ∧ True) ∧ [r] = [ofL 2 (List.map iv (kindF anF zs ys))])) ∧ (b = true → (PlainD (D.v nilS) ∧ True) ∧ [D.v nilS] = [ofL 2 (List.map iv (kindF anF zs ys))])) := by kernel_rfl
set_option maxHeartbeats 2000000 in
theorem rmeet1 (x y : D) (zs ys : List (Int × Int)) (hX : IsL 2 (zs.map iv) x) (hm : zs.length ≤ 1000) (hY : IsL 2 (ys.map iv) y) (hn : ys.length ≤ 1000) (hc : chkF zs = 0) (hd : chkF ys = 0) : PureD Try.prog 18 [x, y] [ofL 2 ((kindF anF zs ys).map iv)] := by
  refine pure_cond (Lp := (fun _ => none)) (by kernel_rfl) Try.func18 (by kernel_rfl) (by kernel_rfl) ?_
  rw [vc_rmeet1 x y zs ys]
  have C1 := rcheck x zs hX (by omega)
  have C2 := rcheck y ys hY (by omega)
  have K1 := kind2 x y zs ys hX hm hY hn
  rw [hc] at C1
  rw [hd] at C2
  repeat' (first
    | (refine ex_some (by simp (disch := omega) only [bin_shr, bin_shl, bin_and, bin_or, bin_xor, len_str, toStr_ofL, bin_add, bin_sub, bin_mul, bin_quo, bin_rem, bin_lss, bin_leq, bin_gtr, bin_geq, bin_eql, bin_neq, eqs_cn, eqs_ci, eqs_cb, eqs_cs, Option.map_some, lenT_ofL, lst_ofL, lstSz_ofL, chunk_one, lst_nil, lst_sl, lstSz_sl, lstSz_nil, Bool.and_true, Bool.true_and, Bool.and_false, Bool.false_and, beq_self_eq_true, beq_bb, bne_bb, un_not, un_neg, conv_int, min2_int, max2_int, w64, w32, wu8, wu16, wu32, wu64, tdiv_nn, tmod_nn, cell_zero, cell_succ, cell_v, cells_v, cells_agg, Bool.not_true, Bool.not_false, Int.reduceLT, Int.reduceLE, Int.reduceEq, Int.reduceNeg, Int.reduceAdd, Int.reduceSub, Int.reduceMul, intOf_v, decide_true, decide_false]; rfl) ?_)
    | (refine ex_bool ?_)
    | (refine ⟨_, C1, ?_⟩)
    | (refine ⟨_, C2, ?_⟩)
    | (refine ⟨_, K1, ?_⟩)
    | (refine And.intro ?_ ?_)
    | (intro hx; have hprop := (show ∀ (p : Prop), p → True from fun _ _ => True.intro) _ hx; clear hprop; first | (cases hx; done) | (exfalso; revert hx; simp (disch := omega) only [decide_eq_true_eq, decide_eq_false_iff_not, Bool.not_eq_true', Bool.not_eq_false', Bool.and_eq_true, Bool.and_eq_false_iff, Int.not_lt, Int.not_le, ne_eq, not_false_eq_true, not_true_eq_false, reduceCtorEq, Bool.true_eq_false, Bool.false_eq_true, beq_iff_eq, bne_iff_ne, beq_eq_false_iff_ne, false_or, or_false, true_and, and_true]; done) | (simp (disch := omega) only [decide_eq_true_eq, decide_eq_false_iff_not, Bool.not_eq_true', Bool.not_eq_false', Bool.and_eq_true, Bool.and_eq_false_iff, Int.not_lt, Int.not_le, ne_eq, not_false_eq_true, not_true_eq_false, reduceCtorEq, Bool.true_eq_false, Bool.false_eq_true, beq_iff_eq, bne_iff_ne, beq_eq_false_iff_ne, false_or, or_false, true_and, and_true] at hx; first | (exfalso; omega) | skip) | skip)
    | trivial
    | exact fit_ofL _ _
    | (simp (disch := omega) only [notAgg_v, notAgg_sl, plain_v, fits, fitsOne, fitsCells, xsOf, cell_zero, cell_succ, List.range, List.range.loop, List.map, cond_true, cond_false, D.v.injEq, exists_eq', exists_eq, and_self, and_true, true_and, D.agg.injEq, List.length, exists_eq_left', D.sl.injEq, reduceCtorEq, false_or, true_or, or_true, or_false, cell_zero, cell_succ, cell_v, cells_v, cells_agg, List.length_cons, List.length_nil]; done))
  all_goals first
    | (exfalso; omega)
    | omega
    | exact hX.notAgg
    | exact hY.notAgg
    | exact (isL_ofL _ _).notAgg
    | exact fitI hX
    | exact plainI hX
    | exact fit_ofL _ _
    | exact plain_ofL (ivs_plain _)
    | exact plain_v _
    | rfl
    | exact .inl rfl
    | exact .inr ⟨_, rfl⟩
    | exact ⟨_, rfl⟩
    | exact ⟨_, rfl, rfl⟩
    | exact notAgg_v _
    | (simp; done)
    | fail

end Go.Proofs.Ytpbmlllffmkkdaa