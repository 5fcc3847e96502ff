/-
  Layer 6: refusals; what every right program does.
-/
import Derived.Test.YtpbmlllffmkkdaaT1
import Derived.Test.YtpbmlllffmkkdaaT2
import Derived.Test.YtpbmlllffmkkdaaT3
import Derived.Test.YtpbmlllffmkkdaaT4
import Derived.Test.YtpbmlllffmkkdaaT5
import Derived.Test.YtpbmlllffmkkdaaT6
namespace Go.Proofs.Ytpbmlllffmkkdaa
open Go.RowKit
set_option linter.unusedSimpArgs false
set_option linter.unusedVariables false


theorem bx {a b : Bool} (h : a = b) : D.v (.bool a) = D.v (.bool b) := by rw [h]

theorem take_sn {zs : List Z} {k : Nat} (h : k < zs.length) : zs.take (k + 1) = zs.take k ++ [zs.getD k (0, 0)] := by
  rw [List.take_succ_eq_append_getElem h]; simp [List.getD, h]
theorem lenT_slA (e : TypeId) (sz : Nat) (es : List D) : D.lenT (.slice e) (.sl sz es) = some (.v (.int .i64 (es.length : Nat))) := rfl
theorem at0 (sz : Nat) (k : IntKind) (a : D) (l : List D) : (D.sl sz (a :: l)).at_ (.v (.int k 0)) = a := rfl
theorem at1 (sz : Nat) (k : IntKind) (a b : D) (l : List D) : (D.sl sz (a :: b :: l)).at_ (.v (.int k 1)) = b := rfl
theorem at2 (sz : Nat) (k : IntKind) (a b c : D) (l : List D) : (D.sl sz (a :: b :: c :: l)).at_ (.v (.int k 2)) = c := rfl
theorem isZ (l : List Z) : IsL 2 (l.map iv) (ofL 2 (l.map iv)) := isL_ofL _ _
theorem wa1 : addF [] (1, 3) = [(1, 3)] ∧ chkF [] = 0 ∧ rgd (1, 3) = true ∧ emp (1, 3) = false := by decide +kernel
theorem wa2 : addF [(1, 3)] (3, 5) = [(1, 5)] ∧ chkF [(1, 3)] = 0 ∧ rgd (3, 5) = true ∧ emp (3, 5) = false := by decide +kernel
theorem wa3 : cutF [(1, 5)] (2, 4) = [(1, 2), (4, 5)] ∧ chkF [(1, 5)] = 0 ∧ rgd (2, 4) = true ∧ emp (2, 4) = false := by decide +kernel
theorem wa4 : gapF [(1, 2), (4, 5)] (0, 9) = [(0, 1), (2, 4), (5, 9)] ∧ chkF [(1, 2), (4, 5)] = 0 ∧ rgd (0, 9) = true := by decide +kernel
theorem wa5 : hasF [(1, 2), (4, 5)] 4 = true ∧ hasF [(1, 2), (4, 5)] 2 = false ∧ holdsF [(1, 5)] 2 5 = true ∧ holdsF [(1, 2), (4, 5)] 1 3 = false ∧ countF [(1, 2), (4, 5)] = 2 ∧ firstF [(1, 5)] 1 = 5 ∧ chkF [(1, 2), (2, 3)] = 10 ∧ ivB [(1, 2), (4, 5)] [(1, 2), (4, 5)] = true ∧ ivB [(1, 5)] [(1, 2), (4, 5)] = false := by decide +kernel
theorem wa6 : meetF [(1, 5)] [(1, 2), (4, 5)] = [(1, 2), (4, 5)] := by
  have e1 : adv [(1, 2), (4, 5)] 1 0 = 0 := adv_no (by decide)
  have e2 : mid [(1, 2), (4, 5)] (1, 5) 0 [] = mid [(1, 2), (4, 5)] (1, 5) 1 [(1, 2)] := (mid_go (l := []) (x := (1, 5)) (by decide) (by decide)).symm
  have e3 : mid [(1, 2), (4, 5)] (1, 5) 1 [(1, 2)] = mid [(1, 2), (4, 5)] (1, 5) 2 [(1, 2), (4, 5)] := (mid_go (l := [(1, 2)]) (x := (1, 5)) (by decide) (by decide)).symm
  have e4 : mid [(1, 2), (4, 5)] (1, 5) 2 [(1, 2), (4, 5)] = [(1, 2), (4, 5)] := mid_end (by decide)
  show (mid [(1, 2), (4, 5)] (1, 5) (adv [(1, 2), (4, 5)] 1 0) []) = _
  rw [e1, e2, e3, e4]

theorem vc_add0 (x : D) (zs : List (Int × Int)) (a b : Int) : Cond Try.prog (fun k => if k = 3006 then some ⟨[], [], [3, 5, 6], [(3, [0, 1], []), (5, [], [0]), (6, [0], [])]⟩ else if k = 4006 then some ⟨[40], [], [], []⟩ else none) Try.f11 [x, .agg [.v (.int .i64 a), .v (.int .i64 b)]] [x] = ((NotAgg x ∧ (∃ (cs : List D), D.agg [D.v (Value.int IntKind.i64 a), D.v (Value.int IntKind.i64 b)] = D.agg cs ∧ cs.length = 2) ∧ True) ∧ ∃ (r : D), PureD Try.prog 30 [x, D.agg [D.v (Value.int IntKind.i64 a), D.v (Value.int IntKind.i64 b)]] [r] ∧ fits [(false, [none])] [r] ∧ ∃ (r_1 : D), D.un UnOp.not r = some r_1 ∧ ∃ (b_1 : Bool), r_1 = D.v (Value.bool b_1) ∧ (b_1 = false → ∃ (r : D), PureD Try.prog 31 [D.agg [D.v (Value.int IntKind.i64 a), D.v (Value.int IntKind.i64 b)]] [r] ∧ fits [(false, [none])] [r] ∧ ∃ (b_2 : Bool), r = D.v (Value.bool b_2) ∧ (b_2 = true → ∃ (r : D), PureD Try.prog 32 [x] [r] ∧ fits [(false, [some 2])] [r] ∧ (PlainD r ∧ True) ∧ [r] = [x]) ∧ (b_2 = false → ∃ (r : D), ReadD Try.prog 33 [x] [r] ∧ (NotAgg r ∧ True) ∧ ∃ (caps : List D), ∃ (xs : List (List D)), ∃ (I : Nat → List D → Prop), r = D.fn 40 caps ∧ SeqD Try.prog 40 caps xs ∧ fitsX [some 2] xs ∧ (((true = true ∧ true = true) ∧ (true = true ∧ true = true) ∧ (true = true ∧ true = true) ∧ True) ∧ ((true = true ∧ D.v (Value.slice none 0 0) = D.v (Value.slice none 0 0)) ∧ (D.v (Value.int IntKind.i64 a) = D.v (Value.int IntKind.i64 a) ∧ D.v (Value.int IntKind.i64 b) = D.v (Value.int IntKind.i64 b) ∧ True) ∧ (true = true ∧ True) ∧ (D.v (Value.bool false) = D.v (Value.bool false) ∧ True) ∧ True) ∧ I 0 [D.v (Value.int IntKind.i64 a), D.v (Value.int IntKind.i64 b), D.v (Value.bool false), D.v (Value.slice none 0 0)]) ∧ (∀ (k : Nat) (r : D), xs[k]? = some [r] → ∀ (r_2 r_3 r_4 r_5 : D), I k [r_2, r_3, r_4, r_5] → ∃ (r_6 : D), D.bin BinOp.lss (r.cell 1) r_2 = some r_6 ∧ ∃ (b : Bool), r_6 = D.v (Value.bool b) ∧ (b = true → ∃ (ls : List D), r_5.lst = some ls ∧ ∃ (lx : List D), D.lstSz 2 (D.sl 2 (chunks true 2 1 [r.cell 0, r.cell 1])) = some lx ∧ (ls.length + lx.length) * 16 ≤ 1099511627776 ∧ ((true = true ∧ true = true) ∧ (true = true ∧ true = true) ∧ (true = true ∧ true = true) ∧ True) ∧ ((true = true ∧ D.app 2 r_5 lx = D.app 2 r_5 lx) ∧ (r_2 = r_2 ∧ r_3 = r_3 ∧ True) ∧ (true = true ∧ True) ∧ (r_4 = r_4 ∧ True) ∧ True) ∧ I (k + 1) [r_2, r_3, r_4, D.app 2 r_5 lx]) ∧ (b = false → ∃ (r_7 : D), D.bin BinOp.gtr (r.cell 0) r_3 = some r_7 ∧ ∃ (b : Bool), r_7 = D.v (Value.bool b) ∧ (b = true → ∃ (r_8 : D), D.un UnOp.not r_4 = some r_8 ∧ ∃ (b : Bool), r_8 = D.v (Value.bool b) ∧ (b = true → ∃ (ls : List D), r_5.lst = some ls ∧ ∃ (lx : List D), D.lstSz 2 (D.sl 2 (chunks true 2 1 [r_2, r_3])) = some lx ∧ (ls.length + lx.length) * 16 ≤ 1099511627776 ∧ ∃ (ls : List D), (D.app 2 r_5 lx).lst = some ls ∧ ∃ (lx_1 : List D), D.lstSz 2 (D.sl 2 (chunks true 2 1 [r.cell 0, r.cell 1])) = some lx_1 ∧ (ls.length + lx_1.length) * 16 ≤ 1099511627776 ∧ ((true = true ∧ true = true) ∧ (true = true ∧ true = true) ∧ (true = true ∧ true = true) ∧ True) ∧ ((true = true ∧ D.app 2 (D.app 2 r_5 lx) lx_1 = D.app 2 (D.app 2 r_5 lx) lx_1) ∧ (r_2 = r_2 ∧ r_3 = r_3 ∧ True) ∧ (true = true ∧ True) ∧ (D.v (Value.bool true) = D.v (Value.bool true) ∧ True) ∧ True) ∧ I (k + 1) [r_2, r_3, D.v (Value.bool true), D.app 2 (D.app 2 r_5 lx) lx_1]) ∧ (b = false → ∃ (ls : List D), r_5.lst = some ls ∧ ∃ (lx : List D), D.lstSz 2 (D.sl 2 (chunks true 2 1 [r.cell 0, r.cell 1])) = some lx ∧ (ls.length + lx.length) * 16 ≤ 1099511627776 ∧ ((true = true ∧ true = true) ∧ (true = true ∧ true = true) ∧ (true = true ∧ true = true) ∧ True) ∧ ((true = true ∧ D.app 2 r_5 lx = D.app 2 r_5 lx) ∧ (r_2 = r_2 ∧ r_3 = r_3 ∧ True) ∧ (true = true ∧ True) ∧ (r_4 = r_4 ∧ True) ∧ True) ∧ I (k + 1) [r_2, r_3, r_4, D.app 2 r_5 lx])) ∧ (b = false → ∃ (r_8 : D), r_2.min2 (r.cell 0) = some r_8 ∧ ∃ (r_9 : D), r_3.max2 (r.cell 1) = some r_9 ∧ ((true = true ∧ true = true) ∧ (true = true ∧ true = true) ∧ (true = true ∧ true = true) ∧ True) ∧ ((true = true ∧ r_5 = r_5) ∧ (r_8 = r_8 ∧ r_9 = r_9 ∧ True) ∧ (true = true ∧ True) ∧ (r_4 = r_4 ∧ True) ∧ True) ∧ I (k + 1) [r_8, r_9, r_4, r_5]))) ∧ ∀ (r r_2 r_3 r_4 : D), I xs.length [r, r_2, r_3, r_4] → ∃ (r_5 : D), D.un UnOp.not r_3 = some r_5 ∧ ∃ (b : Bool), r_5 = D.v (Value.bool b) ∧ (b = true → ∃ (ls : List D), r_4.lst = some ls ∧ ∃ (lx : List D), D.lstSz 2 (D.sl 2 (chunks true 2 1 [r, r_2])) = some lx ∧ (ls.length + lx.length) * 16 ≤ 1099511627776 ∧ (PlainD (D.app 2 r_4 lx) ∧ True) ∧ [D.app 2 r_4 lx] = [x]) ∧ (b = false → (PlainD r_4 ∧ True) ∧ [r_4] = [x]))) ∧ (b_1 = true → ∃ (r : D), PureD Try.prog 32 [x] [r] ∧ fits [(false, [some 2])] [r] ∧ (PlainD r ∧ True) ∧ [r] = [x])) := by kernel_rfl
set_option maxHeartbeats 2000000 in
theorem add0 (x : D) (zs : List (Int × Int)) (a b : Int) (hX : IsL 2 (zs.map iv) x) (hm : zs.length ≤ 10000) (hT : (rgd (a, b) && decide (chkF zs = 0)) = false) : PureD Try.prog 11 [x, .agg [.v (.int .i64 a), .v (.int .i64 b)]] [x] := by
  refine pure_cond (Lp := (fun k => if k = 3006 then some ⟨[], [], [3, 5, 6], [(3, [0, 1], []), (5, [], [0]), (6, [0], [])]⟩ else if k = 4006 then some ⟨[40], [], [], []⟩ else none)) (by kernel_rfl) Try.func11 (by kernel_rfl) (by kernel_rfl) ?_
  rw [vc_add0 x zs a b]
  have EA := each x hX.notAgg
  have T := takes x zs a b hX (by omega)
  rw [hT] at T
  have R := empty a b
  have C := clone x zs hX (by omega)
  repeat' (first
    | (refine ex_some (by simp (disch := omega) only [bin_shr, bin_shl, bin_and, bin_or, bin_xor, len_str, toStr_ofL, bin_add, bin_sub, bin_mul, bin_quo, bin_rem, bin_lss, bin_leq, bin_gtr, bin_geq, bin_eql, bin_neq, eqs_cn, eqs_ci, eqs_cb, eqs_cs, Option.map_some, lenT_ofL, lst_ofL, lstSz_ofL, chunk_one, lst_nil, lst_sl, lstSz_sl, lstSz_nil, Bool.and_true, Bool.true_and, Bool.and_false, Bool.false_and, beq_self_eq_true, beq_bb, bne_bb, un_not, un_neg, conv_int, min2_int, max2_int, w64, w32, wu8, wu16, wu32, wu64, tdiv_nn, tmod_nn, cell_zero, cell_succ, cell_v, cells_v, cells_agg, Bool.not_true, Bool.not_false, Int.reduceLT, Int.reduceLE, Int.reduceEq, Int.reduceNeg, Int.reduceAdd, Int.reduceSub, Int.reduceMul, intOf_v, decide_true, decide_false]; rfl) ?_)
    | (refine ex_bool ?_)
    | (refine ⟨_, EA, ?_⟩)
    | (refine ⟨_, T, ?_⟩)
    | (refine ⟨_, R, ?_⟩)
    | (refine ⟨_, C, ?_⟩)
    | (refine And.intro ?_ ?_)
    | (intro hx; have hprop := (show ∀ (p : Prop), p → True from fun _ _ => True.intro) _ hx; clear hprop; first | (cases hx; done) | (exfalso; revert hx; simp (disch := omega) only [decide_eq_true_eq, decide_eq_false_iff_not, Bool.not_eq_true', Bool.not_eq_false', Bool.and_eq_true, Bool.and_eq_false_iff, Int.not_lt, Int.not_le, ne_eq, not_false_eq_true, not_true_eq_false, reduceCtorEq, Bool.true_eq_false, Bool.false_eq_true, beq_iff_eq, bne_iff_ne, beq_eq_false_iff_ne, false_or, or_false, true_and, and_true]; done) | (simp (disch := omega) only [decide_eq_true_eq, decide_eq_false_iff_not, Bool.not_eq_true', Bool.not_eq_false', Bool.and_eq_true, Bool.and_eq_false_iff, Int.not_lt, Int.not_le, ne_eq, not_false_eq_true, not_true_eq_false, reduceCtorEq, Bool.true_eq_false, Bool.false_eq_true, beq_iff_eq, bne_iff_ne, beq_eq_false_iff_ne, false_or, or_false, true_and, and_true] at hx; first | (exfalso; omega) | skip) | skip)
    | trivial
    | exact fit_ofL _ _
    | (simp (disch := omega) only [notAgg_v, notAgg_sl, plain_v, fits, fitsOne, fitsCells, xsOf, cell_zero, cell_succ, List.range, List.range.loop, List.map, cond_true, cond_false, D.v.injEq, exists_eq', exists_eq, and_self, and_true, true_and, D.agg.injEq, List.length, exists_eq_left', D.sl.injEq, reduceCtorEq, false_or, true_or, or_true, or_false, cell_zero, cell_succ, cell_v, cells_v, cells_agg, List.length_cons, List.length_nil]; done))
  all_goals first
    | (exfalso; omega)
    | omega
    | exact notAgg_fn _ _
    | exact hX.notAgg
    | exact plain_ofL (ivs_plain _)
    | (rw [app2r]; exact plain_ofL (ivs_plain _))
    | rfl
    | exact app2 _ _ _
    | (rw [ch2]; simp only [List.length_map, List.length_append, List.length_cons, List.length_nil]; omega)
    | assumption
    | exact hX.fits_
    | (rcases hX with rfl | ⟨rfl, _⟩ <;> first | exact .inl rfl | exact .inr ⟨_, rfl⟩)
    | (rcases hX with rfl | ⟨rfl, _⟩ <;> first | exact plain_v _ | exact plain_sl (ivs_plain _))
    | (simp only [List.length_map]; omega)
    | (simp_all [kp]; done)
    | (simp_all; done)
    | fail

set_option maxHeartbeats 2000000 in
theorem add0e (x : D) (zs : List (Int × Int)) (a b : Int) (hX : IsL 2 (zs.map iv) x) (hm : zs.length ≤ 10000) (hT : (rgd (a, b) && decide (chkF zs = 0)) = true) (he : emp (a, b) = true) : PureD Try.prog 11 [x, .agg [.v (.int .i64 a), .v (.int .i64 b)]] [x] := by
  refine pure_cond (Lp := (fun k => if k = 3006 then some ⟨[], [], [3, 5, 6], [(3, [0, 1], []), (5, [], [0]), (6, [0], [])]⟩ else if k = 4006 then some ⟨[40], [], [], []⟩ else none)) (by kernel_rfl) Try.func11 (by kernel_rfl) (by kernel_rfl) ?_
  rw [vc_add0 x zs a b]
  have EA := each x hX.notAgg
  have T := takes x zs a b hX (by omega)
  rw [hT] at T
  have R := empty a b
  have C := clone x zs hX (by omega)
  rw [he] at R
  repeat' (first
    | (refine ex_some (by simp (disch := omega) only [bin_shr, bin_shl, bin_and, bin_or, bin_xor, len_str, toStr_ofL, bin_add, bin_sub, bin_mul, bin_quo, bin_rem, bin_lss, bin_leq, bin_gtr, bin_geq, bin_eql, bin_neq, eqs_cn, eqs_ci, eqs_cb, eqs_cs, Option.map_some, lenT_ofL, lst_ofL, lstSz_ofL, chunk_one, lst_nil, lst_sl, lstSz_sl, lstSz_nil, Bool.and_true, Bool.true_and, Bool.and_false, Bool.false_and, beq_self_eq_true, beq_bb, bne_bb, un_not, un_neg, conv_int, min2_int, max2_int, w64, w32, wu8, wu16, wu32, wu64, tdiv_nn, tmod_nn, cell_zero, cell_succ, cell_v, cells_v, cells_agg, Bool.not_true, Bool.not_false, Int.reduceLT, Int.reduceLE, Int.reduceEq, Int.reduceNeg, Int.reduceAdd, Int.reduceSub, Int.reduceMul, intOf_v, decide_true, decide_false]; rfl) ?_)
    | (refine ex_bool ?_)
    | (refine ⟨_, EA, ?_⟩)
    | (refine ⟨_, T, ?_⟩)
    | (refine ⟨_, R, ?_⟩)
    | (refine ⟨_, C, ?_⟩)
    | (refine And.intro ?_ ?_)
    | (intro hx; have hprop := (show ∀ (p : Prop), p → True from fun _ _ => True.intro) _ hx; clear hprop; first | (cases hx; done) | (exfalso; revert hx; simp (disch := omega) only [decide_eq_true_eq, decide_eq_false_iff_not, Bool.not_eq_true', Bool.not_eq_false', Bool.and_eq_true, Bool.and_eq_false_iff, Int.not_lt, Int.not_le, ne_eq, not_false_eq_true, not_true_eq_false, reduceCtorEq, Bool.true_eq_false, Bool.false_eq_true, beq_iff_eq, bne_iff_ne, beq_eq_false_iff_ne, false_or, or_false, true_and, and_true]; done) | (simp (disch := omega) only [decide_eq_true_eq, decide_eq_false_iff_not, Bool.not_eq_true', Bool.not_eq_false', Bool.and_eq_true, Bool.and_eq_false_iff, Int.not_lt, Int.not_le, ne_eq, not_false_eq_true, not_true_eq_false, reduceCtorEq, Bool.true_eq_false, Bool.false_eq_true, beq_iff_eq, bne_iff_ne, beq_eq_false_iff_ne, false_or, or_false, true_and, and_true] at hx; first | (exfalso; omega) | skip) | skip)
    | trivial
    | exact fit_ofL _ _
    | (simp (disch := omega) only [notAgg_v, notAgg_sl, plain_v, fits, fitsOne, fitsCells, xsOf, cell_zero, cell_succ, List.range, List.range.loop, List.map, cond_true, cond_false, D.v.injEq, exists_eq', exists_eq, and_self, and_true, true_and, D.agg.injEq, List.length, exists_eq_left', D.sl.injEq, reduceCtorEq, false_or, true_or, or_true, or_false, cell_zero, cell_succ, cell_v, cells_v, cells_agg, List.length_cons, List.length_nil]; done))
  all_goals first
    | (exfalso; omega)
    | omega
    | exact notAgg_fn _ _
    | exact hX.notAgg
    | exact plain_ofL (ivs_plain _)
    | (rw [app2r]; exact plain_ofL (ivs_plain _))
    | rfl
    | exact app2 _ _ _
    | (rw [ch2]; simp only [List.length_map, List.length_append, List.length_cons, List.length_nil]; omega)
    | assumption
    | (rcases hX with rfl | ⟨rfl, _⟩ <;> first | exact .inl rfl | exact .inr ⟨_, rfl⟩)
    | (rcases hX with rfl | ⟨rfl, _⟩ <;> first | exact plain_v _ | exact plain_sl (ivs_plain _))
    | (simp only [List.length_map]; omega)
    | (simp_all [kp]; done)
    | (simp_all; done)
    | fail

theorem vc_cut0 (x : D) (zs : List (Int × Int)) (a b : Int) : Cond Try.prog (fun k => if k = 3005 then some ⟨[], [], [3, 5], [(5, [], [0])]⟩ else if k = 4005 then some ⟨[40], [], [], []⟩ else none) Try.f13 [x, .agg [.v (.int .i64 a), .v (.int .i64 b)]] [x] = ((NotAgg x ∧ (∃ (cs : List D), D.agg [D.v (Value.int IntKind.i64 a), D.v (Value.int IntKind.i64 b)] = D.agg cs ∧ cs.length = 2) ∧ True) ∧ ∃ (r : D), PureD Try.prog 30 [x, D.agg [D.v (Value.int IntKind.i64 a), D.v (Value.int IntKind.i64 b)]] [r] ∧ fits [(false, [none])] [r] ∧ ∃ (r_1 : D), D.un UnOp.not r = some r_1 ∧ ∃ (b_1 : Bool), r_1 = D.v (Value.bool b_1) ∧ (b_1 = false → ∃ (r : D), PureD Try.prog 31 [D.agg [D.v (Value.int IntKind.i64 a), D.v (Value.int IntKind.i64 b)]] [r] ∧ fits [(false, [none])] [r] ∧ ∃ (b_2 : Bool), r = D.v (Value.bool b_2) ∧ (b_2 = true → ∃ (r : D), PureD Try.prog 32 [x] [r] ∧ fits [(false, [some 2])] [r] ∧ (PlainD r ∧ True) ∧ [r] = [x]) ∧ (b_2 = false → ∃ (r : D), ReadD Try.prog 33 [x] [r] ∧ (NotAgg r ∧ True) ∧ ∃ (caps : List D), ∃ (xs : List (List D)), ∃ (I : Nat → List D → Prop), r = D.fn 40 caps ∧ SeqD Try.prog 40 caps xs ∧ fitsX [some 2] xs ∧ (((true = true ∧ true = true) ∧ (true = true ∧ true = true) ∧ True) ∧ ((true = true ∧ D.v (Value.slice none 0 0) = D.v (Value.slice none 0 0)) ∧ (true = true ∧ True) ∧ (D.v (Value.int IntKind.i64 a) = D.v (Value.int IntKind.i64 a) ∧ D.v (Value.int IntKind.i64 b) = D.v (Value.int IntKind.i64 b) ∧ True) ∧ True) ∧ I 0 [D.v (Value.slice none 0 0)]) ∧ (∀ (k : Nat) (r : D), xs[k]? = some [r] → ∀ (r_2 : D), I k [r_2] → ∃ (r_3 : D), (r.cell 1).min2 (D.v (Value.int IntKind.i64 a)) = some r_3 ∧ ∃ (r_4 : D), MemD Try.prog 37 [T.one (C.row 0), T.agg [C.d (r.cell 0), C.d r_3]] [Ob.row (1 + 1) r_2] [T.one (C.row 1)] [none, some (Ob.row 2 r_4)] ∧ ∃ (r_5 : D), (r.cell 0).max2 (D.v (Value.int IntKind.i64 b)) = some r_5 ∧ ∃ (r_6 : D), MemD Try.prog 37 [T.one (C.row 0), T.agg [C.d r_5, C.d (r.cell 1)]] [Ob.row (1 + 1) r_4] [T.one (C.row 1)] [none, some (Ob.row 2 r_6)] ∧ ((true = true ∧ true = true) ∧ (true = true ∧ true = true) ∧ True) ∧ ((true = true ∧ r_6 = r_6) ∧ (true = true ∧ True) ∧ (D.v (Value.int IntKind.i64 a) = D.v (Value.int IntKind.i64 a) ∧ D.v (Value.int IntKind.i64 b) = D.v (Value.int IntKind.i64 b) ∧ True) ∧ True) ∧ I (k + 1) [r_6]) ∧ ∀ (r : D), I xs.length [r] → (PlainD r ∧ True) ∧ [r] = [x])) ∧ (b_1 = true → ∃ (r : D), PureD Try.prog 32 [x] [r] ∧ fits [(false, [some 2])] [r] ∧ (PlainD r ∧ True) ∧ [r] = [x])) := by kernel_rfl
set_option maxHeartbeats 2000000 in
theorem cut0 (x : D) (zs : List (Int × Int)) (a b : Int) (hX : IsL 2 (zs.map iv) x) (hm : zs.length ≤ 10000) (hT : (rgd (a, b) && decide (chkF zs = 0)) = false) : PureD Try.prog 13 [x, .agg [.v (.int .i64 a), .v (.int .i64 b)]] [x] := by
  refine pure_cond (Lp := (fun k => if k = 3005 then some ⟨[], [], [3, 5], [(5, [], [0])]⟩ else if k = 4005 then some ⟨[40], [], [], []⟩ else none)) (by kernel_rfl) Try.func13 (by kernel_rfl) (by kernel_rfl) ?_
  rw [vc_cut0 x zs a b]
  have EA := each x hX.notAgg
  have T := takes x zs a b hX (by omega)
  rw [hT] at T
  have R := empty a b
  have C := clone x zs hX (by omega)
  repeat' (first
    | (refine ex_some (by simp (disch := omega) only [bin_shr, bin_shl, bin_and, bin_or, bin_xor, len_str, toStr_ofL, bin_add, bin_sub, bin_mul, bin_quo, bin_rem, bin_lss, bin_leq, bin_gtr, bin_geq, bin_eql, bin_neq, eqs_cn, eqs_ci, eqs_cb, eqs_cs, Option.map_some, lenT_ofL, lst_ofL, lstSz_ofL, chunk_one, lst_nil, lst_sl, lstSz_sl, lstSz_nil, Bool.and_true, Bool.true_and, Bool.and_false, Bool.false_and, beq_self_eq_true, beq_bb, bne_bb, un_not, un_neg, conv_int, min2_int, max2_int, w64, w32, wu8, wu16, wu32, wu64, tdiv_nn, tmod_nn, cell_zero, cell_succ, cell_v, cells_v, cells_agg, Bool.not_true, Bool.not_false, Int.reduceLT, Int.reduceLE, Int.reduceEq, Int.reduceNeg, Int.reduceAdd, Int.reduceSub, Int.reduceMul, intOf_v, decide_true, decide_false]; rfl) ?_)
    | (refine ex_bool ?_)
    | (refine ⟨_, EA, ?_⟩)
    | (refine ⟨_, T, ?_⟩)
    | (refine ⟨_, R, ?_⟩)
    | (refine ⟨_, C, ?_⟩)
    | (refine And.intro ?_ ?_)
    | (intro hx; have hprop := (show ∀ (p : Prop), p → True from fun _ _ => True.intro) _ hx; clear hprop; first | (cases hx; done) | (exfalso; revert hx; simp (disch := omega) only [decide_eq_true_eq, decide_eq_false_iff_not, Bool.not_eq_true', Bool.not_eq_false', Bool.and_eq_true, Bool.and_eq_false_iff, Int.not_lt, Int.not_le, ne_eq, not_false_eq_true, not_true_eq_false, reduceCtorEq, Bool.true_eq_false, Bool.false_eq_true, beq_iff_eq, bne_iff_ne, beq_eq_false_iff_ne, false_or, or_false, true_and, and_true]; done) | (simp (disch := omega) only [decide_eq_true_eq, decide_eq_false_iff_not, Bool.not_eq_true', Bool.not_eq_false', Bool.and_eq_true, Bool.and_eq_false_iff, Int.not_lt, Int.not_le, ne_eq, not_false_eq_true, not_true_eq_false, reduceCtorEq, Bool.true_eq_false, Bool.false_eq_true, beq_iff_eq, bne_iff_ne, beq_eq_false_iff_ne, false_or, or_false, true_and, and_true] at hx; first | (exfalso; omega) | skip) | skip)
    | trivial
    | exact fit_ofL _ _
    | (simp (disch := omega) only [notAgg_v, notAgg_sl, plain_v, fits, fitsOne, fitsCells, xsOf, cell_zero, cell_succ, List.range, List.range.loop, List.map, cond_true, cond_false, D.v.injEq, exists_eq', exists_eq, and_self, and_true, true_and, D.agg.injEq, List.length, exists_eq_left', D.sl.injEq, reduceCtorEq, false_or, true_or, or_true, or_false, cell_zero, cell_succ, cell_v, cells_v, cells_agg, List.length_cons, List.length_nil]; done))
  all_goals first
    | (exfalso; omega)
    | omega
    | exact notAgg_fn _ _
    | exact hX.notAgg
    | exact plain_ofL (ivs_plain _)
    | (rw [app2r]; exact plain_ofL (ivs_plain _))
    | rfl
    | exact app2 _ _ _
    | (rw [ch2]; simp only [List.length_map, List.length_append, List.length_cons, List.length_nil]; omega)
    | assumption
    | exact hX.fits_
    | (rcases hX with rfl | ⟨rfl, _⟩ <;> first | exact .inl rfl | exact .inr ⟨_, rfl⟩)
    | (rcases hX with rfl | ⟨rfl, _⟩ <;> first | exact plain_v _ | exact plain_sl (ivs_plain _))
    | (simp only [List.length_map]; omega)
    | (simp_all [kp]; done)
    | (simp_all; done)
    | fail

set_option maxHeartbeats 2000000 in
theorem cut0e (x : D) (zs : List (Int × Int)) (a b : Int) (hX : IsL 2 (zs.map iv) x) (hm : zs.length ≤ 10000) (hT : (rgd (a, b) && decide (chkF zs = 0)) = true) (he : emp (a, b) = true) : PureD Try.prog 13 [x, .agg [.v (.int .i64 a), .v (.int .i64 b)]] [x] := by
  refine pure_cond (Lp := (fun k => if k = 3005 then some ⟨[], [], [3, 5], [(5, [], [0])]⟩ else if k = 4005 then some ⟨[40], [], [], []⟩ else none)) (by kernel_rfl) Try.func13 (by kernel_rfl) (by kernel_rfl) ?_
  rw [vc_cut0 x zs a b]
  have EA := each x hX.notAgg
  have T := takes x zs a b hX (by omega)
  rw [hT] at T
  have R := empty a b
  have C := clone x zs hX (by omega)
  rw [he] at R
  repeat' (first
    | (refine ex_some (by simp (disch := omega) only [bin_shr, bin_shl, bin_and, bin_or, bin_xor, len_str, toStr_ofL, bin_add, bin_sub, bin_mul, bin_quo, bin_rem, bin_lss, bin_leq, bin_gtr, bin_geq, bin_eql, bin_neq, eqs_cn, eqs_ci, eqs_cb, eqs_cs, Option.map_some, lenT_ofL, lst_ofL, lstSz_ofL, chunk_one, lst_nil, lst_sl, lstSz_sl, lstSz_nil, Bool.and_true, Bool.true_and, Bool.and_false, Bool.false_and, beq_self_eq_true, beq_bb, bne_bb, un_not, un_neg, conv_int, min2_int, max2_int, w64, w32, wu8, wu16, wu32, wu64, tdiv_nn, tmod_nn, cell_zero, cell_succ, cell_v, cells_v, cells_agg, Bool.not_true, Bool.not_false, Int.reduceLT, Int.reduceLE, Int.reduceEq, Int.reduceNeg, Int.reduceAdd, Int.reduceSub, Int.reduceMul, intOf_v, decide_true, decide_false]; rfl) ?_)
    | (refine ex_bool ?_)
    | (refine ⟨_, EA, ?_⟩)
    | (refine ⟨_, T, ?_⟩)
    | (refine ⟨_, R, ?_⟩)
    | (refine ⟨_, C, ?_⟩)
    | (refine And.intro ?_ ?_)
    | (intro hx; have hprop := (show ∀ (p : Prop), p → True from fun _ _ => True.intro) _ hx; clear hprop; first | (cases hx; done) | (exfalso; revert hx; simp (disch := omega) only [decide_eq_true_eq, decide_eq_false_iff_not, Bool.not_eq_true', Bool.not_eq_false', Bool.and_eq_true, Bool.and_eq_false_iff, Int.not_lt, Int.not_le, ne_eq, not_false_eq_true, not_true_eq_false, reduceCtorEq, Bool.true_eq_false, Bool.false_eq_true, beq_iff_eq, bne_iff_ne, beq_eq_false_iff_ne, false_or, or_false, true_and, and_true]; done) | (simp (disch := omega) only [decide_eq_true_eq, decide_eq_false_iff_not, Bool.not_eq_true', Bool.not_eq_false', Bool.and_eq_true, Bool.and_eq_false_iff, Int.not_lt, Int.not_le, ne_eq, not_false_eq_true, not_true_eq_false, reduceCtorEq, Bool.true_eq_false, Bool.false_eq_true, beq_iff_eq, bne_iff_ne, beq_eq_false_iff_ne, false_or, or_false, true_and, and_true] at hx; first | (exfalso; omega) | skip) | skip)
    | trivial
    | exact fit_ofL _ _
    | (simp (disch := omega) only [notAgg_v, notAgg_sl, plain_v, fits, fitsOne, fitsCells, xsOf, cell_zero, cell_succ, List.range, List.range.loop, List.map, cond_true, cond_false, D.v.injEq, exists_eq', exists_eq, and_self, and_true, true_and, D.agg.injEq, List.length, exists_eq_left', D.sl.injEq, reduceCtorEq, false_or, true_or, or_true, or_false, cell_zero, cell_succ, cell_v, cells_v, cells_agg, List.length_cons, List.length_nil]; done))
  all_goals first
    | (exfalso; omega)
    | omega
    | exact notAgg_fn _ _
    | exact hX.notAgg
    | exact plain_ofL (ivs_plain _)
    | (rw [app2r]; exact plain_ofL (ivs_plain _))
    | rfl
    | exact app2 _ _ _
    | (rw [ch2]; simp only [List.length_map, List.length_append, List.length_cons, List.length_nil]; omega)
    | assumption
    | (rcases hX with rfl | ⟨rfl, _⟩ <;> first | exact .inl rfl | exact .inr ⟨_, rfl⟩)
    | (rcases hX with rfl | ⟨rfl, _⟩ <;> first | exact plain_v _ | exact plain_sl (ivs_plain _))
    | (simp only [List.length_map]; omega)
    | (simp_all [kp]; done)
    | (simp_all; done)
    | fail

theorem vc_gap0 (x : D) (zs : List (Int × Int)) (a b : Int) : Cond Try.prog (fun k => if k = 3005 then some ⟨[], [], [3, 5], [(3, [0, 1], []), (5, [], [0])]⟩ else if k = 4005 then some ⟨[40], [], [], []⟩ else none) Try.f15 [x, .agg [.v (.int .i64 a), .v (.int .i64 b)]] [.v nilS] = ((NotAgg x ∧ (∃ (cs : List D), D.agg [D.v (Value.int IntKind.i64 a), D.v (Value.int IntKind.i64 b)] = D.agg cs ∧ cs.length = 2) ∧ True) ∧ ∃ (r : D), PureD Try.prog 30 [x, D.agg [D.v (Value.int IntKind.i64 a), D.v (Value.int IntKind.i64 b)]] [r] ∧ fits [(false, [none])] [r] ∧ ∃ (r_1 : D), D.un UnOp.not r = some r_1 ∧ ∃ (b_1 : Bool), r_1 = D.v (Value.bool b_1) ∧ (b_1 = true → (PlainD (D.v nilS) ∧ True) ∧ [D.v nilS] = [D.v nilS]) ∧ (b_1 = false → ∃ (r : D), ReadD Try.prog 33 [x] [r] ∧ (NotAgg r ∧ True) ∧ ∃ (caps : List D), ∃ (xs : List (List D)), ∃ (I : Nat → List D → Prop), r = D.fn 40 caps ∧ SeqD Try.prog 40 caps xs ∧ fitsX [some 2] xs ∧ (((true = true ∧ true = true) ∧ (true = true ∧ true = true) ∧ True) ∧ ((true = true ∧ D.v (Value.slice none 0 0) = D.v (Value.slice none 0 0)) ∧ (D.v (Value.int IntKind.i64 a) = D.v (Value.int IntKind.i64 a) ∧ D.v (Value.int IntKind.i64 b) = D.v (Value.int IntKind.i64 b) ∧ True) ∧ (true = true ∧ True) ∧ True) ∧ I 0 [D.v (Value.int IntKind.i64 a), D.v (Value.int IntKind.i64 b), D.v (Value.slice none 0 0)]) ∧ (∀ (k : Nat) (r : D), xs[k]? = some [r] → ∀ (r_2 r_3 r_4 : D), I k [r_2, r_3, r_4] → ∃ (r_5 : D), r_3.min2 (r.cell 0) = some r_5 ∧ ∃ (r_6 : D), MemD Try.prog 37 [T.one (C.row 0), T.agg [C.d r_2, C.d r_5]] [Ob.row (1 + 1) r_4] [T.one (C.row 1)] [none, some (Ob.row 2 r_6)] ∧ ∃ (r_7 : D), r_2.max2 (r.cell 1) = some r_7 ∧ ((true = true ∧ true = true) ∧ (true = true ∧ true = true) ∧ True) ∧ ((true = true ∧ r_6 = r_6) ∧ (r_7 = r_7 ∧ r_3 = r_3 ∧ True) ∧ (true = true ∧ True) ∧ True) ∧ I (k + 1) [r_7, r_3, r_6]) ∧ ∀ (r r_2 r_3 : D), I xs.length [r, r_2, r_3] → ∃ (r_4 : D), MemD Try.prog 37 [T.one (C.row 0), T.agg [C.d r, C.d r_2]] [Ob.row (1 + 1) r_3] [T.one (C.row 1)] [none, some (Ob.row 2 r_4)] ∧ (PlainD r_4 ∧ True) ∧ [r_4] = [D.v nilS])) := by kernel_rfl
set_option maxHeartbeats 2000000 in
theorem gap0 (x : D) (zs : List (Int × Int)) (a b : Int) (hX : IsL 2 (zs.map iv) x) (hm : zs.length ≤ 10000) (hT : (rgd (a, b) && decide (chkF zs = 0)) = false) : PureD Try.prog 15 [x, .agg [.v (.int .i64 a), .v (.int .i64 b)]] [.v nilS] := by
  refine pure_cond (Lp := (fun k => if k = 3005 then some ⟨[], [], [3, 5], [(3, [0, 1], []), (5, [], [0])]⟩ else if k = 4005 then some ⟨[40], [], [], []⟩ else none)) (by kernel_rfl) Try.func15 (by kernel_rfl) (by kernel_rfl) ?_
  rw [vc_gap0 x zs a b]
  have EA := each x hX.notAgg
  have T := takes x zs a b hX (by omega)
  rw [hT] at T
  have R := empty a b
  have C := clone x zs hX (by omega)
  repeat' (first
    | (refine ex_some (by simp (disch := omega) only [bin_shr, bin_shl, bin_and, bin_or, bin_xor, len_str, toStr_ofL, bin_add, bin_sub, bin_mul, bin_quo, bin_rem, bin_lss, bin_leq, bin_gtr, bin_geq, bin_eql, bin_neq, eqs_cn, eqs_ci, eqs_cb, eqs_cs, Option.map_some, lenT_ofL, lst_ofL, lstSz_ofL, chunk_one, lst_nil, lst_sl, lstSz_sl, lstSz_nil, Bool.and_true, Bool.true_and, Bool.and_false, Bool.false_and, beq_self_eq_true, beq_bb, bne_bb, un_not, un_neg, conv_int, min2_int, max2_int, w64, w32, wu8, wu16, wu32, wu64, tdiv_nn, tmod_nn, cell_zero, cell_succ, cell_v, cells_v, cells_agg, Bool.not_true, Bool.not_false, Int.reduceLT, Int.reduceLE, Int.reduceEq, Int.reduceNeg, Int.reduceAdd, Int.reduceSub, Int.reduceMul, intOf_v, decide_true, decide_false]; rfl) ?_)
    | (refine ex_bool ?_)
    | (refine ⟨_, EA, ?_⟩)
    | (refine ⟨_, T, ?_⟩)
    | (refine ⟨_, R, ?_⟩)
    | (refine ⟨_, C, ?_⟩)
    | (refine And.intro ?_ ?_)
    | (intro hx; have hprop := (show ∀ (p : Prop), p → True from fun _ _ => True.intro) _ hx; clear hprop; first | (cases hx; done) | (exfalso; revert hx; simp (disch := omega) only [decide_eq_true_eq, decide_eq_false_iff_not, Bool.not_eq_true', Bool.not_eq_false', Bool.and_eq_true, Bool.and_eq_false_iff, Int.not_lt, Int.not_le, ne_eq, not_false_eq_true, not_true_eq_false, reduceCtorEq, Bool.true_eq_false, Bool.false_eq_true, beq_iff_eq, bne_iff_ne, beq_eq_false_iff_ne, false_or, or_false, true_and, and_true]; done) | (simp (disch := omega) only [decide_eq_true_eq, decide_eq_false_iff_not, Bool.not_eq_true', Bool.not_eq_false', Bool.and_eq_true, Bool.and_eq_false_iff, Int.not_lt, Int.not_le, ne_eq, not_false_eq_true, not_true_eq_false, reduceCtorEq, Bool.true_eq_false, Bool.false_eq_true, beq_iff_eq, bne_iff_ne, beq_eq_false_iff_ne, false_or, or_false, true_and, and_true] at hx; first | (exfalso; omega) | skip) | skip)
    | trivial
    | exact fit_ofL _ _
    | (simp (disch := omega) only [notAgg_v, notAgg_sl, plain_v, fits, fitsOne, fitsCells, xsOf, cell_zero, cell_succ, List.range, List.range.loop, List.map, cond_true, cond_false, D.v.injEq, exists_eq', exists_eq, and_self, and_true, true_and, D.agg.injEq, List.length, exists_eq_left', D.sl.injEq, reduceCtorEq, false_or, true_or, or_true, or_false, cell_zero, cell_succ, cell_v, cells_v, cells_agg, List.length_cons, List.length_nil]; done))
  all_goals first
    | (exfalso; omega)
    | omega
    | exact notAgg_fn _ _
    | exact hX.notAgg
    | exact plain_ofL (ivs_plain _)
    | (rw [app2r]; exact plain_ofL (ivs_plain _))
    | rfl
    | exact app2 _ _ _
    | (rw [ch2]; simp only [List.length_map, List.length_append, List.length_cons, List.length_nil]; omega)
    | assumption
    | exact .inl rfl
    | exact plain_v _
    | (simp only [List.length_map]; omega)
    | (simp_all [kp]; done)
    | (simp_all; done)
    | fail

theorem vc_meet0 (x y : D) (zs ys : List (Int × Int)) : Cond Try.prog (fun k => if k = 7 then some ⟨[], [], [3, 5, 6, 7], [(6, [0], [])]⟩ else if k = 10 then some ⟨[8], [], [3, 6, 7, 5], [(5, [], [0])]⟩ else if k = 1502 then some ⟨[], [], [3, 5, 6, 7], [(6, [0], [])]⟩ else if k = 3006 then some ⟨[], [], [3, 5, 6], [(5, [], [0]), (6, [0], [])]⟩ else if k = 4006 then some ⟨[40], [], [], []⟩ else none) Try.f17 [x, y] [.v nilS] = ((NotAgg x ∧ NotAgg y ∧ True) ∧ ∃ (r : D), PureD Try.prog 19 [x] [r] ∧ fits [(false, [none])] [r] ∧ ∃ (r_1 : D), D.bin BinOp.neq r (D.v (Value.int IntKind.i64 0)) = some r_1 ∧ ∃ (b : Bool), r_1 = D.v (Value.bool b) ∧ (b = false → ∃ (r : D), PureD Try.prog 19 [y] [r] ∧ fits [(false, [none])] [r] ∧ ∃ (r_2 : D), D.bin BinOp.neq r (D.v (Value.int IntKind.i64 0)) = some r_2 ∧ ∃ (b : Bool), r_2 = D.v (Value.bool b) ∧ (b = true → (PlainD (D.v nilS) ∧ True) ∧ [D.v nilS] = [D.v nilS]) ∧ (b = false → ∃ (r : D), ReadD Try.prog 33 [x] [r] ∧ (NotAgg r ∧ True) ∧ ∃ (caps : List D), ∃ (xs : List (List D)), ∃ (I : Nat → List D → Prop), r = D.fn 40 caps ∧ SeqD Try.prog 40 caps xs ∧ fitsX [some 2] xs ∧ (((true = true ∧ true = true) ∧ (true = true ∧ true = true) ∧ (true = true ∧ true = true) ∧ True) ∧ ((true = true ∧ D.v (Value.slice none 0 0) = D.v (Value.slice none 0 0)) ∧ (true = true ∧ True) ∧ (D.v (Value.int IntKind.i64 0) = D.v (Value.int IntKind.i64 0) ∧ True) ∧ (y = y ∧ True) ∧ True) ∧ I 0 [D.v (Value.int IntKind.i64 0), D.v (Value.slice none 0 0)]) ∧ (∀ (k : Nat) (r : D), xs[k]? = some [r] → ∀ (r_3 r_4 : D), I k [r_3, r_4] → ∃ (I_1 : List D → Prop), (∃ (I : List D → Prop), ∃ (μ : List D → Nat), (((true = true ∧ true = true) ∧ (true = true ∧ true = true) ∧ (true = true ∧ true = true) ∧ (true = true ∧ true = true) ∧ True) ∧ ((r_3 = r_3 ∧ True) ∧ (y = y ∧ True) ∧ (true = true ∧ True) ∧ (r.cell 0 = r.cell 0 ∧ r.cell 1 = r.cell 1 ∧ True) ∧ (true = true ∧ r_4 = r_4) ∧ True) ∧ I [r_3]) ∧ ∀ (r_5 : D), I [r_5] → ∃ (r_6 : D), D.lenT (TypeDesc.slice 29) y = some r_6 ∧ ∃ (r_7 : D), D.bin BinOp.lss r_5 r_6 = some r_7 ∧ ∃ (b : Bool), r_7 = D.v (Value.bool b) ∧ (b = true → D.inb 2 y r_5 ∧ 0 + 1 + 1 ≤ (y.at_ r_5).cells.length ∧ ∃ (r_8 : D), D.bin BinOp.leq ((y.at_ r_5).cell (0 + 1)) (r.cell 0) = some r_8 ∧ ∃ (b : Bool), r_8 = D.v (Value.bool b) ∧ (b = true → ∃ (r_9 : D), D.bin BinOp.add r_5 (D.v (Value.int IntKind.i64 1)) = some r_9 ∧ ((true = true ∧ true = true) ∧ (true = true ∧ true = true) ∧ (true = true ∧ true = true) ∧ (true = true ∧ true = true) ∧ True) ∧ ((r_9 = r_9 ∧ True) ∧ (y = y ∧ True) ∧ (true = true ∧ True) ∧ (r.cell 0 = r.cell 0 ∧ r.cell 1 = r.cell 1 ∧ True) ∧ (true = true ∧ r_4 = r_4) ∧ True) ∧ I [r_9] ∧ μ [r_9] < μ [r_5]) ∧ (b = false → ((true = true ∧ true = true) ∧ (true = true ∧ true = true) ∧ (true = true ∧ true = true) ∧ (true = true ∧ true = true) ∧ True) ∧ ((r_5 = r_5 ∧ True) ∧ (y = y ∧ True) ∧ (true = true ∧ True) ∧ (r.cell 0 = r.cell 0 ∧ r.cell 1 = r.cell 1 ∧ True) ∧ (true = true ∧ r_4 = r_4) ∧ True) ∧ I_1 [r_5])) ∧ (b = false → ((true = true ∧ true = true) ∧ (true = true ∧ true = true) ∧ (true = true ∧ true = true) ∧ (true = true ∧ true = true) ∧ True) ∧ ((r_5 = r_5 ∧ True) ∧ (y = y ∧ True) ∧ (true = true ∧ True) ∧ (r.cell 0 = r.cell 0 ∧ r.cell 1 = r.cell 1 ∧ True) ∧ (true = true ∧ r_4 = r_4) ∧ True) ∧ I_1 [r_5])) ∧ ∀ (r_5 : D), I_1 [r_5] → ∃ (I_2 : List D → Prop), ∃ (μ : List D → Nat), ((r_5 = r_5 ∧ (true = true ∧ true = true) ∧ (true = true ∧ true = true) ∧ (true = true ∧ true = true) ∧ (true = true ∧ true = true) ∧ True) ∧ ((true = true ∧ r_4 = r_4) ∧ (true = true ∧ True) ∧ (y = y ∧ True) ∧ (r_5 = r_5 ∧ True) ∧ (r.cell 0 = r.cell 0 ∧ r.cell 1 = r.cell 1 ∧ True) ∧ True) ∧ I_2 [r_5, r_4]) ∧ ∀ (r_6 r_7 : D), I_2 [r_6, r_7] → ∃ (r_8 : D), D.lenT (TypeDesc.slice 29) y = some r_8 ∧ ∃ (r_9 : D), D.bin BinOp.lss r_6 r_8 = some r_9 ∧ ∃ (b : Bool), r_9 = D.v (Value.bool b) ∧ (b = true → D.inb 2 y r_6 ∧ 0 + 1 ≤ (y.at_ r_6).cells.length ∧ ∃ (r_10 : D), D.bin BinOp.lss ((y.at_ r_6).cell 0) (r.cell 1) = some r_10 ∧ ∃ (b : Bool), r_10 = D.v (Value.bool b) ∧ (b = true → D.inb 2 y r_6 ∧ 0 + 1 ≤ (y.at_ r_6).cells.length ∧ ∃ (r_11 : D), (r.cell 0).max2 ((y.at_ r_6).cell 0) = some r_11 ∧ D.inb 2 y r_6 ∧ 0 + 1 + 1 ≤ (y.at_ r_6).cells.length ∧ ∃ (r_12 : D), (r.cell 1).min2 ((y.at_ r_6).cell (0 + 1)) = some r_12 ∧ ∃ (r_13 : D), MemD Try.prog 37 [T.one (C.row 0), T.agg [C.d r_11, C.d r_12]] [Ob.row (1 + 1) r_7] [T.one (C.row 1)] [none, some (Ob.row 2 r_13)] ∧ ∃ (r_14 : D), D.bin BinOp.add r_6 (D.v (Value.int IntKind.i64 1)) = some r_14 ∧ (r_14 = r_14 ∧ (true = true ∧ true = true) ∧ (true = true ∧ true = true) ∧ (true = true ∧ true = true) ∧ (true = true ∧ true = true) ∧ True) ∧ ((true = true ∧ r_13 = r_13) ∧ (true = true ∧ True) ∧ (y = y ∧ True) ∧ (r_5 = r_5 ∧ True) ∧ (r.cell 0 = r.cell 0 ∧ r.cell 1 = r.cell 1 ∧ True) ∧ True) ∧ I_2 [r_14, r_13] ∧ μ [r_14, r_13] < μ [r_6, r_7]) ∧ (b = false → ((true = true ∧ true = true) ∧ (true = true ∧ true = true) ∧ (true = true ∧ true = true) ∧ True) ∧ ((true = true ∧ r_7 = r_7) ∧ (true = true ∧ True) ∧ (r_5 = r_5 ∧ True) ∧ (y = y ∧ True) ∧ True) ∧ I (k + 1) [r_5, r_7])) ∧ (b = false → ((true = true ∧ true = true) ∧ (true = true ∧ true = true) ∧ (true = true ∧ true = true) ∧ True) ∧ ((true = true ∧ r_7 = r_7) ∧ (true = true ∧ True) ∧ (r_5 = r_5 ∧ True) ∧ (y = y ∧ True) ∧ True) ∧ I (k + 1) [r_5, r_7])) ∧ ∀ (r r_3 : D), I xs.length [r, r_3] → (PlainD r_3 ∧ True) ∧ [r_3] = [D.v nilS])) ∧ (b = true → (PlainD (D.v nilS) ∧ True) ∧ [D.v nilS] = [D.v nilS])) := by kernel_rfl
set_option maxHeartbeats 2000000 in
theorem meet0 (x y : D) (zs ys : List (Int × Int)) (hX : IsL 2 (zs.map iv) x) (hm : zs.length ≤ 10000) (hY : IsL 2 (ys.map iv) y) (hn : ys.length ≤ 10000) (hc : chkF zs ≠ 0 ∨ chkF ys ≠ 0) : PureD Try.prog 17 [x, y] [.v nilS] := by
  refine pure_cond (Lp := (fun k => if k = 7 then some ⟨[], [], [3, 5, 6, 7], [(6, [0], [])]⟩ else if k = 10 then some ⟨[8], [], [3, 6, 7, 5], [(5, [], [0])]⟩ else if k = 1502 then some ⟨[], [], [3, 5, 6, 7], [(6, [0], [])]⟩ else if k = 3006 then some ⟨[], [], [3, 5, 6], [(5, [], [0]), (6, [0], [])]⟩ else if k = 4006 then some ⟨[40], [], [], []⟩ else none)) (by kernel_rfl) Try.func17 (by kernel_rfl) (by kernel_rfl) ?_
  rw [vc_meet0 x y zs ys]
  have C1 := check x zs hX (by omega)
  have C2 := check y ys hY (by omega)
  repeat' (first
    | (refine ex_some (by simp (disch := omega) only [bin_shr, bin_shl, bin_and, bin_or, bin_xor, len_str, toStr_ofL, bin_add, bin_sub, bin_mul, bin_quo, bin_rem, bin_lss, bin_leq, bin_gtr, bin_geq, bin_eql, bin_neq, eqs_cn, eqs_ci, eqs_cb, eqs_cs, Option.map_some, lenT_ofL, lst_ofL, lstSz_ofL, chunk_one, lst_nil, lst_sl, lstSz_sl, lstSz_nil, Bool.and_true, Bool.true_and, Bool.and_false, Bool.false_and, beq_self_eq_true, beq_bb, bne_bb, un_not, un_neg, conv_int, min2_int, max2_int, w64, w32, wu8, wu16, wu32, wu64, tdiv_nn, tmod_nn, cell_zero, cell_succ, cell_v, cells_v, cells_agg, Bool.not_true, Bool.not_false, Int.reduceLT, Int.reduceLE, Int.reduceEq, Int.reduceNeg, Int.reduceAdd, Int.reduceSub, Int.reduceMul, intOf_v, decide_true, decide_false]; rfl) ?_)
    | (refine ex_bool ?_)
    | (refine ⟨_, C1, ?_⟩)
    | (refine ⟨_, C2, ?_⟩)
    | (refine And.intro ?_ ?_)
    | (intro hx; have hprop := (show ∀ (p : Prop), p → True from fun _ _ => True.intro) _ hx; clear hprop; first | (cases hx; done) | (exfalso; revert hx; simp (disch := omega) only [decide_eq_true_eq, decide_eq_false_iff_not, Bool.not_eq_true', Bool.not_eq_false', Bool.and_eq_true, Bool.and_eq_false_iff, Int.not_lt, Int.not_le, ne_eq, not_false_eq_true, not_true_eq_false, reduceCtorEq, Bool.true_eq_false, Bool.false_eq_true, beq_iff_eq, bne_iff_ne, beq_eq_false_iff_ne, false_or, or_false, true_and, and_true]; done) | (simp (disch := omega) only [decide_eq_true_eq, decide_eq_false_iff_not, Bool.not_eq_true', Bool.not_eq_false', Bool.and_eq_true, Bool.and_eq_false_iff, Int.not_lt, Int.not_le, ne_eq, not_false_eq_true, not_true_eq_false, reduceCtorEq, Bool.true_eq_false, Bool.false_eq_true, beq_iff_eq, bne_iff_ne, beq_eq_false_iff_ne, false_or, or_false, true_and, and_true] at hx; first | (exfalso; omega) | skip) | skip)
    | trivial
    | exact fit_ofL _ _
    | (simp (disch := omega) only [notAgg_v, notAgg_sl, plain_v, fits, fitsOne, fitsCells, xsOf, cell_zero, cell_succ, List.range, List.range.loop, List.map, cond_true, cond_false, D.v.injEq, exists_eq', exists_eq, and_self, and_true, true_and, D.agg.injEq, List.length, exists_eq_left', D.sl.injEq, reduceCtorEq, false_or, true_or, or_true, or_false, cell_zero, cell_succ, cell_v, cells_v, cells_agg, List.length_cons, List.length_nil]; done))
  all_goals first
    | (exfalso; omega)
    | omega
    | exact notAgg_fn _ _
    | exact hX.notAgg
    | exact plain_ofL (ivs_plain _)
    | (rw [app2r]; exact plain_ofL (ivs_plain _))
    | rfl
    | exact app2 _ _ _
    | (rw [ch2]; simp only [List.length_map, List.length_append, List.length_cons, List.length_nil]; omega)
    | assumption
    | exact .inl rfl
    | exact plain_v _
    | exact hY.notAgg
    | (simp only [List.length_map]; omega)
    | (simp_all [kp]; done)
    | (simp_all; done)
    | fail

theorem vc_ownI (x : D) (zs : List (Int × Int)) : Cond Try.prog (fun k => if k = 3 then some ⟨[4], [3], [0], []⟩ else none) Try.f8 [x] [ofL 2 (zs.map iv)] = ((NotAgg x ∧ True) ∧ ∃ (I : List D → Prop), ∃ (μ : List D → Nat), ((D.v (Value.int IntKind.i64 0) = D.v (Value.int IntKind.i64 0) ∧ true = true ∧ x = x ∧ True) ∧ ((true = true ∧ D.v nilS = D.v nilS) ∧ True) ∧ I [D.v (Value.int IntKind.i64 0), D.v nilS]) ∧ ∀ (r r_1 : D), I [r, r_1] → ∃ (r_2 : D), D.lenT (TypeDesc.slice 24) x = some r_2 ∧ ∃ (r_3 : D), D.bin BinOp.lss r r_2 = some r_3 ∧ ∃ (b : Bool), r_3 = D.v (Value.bool b) ∧ (b = true → D.inb 2 x r ∧ 0 + 2 ≤ (x.at_ r).cells.length ∧ ∃ (ls : List D), r_1.lst = some ls ∧ ∃ (lx : List D), D.lstSz 2 (D.sl 2 (chunks true 2 1 [(x.at_ r).cell (0 + 0), (x.at_ r).cell (0 + 1)])) = some lx ∧ (ls.length + lx.length) * 16 ≤ 1099511627776 ∧ ∃ (r_4 : D), D.bin BinOp.add r (D.v (Value.int IntKind.i64 1)) = some r_4 ∧ (r_4 = r_4 ∧ true = true ∧ x = x ∧ True) ∧ ((true = true ∧ D.app 2 r_1 lx = D.app 2 r_1 lx) ∧ True) ∧ I [r_4, D.app 2 r_1 lx] ∧ μ [r_4, D.app 2 r_1 lx] < μ [r, r_1]) ∧ (b = false → (PlainD r_1 ∧ True) ∧ [r_1] = [ofL 2 (List.map iv zs)])) := by kernel_rfl
set_option maxHeartbeats 2000000 in
theorem ownI (x : D) (zs : List (Int × Int)) (hX : IsL 2 (zs.map iv) x) (hm : zs.length ≤ 10000)  : PureD Try.prog 8 [x] [ofL 2 (zs.map iv)] := by
  refine pure_cond (Lp := (fun k => if k = 3 then some ⟨[4], [3], [0], []⟩ else none)) (by kernel_rfl) Try.func8 (by kernel_rfl) (by kernel_rfl) ?_
  rw [vc_ownI x zs]
  simp only [hX.lenT, List.length_map, Option.some.injEq, exists_eq_left']
  have h1 : True := trivial
  repeat' (first
    | (refine ex_some (by simp (disch := omega) only [bin_shr, bin_shl, bin_and, bin_or, bin_xor, len_str, toStr_ofL, bin_add, bin_sub, bin_mul, bin_quo, bin_rem, bin_lss, bin_leq, bin_gtr, bin_geq, bin_eql, bin_neq, eqs_cn, eqs_ci, eqs_cb, eqs_cs, Option.map_some, lenT_ofL, lst_ofL, lstSz_ofL, chunk_one, lst_nil, lst_sl, lstSz_sl, lstSz_nil, Bool.and_true, Bool.true_and, Bool.and_false, Bool.false_and, beq_self_eq_true, beq_bb, bne_bb, un_not, un_neg, conv_int, min2_int, max2_int, w64, w32, wu8, wu16, wu32, wu64, tdiv_nn, tmod_nn, cell_zero, cell_succ, cell_v, cells_v, cells_agg, Bool.not_true, Bool.not_false, Int.reduceLT, Int.reduceLE, Int.reduceEq, Int.reduceNeg, Int.reduceAdd, Int.reduceSub, Int.reduceMul, intOf_v, decide_true, decide_false, h1, hX.lenT, List.length_map]; rfl) ?_)
    | (refine ex_bool ?_)
    | (exact i1)
    | (refine ⟨(fun r => ∃ k : Nat, k ≤ zs.length ∧ r = [.v (.int .i64 (k : Nat)), ofL 2 ((zs.take k).map iv)]), leftG zs.length, ?_⟩)
    | (refine fun (r3 r4 : D) (hI : (fun r => ∃ k : Nat, k ≤ zs.length ∧ r = [.v (.int .i64 (k : Nat)), ofL 2 ((zs.take k).map iv)]) [r3, r4]) => ?_; obtain ⟨k, hk, hl0⟩ := hI; simp only [List.cons.injEq, and_true] at hl0; obtain ⟨rfl, rfl⟩ := hl0; by_cases hlt : k < zs.length <;> first | (have hk1 : k < zs.length := (by omega); have h1 := iv_get hX hk1; have i1 := iv_inb hX hk1; have ht : zs.take (k + 1) = zs.take k ++ [zs.getD k (0, 0)] := take_sn hk1; generalize zs.getD k (0, 0) = z at h1 ht; obtain ⟨p, q⟩ := z; simp only [h1, iv, Nat.zero_add, cell_zero, cell_succ, cells_agg, List.length_cons, List.length_nil]; have inl1 : True := trivial) | (have hkk : k = zs.length := (by omega); subst hkk; rw [List.take_length]; have h1 : True := trivial; have out1 : True := trivial))
    | (have := inl1; refine ⟨k + 1, by omega, ?_⟩)
    | (exact ⟨0, by omega, rfl⟩)
    | (refine And.intro ?_ ?_)
    | (intro hx; have hprop := (show ∀ (p : Prop), p → True from fun _ _ => True.intro) _ hx; clear hprop; first | (cases hx; done) | (exfalso; revert hx; simp (disch := omega) only [decide_eq_true_eq, decide_eq_false_iff_not, Bool.not_eq_true', Bool.not_eq_false', Bool.and_eq_true, Bool.and_eq_false_iff, Int.not_lt, Int.not_le, ne_eq, not_false_eq_true, not_true_eq_false, reduceCtorEq, Bool.true_eq_false, Bool.false_eq_true, beq_iff_eq, bne_iff_ne, beq_eq_false_iff_ne, false_or, or_false, true_and, and_true, h1, hX.lenT, List.length_map]; done) | (simp (disch := omega) only [decide_eq_true_eq, decide_eq_false_iff_not, Bool.not_eq_true', Bool.not_eq_false', Bool.and_eq_true, Bool.and_eq_false_iff, Int.not_lt, Int.not_le, ne_eq, not_false_eq_true, not_true_eq_false, reduceCtorEq, Bool.true_eq_false, Bool.false_eq_true, beq_iff_eq, bne_iff_ne, beq_eq_false_iff_ne, false_or, or_false, true_and, and_true, h1, hX.lenT, List.length_map] at hx; first | (exfalso; omega) | skip) | skip)
    | trivial
    | exact fit_ofL _ _
    | (simp (disch := omega) only [notAgg_v, notAgg_sl, plain_v, fits, fitsOne, fitsCells, xsOf, cell_zero, cell_succ, List.range, List.range.loop, List.map, cond_true, cond_false, D.v.injEq, exists_eq', exists_eq, and_self, and_true, true_and, D.agg.injEq, List.length, exists_eq_left', D.sl.injEq, reduceCtorEq, false_or, true_or, or_true, or_false, cell_zero, cell_succ, cell_v, cells_v, cells_agg, List.length_cons, List.length_nil, h1, hX.lenT, List.length_map]; done))
  all_goals first
    | (exfalso; omega)
    | omega
    | exact notAgg_fn _ _
    | exact hX.notAgg
    | exact plain_ofL (ivs_plain _)
    | (rw [app2r]; exact plain_ofL (ivs_plain _))
    | rfl
    | exact app2 _ _ _
    | (rw [ch2]; simp only [List.length_map, List.length_append, List.length_cons, List.length_nil]; omega)
    | assumption
    | (rw [ht, app2]; rfl)
    | (simp only [leftG]; omega)
    | (rw [ch2]; simp only [List.length_map, List.length_take, List.length_cons, List.length_nil]; omega)
    | (rw [h1]; exact Nat.le_refl _)
    | (simp only [List.length_map]; omega)
    | (simp_all [kp]; done)
    | (simp_all; done)
    | fail

theorem vc_backI (x : D) (zs : List (Int × Int)) : Cond Try.prog (fun k => if k = 3 then some ⟨[4], [3], [0], []⟩ else none) Try.f10 [x] [ofL 2 (zs.map iv)] = ((NotAgg x ∧ True) ∧ ∃ (I : List D → Prop), ∃ (μ : List D → Nat), ((D.v (Value.int IntKind.i64 0) = D.v (Value.int IntKind.i64 0) ∧ true = true ∧ x = x ∧ True) ∧ ((true = true ∧ D.v nilS = D.v nilS) ∧ True) ∧ I [D.v (Value.int IntKind.i64 0), D.v nilS]) ∧ ∀ (r r_1 : D), I [r, r_1] → ∃ (r_2 : D), D.lenT (TypeDesc.slice 29) x = some r_2 ∧ ∃ (r_3 : D), D.bin BinOp.lss r r_2 = some r_3 ∧ ∃ (b : Bool), r_3 = D.v (Value.bool b) ∧ (b = true → D.inb 2 x r ∧ 0 + 2 ≤ (x.at_ r).cells.length ∧ ∃ (ls : List D), r_1.lst = some ls ∧ ∃ (lx : List D), D.lstSz 2 (D.sl 2 (chunks true 2 1 [(x.at_ r).cell (0 + 0), (x.at_ r).cell (0 + 1)])) = some lx ∧ (ls.length + lx.length) * 16 ≤ 1099511627776 ∧ ∃ (r_4 : D), D.bin BinOp.add r (D.v (Value.int IntKind.i64 1)) = some r_4 ∧ (r_4 = r_4 ∧ true = true ∧ x = x ∧ True) ∧ ((true = true ∧ D.app 2 r_1 lx = D.app 2 r_1 lx) ∧ True) ∧ I [r_4, D.app 2 r_1 lx] ∧ μ [r_4, D.app 2 r_1 lx] < μ [r, r_1]) ∧ (b = false → (PlainD r_1 ∧ True) ∧ [r_1] = [ofL 2 (List.map iv zs)])) := by kernel_rfl
set_option maxHeartbeats 2000000 in
theorem backI (x : D) (zs : List (Int × Int)) (hX : IsL 2 (zs.map iv) x) (hm : zs.length ≤ 10000)  : PureD Try.prog 10 [x] [ofL 2 (zs.map iv)] := by
  refine pure_cond (Lp := (fun k => if k = 3 then some ⟨[4], [3], [0], []⟩ else none)) (by kernel_rfl) Try.func10 (by kernel_rfl) (by kernel_rfl) ?_
  rw [vc_backI x zs]
  simp only [hX.lenT, List.length_map, Option.some.injEq, exists_eq_left']
  have h1 : True := trivial
  repeat' (first
    | (refine ex_some (by simp (disch := omega) only [bin_shr, bin_shl, bin_and, bin_or, bin_xor, len_str, toStr_ofL, bin_add, bin_sub, bin_mul, bin_quo, bin_rem, bin_lss, bin_leq, bin_gtr, bin_geq, bin_eql, bin_neq, eqs_cn, eqs_ci, eqs_cb, eqs_cs, Option.map_some, lenT_ofL, lst_ofL, lstSz_ofL, chunk_one, lst_nil, lst_sl, lstSz_sl, lstSz_nil, Bool.and_true, Bool.true_and, Bool.and_false, Bool.false_and, beq_self_eq_true, beq_bb, bne_bb, un_not, un_neg, conv_int, min2_int, max2_int, w64, w32, wu8, wu16, wu32, wu64, tdiv_nn, tmod_nn, cell_zero, cell_succ, cell_v, cells_v, cells_agg, Bool.not_true, Bool.not_false, Int.reduceLT, Int.reduceLE, Int.reduceEq, Int.reduceNeg, Int.reduceAdd, Int.reduceSub, Int.reduceMul, intOf_v, decide_true, decide_false, h1, hX.lenT, List.length_map]; rfl) ?_)
    | (refine ex_bool ?_)
    | (exact i1)
    | (refine ⟨(fun r => ∃ k : Nat, k ≤ zs.length ∧ r = [.v (.int .i64 (k : Nat)), ofL 2 ((zs.take k).map iv)]), leftG zs.length, ?_⟩)
    | (refine fun (r3 r4 : D) (hI : (fun r => ∃ k : Nat, k ≤ zs.length ∧ r = [.v (.int .i64 (k : Nat)), ofL 2 ((zs.take k).map iv)]) [r3, r4]) => ?_; obtain ⟨k, hk, hl0⟩ := hI; simp only [List.cons.injEq, and_true] at hl0; obtain ⟨rfl, rfl⟩ := hl0; by_cases hlt : k < zs.length <;> first | (have hk1 : k < zs.length := (by omega); have h1 := iv_get hX hk1; have i1 := iv_inb hX hk1; have ht : zs.take (k + 1) = zs.take k ++ [zs.getD k (0, 0)] := take_sn hk1; generalize zs.getD k (0, 0) = z at h1 ht; obtain ⟨p, q⟩ := z; simp only [h1, iv, Nat.zero_add, cell_zero, cell_succ, cells_agg, List.length_cons, List.length_nil]; have inl1 : True := trivial) | (have hkk : k = zs.length := (by omega); subst hkk; rw [List.take_length]; have h1 : True := trivial; have out1 : True := trivial))
    | (have := inl1; refine ⟨k + 1, by omega, ?_⟩)
    | (exact ⟨0, by omega, rfl⟩)
    | (refine And.intro ?_ ?_)
    | (intro hx; have hprop := (show ∀ (p : Prop), p → True from fun _ _ => True.intro) _ hx; clear hprop; first | (cases hx; done) | (exfalso; revert hx; simp (disch := omega) only [decide_eq_true_eq, decide_eq_false_iff_not, Bool.not_eq_true', Bool.not_eq_false', Bool.and_eq_true, Bool.and_eq_false_iff, Int.not_lt, Int.not_le, ne_eq, not_false_eq_true, not_true_eq_false, reduceCtorEq, Bool.true_eq_false, Bool.false_eq_true, beq_iff_eq, bne_iff_ne, beq_eq_false_iff_ne, false_or, or_false, true_and, and_true, h1, hX.lenT, List.length_map]; done) | (simp (disch := omega) only [decide_eq_true_eq, decide_eq_false_iff_not, Bool.not_eq_true', Bool.not_eq_false', Bool.and_eq_true, Bool.and_eq_false_iff, Int.not_lt, Int.not_le, ne_eq, not_false_eq_true, not_true_eq_false, reduceCtorEq, Bool.true_eq_false, Bool.false_eq_true, beq_iff_eq, bne_iff_ne, beq_eq_false_iff_ne, false_or, or_false, true_and, and_true, h1, hX.lenT, List.length_map] at hx; first | (exfalso; omega) | skip) | skip)
    | trivial
    | exact fit_ofL _ _
    | (simp (disch := omega) only [notAgg_v, notAgg_sl, plain_v, fits, fitsOne, fitsCells, xsOf, cell_zero, cell_succ, List.range, List.range.loop, List.map, cond_true, cond_false, D.v.injEq, exists_eq', exists_eq, and_self, and_true, true_and, D.agg.injEq, List.length, exists_eq_left', D.sl.injEq, reduceCtorEq, false_or, true_or, or_true, or_false, cell_zero, cell_succ, cell_v, cells_v, cells_agg, List.length_cons, List.length_nil, h1, hX.lenT, List.length_map]; done))
  all_goals first
    | (exfalso; omega)
    | omega
    | exact notAgg_fn _ _
    | exact hX.notAgg
    | exact plain_ofL (ivs_plain _)
    | (rw [app2r]; exact plain_ofL (ivs_plain _))
    | rfl
    | exact app2 _ _ _
    | (rw [ch2]; simp only [List.length_map, List.length_append, List.length_cons, List.length_nil]; omega)
    | assumption
    | (rw [ht, app2]; rfl)
    | (simp only [leftG]; omega)
    | (rw [ch2]; simp only [List.length_map, List.length_take, List.length_cons, List.length_nil]; omega)
    | (rw [h1]; exact Nat.le_refl _)
    | (simp only [List.length_map]; omega)
    | (simp_all [kp]; done)
    | (simp_all; done)
    | fail

theorem vc_awake  : Cond Try.prog (fun _ => none) Try.f7 [] [.v (.bool true)] = (True ∧ ∃ (r : D), PureD Try.prog 11 [D.v (Value.slice none 0 0), D.agg [D.v (Value.int IntKind.i64 1), D.v (Value.int IntKind.i64 3)]] [r] ∧ fits [(false, [some 2])] [r] ∧ ∃ (r_1 : D), PureD Try.prog 11 [r, D.agg [D.v (Value.int IntKind.i64 3), D.v (Value.int IntKind.i64 5)]] [r_1] ∧ fits [(false, [some 2])] [r_1] ∧ ∃ (r : D), PureD Try.prog 13 [r_1, D.agg [D.v (Value.int IntKind.i64 2), D.v (Value.int IntKind.i64 4)]] [r] ∧ fits [(false, [some 2])] [r] ∧ ∃ (r_2 : D), PureD Try.prog 15 [r, D.agg [D.v (Value.int IntKind.i64 0), D.v (Value.int IntKind.i64 9)]] [r_2] ∧ fits [(false, [some 2])] [r_2] ∧ ∃ (r_3 : D), D.lenT (TypeDesc.slice 29) r_1 = some r_3 ∧ ∃ (r_4 : D), D.bin BinOp.eql r_3 (D.v (Value.int IntKind.i64 1)) = some r_4 ∧ ∃ (b : Bool), r_4 = D.v (Value.bool b) ∧ (b = true → D.inb 2 r_1 (D.v (Value.int IntKind.i64 0)) ∧ 0 + 2 ≤ (r_1.at_ (D.v (Value.int IntKind.i64 0))).cells.length ∧ ∃ (r_5 : Bool), eqs [EqK.i, EqK.i] [(r_1.at_ (D.v (Value.int IntKind.i64 0))).cell (0 + 0), (r_1.at_ (D.v (Value.int IntKind.i64 0))).cell (0 + 1)] [D.v (Value.int IntKind.i64 1), D.v (Value.int IntKind.i64 5)] = some r_5 ∧ ∃ (b : Bool), D.v (Value.bool r_5) = D.v (Value.bool b) ∧ (b = true → ∃ (r_6 : D), D.lenT (TypeDesc.slice 29) r = some r_6 ∧ ∃ (r_7 : D), D.bin BinOp.eql r_6 (D.v (Value.int IntKind.i64 2)) = some r_7 ∧ ∃ (b : Bool), r_7 = D.v (Value.bool b) ∧ (b = true → D.inb 2 r (D.v (Value.int IntKind.i64 1)) ∧ 0 + 2 ≤ (r.at_ (D.v (Value.int IntKind.i64 1))).cells.length ∧ ∃ (r_8 : Bool), eqs [EqK.i, EqK.i] [(r.at_ (D.v (Value.int IntKind.i64 1))).cell (0 + 0), (r.at_ (D.v (Value.int IntKind.i64 1))).cell (0 + 1)] [D.v (Value.int IntKind.i64 4), D.v (Value.int IntKind.i64 5)] = some r_8 ∧ ∃ (b : Bool), D.v (Value.bool r_8) = D.v (Value.bool b) ∧ (b = true → ∃ (r_9 : D), D.lenT (TypeDesc.slice 29) r_2 = some r_9 ∧ ∃ (r_10 : D), D.bin BinOp.eql r_9 (D.v (Value.int IntKind.i64 3)) = some r_10 ∧ ∃ (b : Bool), r_10 = D.v (Value.bool b) ∧ (b = true → D.inb 2 r_2 (D.v (Value.int IntKind.i64 2)) ∧ 0 + 2 ≤ (r_2.at_ (D.v (Value.int IntKind.i64 2))).cells.length ∧ ∃ (r_11 : Bool), eqs [EqK.i, EqK.i] [(r_2.at_ (D.v (Value.int IntKind.i64 2))).cell (0 + 0), (r_2.at_ (D.v (Value.int IntKind.i64 2))).cell (0 + 1)] [D.v (Value.int IntKind.i64 5), D.v (Value.int IntKind.i64 9)] = some r_11 ∧ ∃ (b : Bool), D.v (Value.bool r_11) = D.v (Value.bool b) ∧ (b = true → ∃ (r_12 : D), PureD Try.prog 24 [r, D.v (Value.int IntKind.i64 4)] [r_12] ∧ fits [(false, [none])] [r_12] ∧ ∃ (b : Bool), r_12 = D.v (Value.bool b) ∧ (b = true → ∃ (r_13 : D), PureD Try.prog 24 [r, D.v (Value.int IntKind.i64 2)] [r_13] ∧ fits [(false, [none])] [r_13] ∧ ∃ (r_14 : D), D.un UnOp.not r_13 = some r_14 ∧ ∃ (b : Bool), r_14 = D.v (Value.bool b) ∧ (b = true → ∃ (r_15 : D), PureD Try.prog 26 [r_1, D.agg [D.v (Value.int IntKind.i64 2), D.v (Value.int IntKind.i64 5)]] [r_15] ∧ fits [(false, [none])] [r_15] ∧ ∃ (b : Bool), r_15 = D.v (Value.bool b) ∧ (b = true → ∃ (r_16 : D), PureD Try.prog 26 [r, D.agg [D.v (Value.int IntKind.i64 1), D.v (Value.int IntKind.i64 3)]] [r_16] ∧ fits [(false, [none])] [r_16] ∧ ∃ (r_17 : D), D.un UnOp.not r_16 = some r_17 ∧ ∃ (b : Bool), r_17 = D.v (Value.bool b) ∧ (b = true → ∃ (r_18 : D), PureD Try.prog 21 [r] [r_18] ∧ fits [(false, [none])] [r_18] ∧ ∃ (r_19 : D), D.bin BinOp.eql r_18 (D.v (Value.int IntKind.i64 2)) = some r_19 ∧ ∃ (b : Bool), r_19 = D.v (Value.bool b) ∧ (b = true → ∃ (r_20 : D), PureD Try.prog 28 [r_1, D.v (Value.int IntKind.i64 1)] [r_20] ∧ fits [(false, [none])] [r_20] ∧ ∃ (r_21 : D), D.bin BinOp.eql r_20 (D.v (Value.int IntKind.i64 5)) = some r_21 ∧ ∃ (b : Bool), r_21 = D.v (Value.bool b) ∧ (b = true → ∃ (r_22 : D), PureD Try.prog 19 [r] [r_22] ∧ fits [(false, [none])] [r_22] ∧ ∃ (r_23 : D), D.bin BinOp.eql r_22 (D.v (Value.int IntKind.i64 0)) = some r_23 ∧ ∃ (b : Bool), r_23 = D.v (Value.bool b) ∧ (b = true → ∃ (r_24 : D), PureD Try.prog 19 [D.sl 2 (chunks true 2 2 [D.v (Value.int IntKind.i64 1), D.v (Value.int IntKind.i64 2), D.v (Value.int IntKind.i64 2), D.v (Value.int IntKind.i64 3)])] [r_24] ∧ fits [(false, [none])] [r_24] ∧ ∃ (r_25 : D), D.bin BinOp.eql r_24 (D.v (Value.int IntKind.i64 10)) = some r_25 ∧ ∃ (b : Bool), r_25 = D.v (Value.bool b) ∧ (b = true → ∃ (r_26 : D), PureD Try.prog 17 [r_1, r] [r_26] ∧ fits [(false, [some 2])] [r_26] ∧ ∃ (r_27 : D), PureD Try.prog 23 [r_26, r] [r_27] ∧ fits [(false, [none])] [r_27] ∧ ∃ (b : Bool), r_27 = D.v (Value.bool b) ∧ (b = true → ∃ (r_28 : D), PureD Try.prog 23 [r_1, r] [r_28] ∧ fits [(false, [none])] [r_28] ∧ ∃ (r : D), D.un UnOp.not r_28 = some r ∧ ∃ (b : Bool), r = D.v (Value.bool b) ∧ ∃ (b : Bool), r = D.v (Value.bool b) ∧ ∃ (b : Bool), r = D.v (Value.bool b) ∧ ((∃ (y : Value), r = D.v y) ∧ True) ∧ [r] = [D.v (Value.bool true)]) ∧ (b = false → (True ∧ True) ∧ [D.v (Value.bool false)] = [D.v (Value.bool true)])) ∧ (b = false → (True ∧ True) ∧ [D.v (Value.bool false)] = [D.v (Value.bool true)])) ∧ (b = false → (True ∧ True) ∧ [D.v (Value.bool false)] = [D.v (Value.bool true)])) ∧ (b = false → (True ∧ True) ∧ [D.v (Value.bool false)] = [D.v (Value.bool true)])) ∧ (b = false → (True ∧ True) ∧ [D.v (Value.bool false)] = [D.v (Value.bool true)])) ∧ (b = false → (True ∧ True) ∧ [D.v (Value.bool false)] = [D.v (Value.bool true)])) ∧ (b = false → (True ∧ True) ∧ [D.v (Value.bool false)] = [D.v (Value.bool true)])) ∧ (b = false → (True ∧ True) ∧ [D.v (Value.bool false)] = [D.v (Value.bool true)])) ∧ (b = false → (True ∧ True) ∧ [D.v (Value.bool false)] = [D.v (Value.bool true)])) ∧ (b = false → (True ∧ True) ∧ [D.v (Value.bool false)] = [D.v (Value.bool true)])) ∧ (b = false → (True ∧ True) ∧ [D.v (Value.bool false)] = [D.v (Value.bool true)])) ∧ (b = false → (True ∧ True) ∧ [D.v (Value.bool false)] = [D.v (Value.bool true)])) ∧ (b = false → (True ∧ True) ∧ [D.v (Value.bool false)] = [D.v (Value.bool true)])) ∧ (b = false → (True ∧ True) ∧ [D.v (Value.bool false)] = [D.v (Value.bool true)])) ∧ (b = false → (True ∧ True) ∧ [D.v (Value.bool false)] = [D.v (Value.bool true)])) := by kernel_rfl
set_option maxHeartbeats 8000000 in
theorem awake   : PureD Try.prog 7 [] [.v (.bool true)] := by
  refine pure_cond (Lp := (fun _ => none)) (by kernel_rfl) Try.func7 (by kernel_rfl) (by kernel_rfl) ?_
  rw [vc_awake]
  have A1 := add1 (.v nilS) [] 1 3 (.inr ⟨rfl, rfl⟩) (by simp) wa1.2.2.1 wa1.2.1 wa1.2.2.2
  rw [wa1.1] at A1
  have A2 := add1 _ [(1, 3)] 3 5 (isZ _) (by simp) wa2.2.2.1 wa2.2.1 wa2.2.2.2
  rw [wa2.1] at A2
  have A3 := cut1 _ [(1, 5)] 2 4 (isZ _) (by simp) wa3.2.2.1 wa3.2.1 wa3.2.2.2
  rw [wa3.1] at A3
  have A4 := gap1 _ [(1, 2), (4, 5)] 0 9 (isZ _) (by simp) wa4.2.2 wa4.2.1
  rw [wa4.1] at A4
  have B1 := has _ [(1, 2), (4, 5)] 4 (isZ _) (by simp)
  have B2 := has _ [(1, 2), (4, 5)] 2 (isZ _) (by simp)
  have B3 := holds _ [(1, 5)] 2 5 (isZ _) (by simp)
  have B4 := holds _ [(1, 2), (4, 5)] 1 3 (isZ _) (by simp)
  have B5 := count _ [(1, 2), (4, 5)] (isZ _) (by simp)
  have B6 := first _ [(1, 5)] 1 (isZ _) (by simp)
  have B7 := check _ [(1, 2), (4, 5)] (isZ _) (by simp)
  have B8 := check _ [(1, 2), (2, 3)] (isZ _) (by simp)
  have B9 := meet1 _ _ [(1, 5)] [(1, 2), (4, 5)] (isZ _) (by simp) (isZ _) (by simp) wa3.2.1 wa4.2.1
  rw [wa6] at B9
  have C1 := same _ _ [(1, 2), (4, 5)] [(1, 2), (4, 5)] (isZ _) (isZ _) (by simp) (by simp)
  have C2 := same _ _ [(1, 5)] [(1, 2), (4, 5)] (isZ _) (isZ _) (by simp) (by simp)
  rw [wa5.1] at B1
  rw [wa5.2.1] at B2
  rw [wa5.2.2.1] at B3
  rw [wa5.2.2.2.1] at B4
  rw [wa5.2.2.2.2.1] at B5
  rw [wa5.2.2.2.2.2.1] at B6
  rw [wa4.2.1] at B7
  rw [wa5.2.2.2.2.2.2.1] at B8
  rw [wa5.2.2.2.2.2.2.2.1] at C1
  rw [wa5.2.2.2.2.2.2.2.2] at C2
  simp only [List.map, iv, ofL] at A1 A2 A3 A4 B1 B2 B3 B4 B5 B6 B7 B8 B9 C1 C2
  repeat' (first
    | (refine ex_some (by simp (disch := omega) only [bin_shr, bin_shl, bin_and, bin_or, bin_xor, len_str, toStr_ofL, bin_add, bin_sub, bin_mul, bin_quo, bin_rem, bin_lss, bin_leq, bin_gtr, bin_geq, bin_eql, bin_neq, eqs_cn, eqs_ci, eqs_cb, eqs_cs, Option.map_some, lenT_ofL, lst_ofL, lstSz_ofL, chunk_one, lst_nil, lst_sl, lstSz_sl, lstSz_nil, Bool.and_true, Bool.true_and, Bool.and_false, Bool.false_and, beq_self_eq_true, beq_bb, bne_bb, un_not, un_neg, conv_int, min2_int, max2_int, w64, w32, wu8, wu16, wu32, wu64, tdiv_nn, tmod_nn, cell_zero, cell_succ, cell_v, cells_v, cells_agg, Bool.not_true, Bool.not_false, Int.reduceLT, Int.reduceLE, Int.reduceEq, Int.reduceNeg, Int.reduceAdd, Int.reduceSub, Int.reduceMul, intOf_v, decide_true, decide_false, i64, lenT_slA, at0, at1, at2, List.length_cons, List.length_nil]; rfl) ?_)
    | (refine ex_bool ?_)
    | (refine ⟨_, A1, ?_⟩)
    | (refine ⟨_, A2, ?_⟩)
    | (refine ⟨_, A3, ?_⟩)
    | (refine ⟨_, A4, ?_⟩)
    | (refine ⟨_, B1, ?_⟩)
    | (refine ⟨_, B2, ?_⟩)
    | (refine ⟨_, B3, ?_⟩)
    | (refine ⟨_, B4, ?_⟩)
    | (refine ⟨_, B5, ?_⟩)
    | (refine ⟨_, B6, ?_⟩)
    | (refine ⟨_, B7, ?_⟩)
    | (refine ⟨_, B8, ?_⟩)
    | (refine ⟨_, B9, ?_⟩)
    | (refine ⟨_, C1, ?_⟩)
    | (refine ⟨_, C2, ?_⟩)
    | (refine And.intro ?_ ?_)
    | (intro hx; have hprop := (show ∀ (p : Prop), p → True from fun _ _ => True.intro) _ hx; clear hprop; first | (cases hx; done) | (exfalso; revert hx; simp (disch := omega) only [decide_eq_true_eq, decide_eq_false_iff_not, Bool.not_eq_true', Bool.not_eq_false', Bool.and_eq_true, Bool.and_eq_false_iff, Int.not_lt, Int.not_le, ne_eq, not_false_eq_true, not_true_eq_false, reduceCtorEq, Bool.true_eq_false, Bool.false_eq_true, beq_iff_eq, bne_iff_ne, beq_eq_false_iff_ne, false_or, or_false, true_and, and_true, i64, lenT_slA, at0, at1, at2, List.length_cons, List.length_nil]; done) | (simp (disch := omega) only [decide_eq_true_eq, decide_eq_false_iff_not, Bool.not_eq_true', Bool.not_eq_false', Bool.and_eq_true, Bool.and_eq_false_iff, Int.not_lt, Int.not_le, ne_eq, not_false_eq_true, not_true_eq_false, reduceCtorEq, Bool.true_eq_false, Bool.false_eq_true, beq_iff_eq, bne_iff_ne, beq_eq_false_iff_ne, false_or, or_false, true_and, and_true, i64, lenT_slA, at0, at1, at2, List.length_cons, List.length_nil] at hx; first | (exfalso; omega) | skip) | skip)
    | trivial
    | exact fit_ofL _ _
    | (simp (disch := omega) only [notAgg_v, notAgg_sl, plain_v, fits, fitsOne, fitsCells, xsOf, cell_zero, cell_succ, List.range, List.range.loop, List.map, cond_true, cond_false, D.v.injEq, exists_eq', exists_eq, and_self, and_true, true_and, D.agg.injEq, List.length, exists_eq_left', D.sl.injEq, reduceCtorEq, false_or, true_or, or_true, or_false, cell_zero, cell_succ, cell_v, cells_v, cells_agg, List.length_cons, List.length_nil, i64, lenT_slA, at0, at1, at2, List.length_cons, List.length_nil]; done))
  all_goals first | exact fit_ofL _ _ | exact ⟨_, rfl⟩ | exact .inr ⟨_, rfl⟩ | exact .inl rfl | omega | rfl | exact ⟨_, _, _, rfl, rfl, by decide, by decide⟩ | (simp; done) | fail

end Go.Proofs.Ytpbmlllffmkkdaa