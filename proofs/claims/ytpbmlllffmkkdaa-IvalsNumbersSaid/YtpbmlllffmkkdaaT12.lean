/-
  Layer 6: the reference: one, put.
-/
import Derived.Test.YtpbmlllffmkkdaaT1
import Derived.Test.YtpbmlllffmkkdaaT2
import Derived.Test.YtpbmlllffmkkdaaT3
import Derived.Test.YtpbmlllffmkkdaaT4
import Derived.Test.YtpbmlllffmkkdaaT5
import Derived.Test.YtpbmlllffmkkdaaT6
import Derived.Test.YtpbmlllffmkkdaaT7
import Derived.Test.YtpbmlllffmkkdaaT8
import Derived.Test.YtpbmlllffmkkdaaT10
import Derived.Test.YtpbmlllffmkkdaaT11
namespace Go.Proofs.Ytpbmlllffmkkdaa
open Go.RowKit
set_option linter.unusedSimpArgs false
set_option linter.unusedVariables false


theorem set_hi {l : List Z} {k : Nat} (h : k < l.length) (kk : IntKind) (v : Int) : (ofL 2 (l.map iv)).setAt (.v (.int kk (k : Nat))) 1 [.v (.int .i64 v)] = ofL 2 ((l.set k ((l.getD k (0, 0)).1, v)).map iv) := by
  cases hl : l with
  | nil => rw [hl] at h; simp at h
  | cons a t =>
    rw [← hl]
    have e1 : ofL 2 (l.map iv) = .sl 2 (l.map iv) := by rw [hl]; rfl
    have e2 : ofL 2 ((l.set k ((l.getD k (0, 0)).1, v)).map iv) = .sl 2 ((l.set k ((l.getD k (0, 0)).1, v)).map iv) := by rw [hl]; cases k <;> rfl
    rw [e1, e2]
    simp only [D.setAt, Int.toNat_natCast]
    have h2 : (l.map iv).getD k default = iv (l.getD k (0, 0)) := by simp [List.getD, h]
    rw [h2]
    simp [D.splice, iv, List.map_set]
theorem at_z {l : List Z} {k : Nat} (h : k < l.length) : (ofL 2 (l.map iv)).at_ (.v (.int .i64 (k : Nat))) = iv (l.getD k (0, 0)) := iv_get (isL_ofL 2 _) h
theorem inb_z {l : List Z} {k : Nat} (h : k < l.length) : (ofL 2 (l.map iv)).inb 2 (.v (.int .i64 (k : Nat))) := iv_inb (isL_ofL 2 _) h
theorem app_zn (l : List D) : D.app 2 (.v nilS) l = ofL 2 l := app_ofL 2 [] l
theorem plain_one (p q : Int) : PlainD (.sl 2 (chunks true 2 1 [.v (.int .i64 p), .v (.int .i64 q)])) := plain_sl (ivs_plain [(p, q)])

theorem vc_one (p q : Int) : Cond Try.prog (fun _ => none) Try.f36 [.agg [.v (.int .i64 p), .v (.int .i64 q)]] [ofL 2 ((if emp (p, q) = true then [] else [(p, q)] : List Z).map iv)] = (((∃ (cs : List D), D.agg [D.v (Value.int IntKind.i64 p), D.v (Value.int IntKind.i64 q)] = D.agg cs ∧ cs.length = 2) ∧ True) ∧ ∃ (r : D), D.bin BinOp.leq (D.v (Value.int IntKind.i64 q)) (D.v (Value.int IntKind.i64 p)) = some r ∧ ∃ (b : Bool), r = D.v (Value.bool b) ∧ (b = true → (PlainD (D.v nilS) ∧ True) ∧ [D.v nilS] = [ofL 2 (List.map iv (if emp (p, q) = true then [] else [(p, q)]))]) ∧ (b = false → (PlainD (D.sl 2 (chunks true 2 1 [D.v (Value.int IntKind.i64 p), D.v (Value.int IntKind.i64 q)])) ∧ True) ∧ [D.sl 2 (chunks true 2 1 [D.v (Value.int IntKind.i64 p), D.v (Value.int IntKind.i64 q)])] = [ofL 2 (List.map iv (if emp (p, q) = true then [] else [(p, q)]))])) := by kernel_rfl
theorem one (p q : Int)  : PureD Try.prog 36 [.agg [.v (.int .i64 p), .v (.int .i64 q)]] [ofL 2 ((if emp (p, q) = true then [] else [(p, q)] : List Z).map iv)] := by
  refine pure_cond (Lp := (fun _ => none)) (by kernel_rfl) Try.func36 (by kernel_rfl) (by kernel_rfl) ?_
  rw [vc_one p q]
  cases he : emp (p, q)
  · rw [if_neg (by simp)]
    simp only [emp, decide_eq_false_iff_not] at he
    have hs : ofL 2 (([(p, q)] : List Z).map iv) = .sl 2 [.agg [.v (.int .i64 p), .v (.int .i64 q)]] := rfl
    rw [hs]
    repeat' (first
      | (refine ex_some (by simp (disch := omega) only [bin_shr, bin_shl, bin_and, bin_or, bin_xor, len_str, toStr_ofL, bin_add, bin_sub, bin_mul, bin_quo, bin_rem, bin_lss, bin_leq, bin_gtr, bin_geq, bin_eql, bin_neq, eqs_cn, eqs_ci, eqs_cb, eqs_cs, Option.map_some, lenT_ofL, lst_ofL, lstSz_ofL, chunk_one, lst_nil, lst_sl, lstSz_sl, lstSz_nil, Bool.and_true, Bool.true_and, Bool.and_false, Bool.false_and, beq_self_eq_true, beq_bb, bne_bb, un_not, un_neg, conv_int, min2_int, max2_int, w64, w32, wu8, wu16, wu32, wu64, tdiv_nn, tmod_nn, cell_zero, cell_succ, cell_v, cells_v, cells_agg, Bool.not_true, Bool.not_false, Int.reduceLT, Int.reduceLE, Int.reduceEq, Int.reduceNeg, Int.reduceAdd, Int.reduceSub, Int.reduceMul, intOf_v, decide_true, decide_false]; rfl) ?_)
      | (refine ex_bool ?_)
      | (refine And.intro ?_ ?_)
      | (intro hx; have hprop := (show ∀ (p : Prop), p → True from fun _ _ => True.intro) _ hx; clear hprop; first | (cases hx; done) | (exfalso; revert hx; simp (disch := omega) only [decide_eq_true_eq, decide_eq_false_iff_not, Bool.not_eq_true', Bool.not_eq_false', Bool.and_eq_true, Bool.and_eq_false_iff, Int.not_lt, Int.not_le, ne_eq, not_false_eq_true, not_true_eq_false, reduceCtorEq, Bool.true_eq_false, Bool.false_eq_true, beq_iff_eq, bne_iff_ne, beq_eq_false_iff_ne, false_or, or_false, true_and, and_true]; done) | (simp (disch := omega) only [decide_eq_true_eq, decide_eq_false_iff_not, Bool.not_eq_true', Bool.not_eq_false', Bool.and_eq_true, Bool.and_eq_false_iff, Int.not_lt, Int.not_le, ne_eq, not_false_eq_true, not_true_eq_false, reduceCtorEq, Bool.true_eq_false, Bool.false_eq_true, beq_iff_eq, bne_iff_ne, beq_eq_false_iff_ne, false_or, or_false, true_and, and_true] at hx; first | (exfalso; omega) | skip) | skip)
      | trivial
      | exact fit_ofL _ _
      | (simp (disch := omega) only [notAgg_v, notAgg_sl, plain_v, fits, fitsOne, fitsCells, xsOf, cell_zero, cell_succ, List.range, List.range.loop, List.map, cond_true, cond_false, D.v.injEq, exists_eq', exists_eq, and_self, and_true, true_and, D.agg.injEq, List.length, exists_eq_left', D.sl.injEq, reduceCtorEq, false_or, true_or, or_true, or_false, cell_zero, cell_succ, cell_v, cells_v, cells_agg, List.length_cons, List.length_nil]; done))
    all_goals first
      | (exfalso; omega)
      | omega
      | exact notAgg_fn _ _
      | exact hX.notAgg
      | exact plain_ofL (ivs_plain _)
      | (rw [app2r]; exact plain_ofL (ivs_plain _))
      | rfl
      | exact app2 _ _ _
      | (rw [ch2]; simp only [List.length_map, List.length_append, List.length_cons, List.length_nil]; omega)
      | assumption
      | exact plain_one _ _
      | (simp only [List.length_map]; omega)
      | (simp_all [kp]; done)
      | (simp_all; done)
      | fail
  · rw [if_pos rfl]
    simp only [emp, decide_eq_true_eq] at he
    have hs : ofL 2 (([] : List Z).map iv) = .v nilS := rfl
    rw [hs]
    repeat' (first
      | (refine ex_some (by simp (disch := omega) only [bin_shr, bin_shl, bin_and, bin_or, bin_xor, len_str, toStr_ofL, bin_add, bin_sub, bin_mul, bin_quo, bin_rem, bin_lss, bin_leq, bin_gtr, bin_geq, bin_eql, bin_neq, eqs_cn, eqs_ci, eqs_cb, eqs_cs, Option.map_some, lenT_ofL, lst_ofL, lstSz_ofL, chunk_one, lst_nil, lst_sl, lstSz_sl, lstSz_nil, Bool.and_true, Bool.true_and, Bool.and_false, Bool.false_and, beq_self_eq_true, beq_bb, bne_bb, un_not, un_neg, conv_int, min2_int, max2_int, w64, w32, wu8, wu16, wu32, wu64, tdiv_nn, tmod_nn, cell_zero, cell_succ, cell_v, cells_v, cells_agg, Bool.not_true, Bool.not_false, Int.reduceLT, Int.reduceLE, Int.reduceEq, Int.reduceNeg, Int.reduceAdd, Int.reduceSub, Int.reduceMul, intOf_v, decide_true, decide_false]; rfl) ?_)
      | (refine ex_bool ?_)
      | (refine And.intro ?_ ?_)
      | (intro hx; have hprop := (show ∀ (p : Prop), p → True from fun _ _ => True.intro) _ hx; clear hprop; first | (cases hx; done) | (exfalso; revert hx; simp (disch := omega) only [decide_eq_true_eq, decide_eq_false_iff_not, Bool.not_eq_true', Bool.not_eq_false', Bool.and_eq_true, Bool.and_eq_false_iff, Int.not_lt, Int.not_le, ne_eq, not_false_eq_true, not_true_eq_false, reduceCtorEq, Bool.true_eq_false, Bool.false_eq_true, beq_iff_eq, bne_iff_ne, beq_eq_false_iff_ne, false_or, or_false, true_and, and_true]; done) | (simp (disch := omega) only [decide_eq_true_eq, decide_eq_false_iff_not, Bool.not_eq_true', Bool.not_eq_false', Bool.and_eq_true, Bool.and_eq_false_iff, Int.not_lt, Int.not_le, ne_eq, not_false_eq_true, not_true_eq_false, reduceCtorEq, Bool.true_eq_false, Bool.false_eq_true, beq_iff_eq, bne_iff_ne, beq_eq_false_iff_ne, false_or, or_false, true_and, and_true] at hx; first | (exfalso; omega) | skip) | skip)
      | trivial
      | exact fit_ofL _ _
      | (simp (disch := omega) only [notAgg_v, notAgg_sl, plain_v, fits, fitsOne, fitsCells, xsOf, cell_zero, cell_succ, List.range, List.range.loop, List.map, cond_true, cond_false, D.v.injEq, exists_eq', exists_eq, and_self, and_true, true_and, D.agg.injEq, List.length, exists_eq_left', D.sl.injEq, reduceCtorEq, false_or, true_or, or_true, or_false, cell_zero, cell_succ, cell_v, cells_v, cells_agg, List.length_cons, List.length_nil]; done))
    all_goals first
      | (exfalso; omega)
      | omega
      | exact notAgg_fn _ _
      | exact hX.notAgg
      | exact plain_ofL (ivs_plain _)
      | (rw [app2r]; exact plain_ofL (ivs_plain _))
      | rfl
      | exact app2 _ _ _
      | (rw [ch2]; simp only [List.length_map, List.length_append, List.length_cons, List.length_nil]; omega)
      | assumption
      | exact plain_one _ _
      | (simp only [List.length_map]; omega)
      | (simp_all [kp]; done)
      | (simp_all; done)
      | fail

theorem vc_put (l : List (Int × Int)) (p q : Int) : CondM Try.prog (fun _ => none) Try.f43 [.one (.row 0), .agg [.d (.v (.int .i64 p)), .d (.v (.int .i64 q))]] [.row 2 (ofL 2 (l.map iv))] [.one (.row 1)] [none, some (.row 2 (ofL 2 ((putF l (p, q)).map iv)))] = (((True ∧ True) ∧ True ∧ PlainD (ofL 2 (List.map iv (putF l (p, q)))) ∧ True) ∧ ∃ (r : D), D.lenT (TypeDesc.slice 24) (ofL 2 (List.map iv l)) = some r ∧ ∃ (r_1 : D), D.bin BinOp.eql r (D.v (Value.int IntKind.i64 0)) = some r_1 ∧ ∃ (b : Bool), r_1 = D.v (Value.bool b) ∧ (b = false → ∃ (r_2 : D), D.bin BinOp.sub r (D.v (Value.int IntKind.i64 1)) = some r_2 ∧ D.inb 2 (ofL 2 (List.map iv l)) r_2 ∧ 0 + 1 + 1 ≤ ((ofL 2 (List.map iv l)).at_ r_2).cells.length ∧ ∃ (r_3 : D), D.bin BinOp.lss (((ofL 2 (List.map iv l)).at_ r_2).cell (0 + 1)) (D.v (Value.int IntKind.i64 p)) = some r_3 ∧ ∃ (b : Bool), r_3 = D.v (Value.bool b) ∧ (b = true → ∃ (ls : List D), (ofL 2 (List.map iv l)).lst = some ls ∧ ∃ (lx : List D), D.lstSz 2 (D.sl 2 (chunks true 2 1 [D.v (Value.int IntKind.i64 p), D.v (Value.int IntKind.i64 q)])) = some lx ∧ (ls.length + lx.length) * 16 ≤ 1099511627776 ∧ (true = true ∧ True) ∧ (true = true ∧ ofL 2 (List.map iv (putF l (p, q))) = D.app 2 (ofL 2 (List.map iv l)) lx) ∧ True) ∧ (b = false → ∃ (ls : List D), (D.v nilS).lst = some ls ∧ ∃ (lx : List D), D.lstSz 2 (ofL 2 (List.map iv l)) = some lx ∧ (ls.length + lx.length) * 16 ≤ 1099511627776 ∧ ∃ (r_4 : D), D.bin BinOp.sub r (D.v (Value.int IntKind.i64 1)) = some r_4 ∧ D.inb 2 (D.app 2 (D.v nilS) lx) r_4 ∧ 0 + 1 + [D.v (Value.int IntKind.i64 q)].length ≤ ((D.app 2 (D.v nilS) lx).at_ r_4).cells.length ∧ (((D.app 2 (D.v nilS) lx).at_ r_4).isAgg' = true ∨ [D.v (Value.int IntKind.i64 q)].length = 1) ∧ (true = true ∧ True) ∧ (true = true ∧ ofL 2 (List.map iv (putF l (p, q))) = (D.app 2 (D.v nilS) lx).setAt r_4 (0 + 1) [D.v (Value.int IntKind.i64 q)]) ∧ True)) ∧ (b = true → ∃ (ls : List D), (ofL 2 (List.map iv l)).lst = some ls ∧ ∃ (lx : List D), D.lstSz 2 (D.sl 2 (chunks true 2 1 [D.v (Value.int IntKind.i64 p), D.v (Value.int IntKind.i64 q)])) = some lx ∧ (ls.length + lx.length) * 16 ≤ 1099511627776 ∧ (true = true ∧ True) ∧ (true = true ∧ ofL 2 (List.map iv (putF l (p, q))) = D.app 2 (ofL 2 (List.map iv l)) lx) ∧ True)) := by kernel_rfl
theorem put (l : List (Int × Int)) (p q : Int) (hl : l.length ≤ 100000) : MemD Try.prog 43 [.one (.row 0), .agg [.d (.v (.int .i64 p)), .d (.v (.int .i64 q))]] [.row 2 (ofL 2 (l.map iv))] [.one (.row 1)] [none, some (.row 2 (ofL 2 ((putF l (p, q)).map iv)))] := by
  refine mem_cond (Lp := (fun _ => none)) (by kernel_rfl) Try.func43 (by kernel_rfl) (by kernel_rfl) ?_
  rw [vc_put l p q]
  rcases Nat.eq_zero_or_pos l.length with h0 | h0
  · have hnil : l = [] := List.length_eq_zero_iff.1 h0
    subst hnil
    rw [put_nil]
    repeat' (first
      | (refine ex_some (by simp (disch := omega) only [bin_shr, bin_shl, bin_and, bin_or, bin_xor, len_str, toStr_ofL, bin_add, bin_sub, bin_mul, bin_quo, bin_rem, bin_lss, bin_leq, bin_gtr, bin_geq, bin_eql, bin_neq, eqs_cn, eqs_ci, eqs_cb, eqs_cs, Option.map_some, lenT_ofL, lst_ofL, lstSz_ofL, chunk_one, lst_nil, lst_sl, lstSz_sl, lstSz_nil, Bool.and_true, Bool.true_and, Bool.and_false, Bool.false_and, beq_self_eq_true, beq_bb, bne_bb, un_not, un_neg, conv_int, min2_int, max2_int, w64, w32, wu8, wu16, wu32, wu64, tdiv_nn, tmod_nn, cell_zero, cell_succ, cell_v, cells_v, cells_agg, Bool.not_true, Bool.not_false, Int.reduceLT, Int.reduceLE, Int.reduceEq, Int.reduceNeg, Int.reduceAdd, Int.reduceSub, Int.reduceMul, intOf_v, decide_true, decide_false]; rfl) ?_)
      | (refine ex_bool ?_)
      | (refine And.intro ?_ ?_)
      | (intro hx; have hprop := (show ∀ (p : Prop), p → True from fun _ _ => True.intro) _ hx; clear hprop; first | (cases hx; done) | (exfalso; revert hx; simp (disch := omega) only [decide_eq_true_eq, decide_eq_false_iff_not, Bool.not_eq_true', Bool.not_eq_false', Bool.and_eq_true, Bool.and_eq_false_iff, Int.not_lt, Int.not_le, ne_eq, not_false_eq_true, not_true_eq_false, reduceCtorEq, Bool.true_eq_false, Bool.false_eq_true, beq_iff_eq, bne_iff_ne, beq_eq_false_iff_ne, false_or, or_false, true_and, and_true]; done) | (simp (disch := omega) only [decide_eq_true_eq, decide_eq_false_iff_not, Bool.not_eq_true', Bool.not_eq_false', Bool.and_eq_true, Bool.and_eq_false_iff, Int.not_lt, Int.not_le, ne_eq, not_false_eq_true, not_true_eq_false, reduceCtorEq, Bool.true_eq_false, Bool.false_eq_true, beq_iff_eq, bne_iff_ne, beq_eq_false_iff_ne, false_or, or_false, true_and, and_true] at hx; first | (exfalso; omega) | skip) | skip)
      | trivial
      | exact fit_ofL _ _
      | (simp (disch := omega) only [notAgg_v, notAgg_sl, plain_v, fits, fitsOne, fitsCells, xsOf, cell_zero, cell_succ, List.range, List.range.loop, List.map, cond_true, cond_false, D.v.injEq, exists_eq', exists_eq, and_self, and_true, true_and, D.agg.injEq, List.length, exists_eq_left', D.sl.injEq, reduceCtorEq, false_or, true_or, or_true, or_false, cell_zero, cell_succ, cell_v, cells_v, cells_agg, List.length_cons, List.length_nil]; done))
    all_goals first
      | (exfalso; omega)
      | omega
      | exact notAgg_fn _ _
      | exact hX.notAgg
      | exact plain_ofL (ivs_plain _)
      | (rw [app2r]; exact plain_ofL (ivs_plain _))
      | rfl
      | exact app2 _ _ _
      | (rw [ch2]; simp only [List.length_map, List.length_append, List.length_cons, List.length_nil]; omega)
      | assumption
      | exact plain_one _ _
      | (simp only [List.length_map]; omega)
      | (simp_all [kp]; done)
      | (simp_all; done)
      | fail
  · obtain ⟨k, hk⟩ : ∃ k, l.length = k + 1 := ⟨l.length - 1, by omega⟩
    have hn : (l.length : Int) - 1 = (k : Nat) := by omega
    have hap := app_zn (l.map iv)
    have h1 := at_z (l := l) (k := k) (by omega)
    have i1 := inb_z (l := l) (k := k) (by omega)
    have hs := set_hi (l := l) (k := k) (by omega) .i64 q
    have hp : putF l (p, q) = if (l.getD k (0, 0)).2 < p then l ++ [(p, q)] else l.set k ((l.getD k (0, 0)).1, q) := by
      unfold putF
      have e : l.length - 1 = k := by omega
      have e2 : ¬ l = [] := by rintro rfl; simp at hk
      simp only [e, e2, false_or]
    generalize l.getD k (0, 0) = y at h1 hs hp
    obtain ⟨y1, y2⟩ := y
    have hp1 : y2 < p → ofL 2 ((putF l (p, q)).map iv) = D.app 2 (ofL 2 (l.map iv)) (chunks true 2 1 [.v (.int .i64 p), .v (.int .i64 q)]) := fun hh => by rw [hp, if_pos hh, app2]
    have hp0 : p ≤ y2 → ofL 2 ((putF l (p, q)).map iv) = (ofL 2 (l.map iv)).setAt (.v (.int .i64 (k : Nat))) 1 [.v (.int .i64 q)] := fun hh => by rw [hp, if_neg (by simp only; omega), hs]
    simp only [iv] at h1
    repeat' (first
      | (refine ex_some (by simp (disch := omega) only [bin_shr, bin_shl, bin_and, bin_or, bin_xor, len_str, toStr_ofL, bin_add, bin_sub, bin_mul, bin_quo, bin_rem, bin_lss, bin_leq, bin_gtr, bin_geq, bin_eql, bin_neq, eqs_cn, eqs_ci, eqs_cb, eqs_cs, Option.map_some, lenT_ofL, lst_ofL, lstSz_ofL, chunk_one, lst_nil, lst_sl, lstSz_sl, lstSz_nil, Bool.and_true, Bool.true_and, Bool.and_false, Bool.false_and, beq_self_eq_true, beq_bb, bne_bb, un_not, un_neg, conv_int, min2_int, max2_int, w64, w32, wu8, wu16, wu32, wu64, tdiv_nn, tmod_nn, cell_zero, cell_succ, cell_v, cells_v, cells_agg, Bool.not_true, Bool.not_false, Int.reduceLT, Int.reduceLE, Int.reduceEq, Int.reduceNeg, Int.reduceAdd, Int.reduceSub, Int.reduceMul, intOf_v, decide_true, decide_false, h1, List.length_map, hn, hap]; rfl) ?_)
      | (refine ex_bool ?_)
      | (exact i1)
      | (exact hp1 ‹_›)
      | (exact hp0 ‹_›)
      | (refine And.intro ?_ ?_)
      | (intro hx; have hprop := (show ∀ (p : Prop), p → True from fun _ _ => True.intro) _ hx; clear hprop; first | (cases hx; done) | (exfalso; revert hx; simp (disch := omega) only [decide_eq_true_eq, decide_eq_false_iff_not, Bool.not_eq_true', Bool.not_eq_false', Bool.and_eq_true, Bool.and_eq_false_iff, Int.not_lt, Int.not_le, ne_eq, not_false_eq_true, not_true_eq_false, reduceCtorEq, Bool.true_eq_false, Bool.false_eq_true, beq_iff_eq, bne_iff_ne, beq_eq_false_iff_ne, false_or, or_false, true_and, and_true, h1, List.length_map, hn, hap]; done) | (simp (disch := omega) only [decide_eq_true_eq, decide_eq_false_iff_not, Bool.not_eq_true', Bool.not_eq_false', Bool.and_eq_true, Bool.and_eq_false_iff, Int.not_lt, Int.not_le, ne_eq, not_false_eq_true, not_true_eq_false, reduceCtorEq, Bool.true_eq_false, Bool.false_eq_true, beq_iff_eq, bne_iff_ne, beq_eq_false_iff_ne, false_or, or_false, true_and, and_true, h1, List.length_map, hn, hap] at hx; first | (exfalso; omega) | skip) | skip)
      | trivial
      | exact fit_ofL _ _
      | (simp (disch := omega) only [notAgg_v, notAgg_sl, plain_v, fits, fitsOne, fitsCells, xsOf, cell_zero, cell_succ, List.range, List.range.loop, List.map, cond_true, cond_false, D.v.injEq, exists_eq', exists_eq, and_self, and_true, true_and, D.agg.injEq, List.length, exists_eq_left', D.sl.injEq, reduceCtorEq, false_or, true_or, or_true, or_false, cell_zero, cell_succ, cell_v, cells_v, cells_agg, List.length_cons, List.length_nil, h1, List.length_map, hn, hap]; done))
    all_goals first
      | (exfalso; omega)
      | omega
      | exact notAgg_fn _ _
      | exact hX.notAgg
      | exact plain_ofL (ivs_plain _)
      | (rw [app2r]; exact plain_ofL (ivs_plain _))
      | rfl
      | exact app2 _ _ _
      | (rw [ch2]; simp only [List.length_map, List.length_append, List.length_cons, List.length_nil]; omega)
      | assumption
      | (rw [h1]; exact Nat.le_refl _)
      | (rw [hap, h1]; exact Nat.le_refl _)
      | (simp only [List.length_map, List.length_nil]; omega)
      | exact plain_one _ _
      | (simp only [List.length_map]; omega)
      | (simp_all [kp]; done)
      | (simp_all; done)
      | fail

end Go.Proofs.Ytpbmlllffmkkdaa