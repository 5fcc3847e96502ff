/-
  Layer 24: how far bytes came; what may be; what is whole.
-/
import Derived.Test.YtjdemohgegldaaaT1
import Derived.Test.YtjdemohgegldaaaT2
import Derived.Test.YtjdemohgegldaaaT3
import Derived.Test.YtjdemohgegldaaaT4
import Derived.Test.YtjdemohgegldaaaT6
import Derived.Test.YtjdemohgegldaaaT7
import Derived.Test.YtjdemohgegldaaaT8
import Derived.Test.YtjdemohgegldaaaT10
import Derived.Test.YtjdemohgegldaaaT11
import Derived.Test.YtjdemohgegldaaaT13
import Derived.Test.YtjdemohgegldaaaT15
import Derived.Test.YtjdemohgegldaaaT16
import Derived.Test.YtjdemohgegldaaaT17
import Derived.Test.YtjdemohgegldaaaT18
import Derived.Test.YtjdemohgegldaaaT19
namespace Go.Proofs.Ytjdemohgegldaaa
open Go.RowKit
set_option linter.unusedSimpArgs false
set_option linter.unusedVariables false


def highF (b : Int) (ps : List Pt) : Int := if ps = [] then b else endP (ps.getD (ps.length - 1) (0, []))
theorem high_nil (b : Int) : highF b [] = b := rfl
theorem high_ne (b : Int) {ps : List Pt} {m : Nat} (h : ps.length = m + 1) : highF b ps = (ps.getD m (0, [])).1 + (ps.getD m (0, [])).2.length := by
  unfold highF
  rw [if_neg (by intro e; rw [e] at h; cases h), show ps.length - 1 = m by omega]; rfl
theorem high_bd {S : SS} (h : S.Ok) : 0 ≤ highF S.b S.ps ∧ S.b ≤ highF S.b S.ps ∧ highF S.b S.ps ≤ S.lim := by
  have hb := h.b
  unfold highF
  split
  · omega
  · rename_i hn
    have hl : S.ps.length - 1 < S.ps.length := by
      cases hp : S.ps with
      | nil => exact absurd hp hn
      | cons q t => simp
    have h1 := W_at h.w hl
    have := ne_len.1 h1.1
    simp only [endP] at h1 ⊢
    omega
def chkR (b : Int) (n : Nat) (ps : List Pt) (e : Int) : Int := if chkF b n ps ≠ 0 then chkF b n ps else if e ≠ -1 ∧ (e < highF b ps ∨ 1099511627776 < e) then 8 else 0
theorem chkR_bad {b : Int} {n : Nat} {ps : List Pt} {e : Int} (h : chkF b n ps ≠ 0) : chkR b n ps e = chkF b n ps := if_pos h
theorem chkR_ok {b : Int} {n : Nat} {ps : List Pt} {e : Int} (h : chkF b n ps = 0) : chkR b n ps e = if e ≠ -1 ∧ (e < highF b ps ∨ 1099511627776 < e) then 8 else 0 := if_neg (by omega)
theorem chkF_bd (b : Int) (n : Nat) (ps : List Pt) : 0 ≤ chkF b n ps ∧ chkF b n ps ≤ 10 := by unfold chkF; (repeat' split) <;> omega
theorem chkR_bd (b : Int) (n : Nat) (ps : List Pt) (e : Int) : 0 ≤ chkR b n ps e ∧ chkR b n ps e ≤ 10 := by
  have := chkF_bd b n ps
  unfold chkR; (repeat' split) <;> omega
def wholeF (b : Int) (n : Nat) (ps : List Pt) (e : Int) : Bool := decide (chkR b n ps e = 0) && (decide (e ≠ -1) && decide (b = e))
theorem whole_ge {b : Int} {n : Nat} {ps : List Pt} {e : Int} (h : 0 ≤ b) : (decide (chkR b n ps e = 0) && (decide (0 ≤ e) && decide (b = e))) = wholeF b n ps e := by
  unfold wholeF
  by_cases h2 : b = e
  · subst h2
    have e1 : decide (0 ≤ b) = true := by simpa using h
    have e2 : decide (b ≠ -1) = true := by simp; omega
    rw [e1, e2]
  · simp [h2]
theorem chk_b {b : Int} {n : Nat} {ps : List Pt} {e : Int} (h : chkR b n ps e = 0) : 0 ≤ b := by
  by_cases h1 : chkF b n ps = 0
  · cases hb : okS b n
    · rw [chk_no hb] at h1; cases h1
    · simp only [okS, decide_eq_true_eq] at hb; exact hb.1
  · rw [chkR_bad h1] at h; exact absurd h h1
theorem bytes_dec {l : List Int} (h : l.all (fun x => decide (0 ≤ x ∧ x < 256)) = true) : Bytes l := fun x hx => by simpa using (List.all_eq_true.1 h) x hx
theorem ok_dec {S : SS} (h : chkF S.b S.r.length S.ps = 0) : S.Ok := chk_ok.1 h
theorem allB_nil : AllB [] := fun _ h => by cases h
theorem allB_dec {l : List Pt} (h : l.all (fun p => p.2.all (fun x => decide (0 ≤ x ∧ x < 256)) && decide (p.2.length ≤ 100000)) = true) : AllB l := fun p hp => by
  have := (List.all_eq_true.1 h) p hp
  simp only [Bool.and_eq_true, decide_eq_true_eq] at this
  exact ⟨bytes_dec this.1, this.2⟩
def I64 (z : Int) : Prop := -9223372036854775808 ≤ z ∧ z ≤ 9223372036854775807

theorem vc_high (x : D) (ps : List Pt) (b : Int) (r : List Int) (e : Int) : Cond Try.prog (fun _ => none) Try.f19 [.agg [.v (.int .i64 b), str r, x, .v (.int .i64 e)]] [.v (.int .i64 (highF b ps))] = (((∃ (cs : List D), D.agg [D.v (Value.int IntKind.i64 b), str r, x, D.v (Value.int IntKind.i64 e)] = D.agg cs ∧ cs.length = 4) ∧ True) ∧ ∃ (r : D), D.lenT (TypeDesc.slice 67) x = some r ∧ ∃ (r_1 : D), D.bin BinOp.gtr r (D.v (Value.int IntKind.i64 0)) = some r_1 ∧ ∃ (b_1 : Bool), r_1 = D.v (Value.bool b_1) ∧ (b_1 = true → ∃ (r_2 : D), D.bin BinOp.sub r (D.v (Value.int IntKind.i64 1)) = some r_2 ∧ D.inb 2 x r_2 ∧ 0 + 2 ≤ (x.at_ r_2).cells.length ∧ ∃ (r : D), D.lenT TypeDesc.string ((x.at_ r_2).cell (0 + 1)) = some r ∧ ∃ (r_3 : D), D.bin BinOp.add ((x.at_ r_2).cell (0 + 0)) r = some r_3 ∧ ((∃ (y : Value), r_3 = D.v y) ∧ True) ∧ [r_3] = [D.v (Value.int IntKind.i64 (highF b ps))]) ∧ (b_1 = false → ((∃ (y : Value), D.v (Value.int IntKind.i64 b) = D.v y) ∧ True) ∧ [D.v (Value.int IntKind.i64 b)] = [D.v (Value.int IntKind.i64 (highF b ps))])) := by kernel_rfl
set_option maxHeartbeats 4000000 in
theorem high (x : D) (ps : List Pt) (b : Int) (r : List Int) (e : Int) (hX : IsL 2 (ps.map ptD) x) (ho : (SS.mk b r ps).Ok) (hP : AllB ps) : PureD Try.prog 19 [.agg [.v (.int .i64 b), str r, x, .v (.int .i64 e)]] [.v (.int .i64 (highF b ps))] := by
  refine pure_cond (Lp := (fun _ => none)) (by kernel_rfl) Try.func19 (by kernel_rfl) (by kernel_rfl) ?_
  rw [vc_high x ps b r e]
  have h1 : True := trivial
  have i1 : True := trivial
  have hmm : True := trivial
  have hlen := ho.len
  simp only at hlen
  cases hn : ps.length with
  | zero =>
    have : ps = [] := List.eq_nil_of_length_eq_zero hn
    subst this
    rw [high_nil]
    repeat' (first
      | (refine ex_some (by simp (disch := omega) only [bin_shr, bin_shl, bin_and, bin_or, bin_xor, len_str, toStr_ofL, bin_add, bin_sub, bin_mul, bin_quo, bin_rem, bin_lss, bin_leq, bin_gtr, bin_geq, bin_eql, bin_neq, eqs_cn, eqs_ci, eqs_cb, eqs_cs, Option.map_some, lenT_ofL, lst_ofL, lstSz_ofL, chunk_one, lst_nil, lst_sl, lstSz_sl, lstSz_nil, Bool.and_true, Bool.true_and, Bool.and_false, Bool.false_and, beq_self_eq_true, beq_bb, bne_bb, un_not, un_neg, conv_int, min2_int, max2_int, w64, w32, wu8, wu16, wu32, wu64, tdiv_nn, tmod_nn, cell_zero, cell_succ, cell_v, cells_v, cells_agg, Bool.not_true, Bool.not_false, Int.reduceLT, Int.reduceLE, Int.reduceEq, Int.reduceNeg, Int.reduceAdd, Int.reduceSub, Int.reduceMul, intOf_v, decide_true, decide_false, hX.lenT, List.length_map, List.length_nil]; rfl) ?_)
      | (refine ex_bool ?_)
      | (refine And.intro ?_ ?_)
      | (intro hx; have hprop := (show ∀ (p : Prop), p → True from fun _ _ => True.intro) _ hx; clear hprop; first | (cases hx; done) | (exfalso; revert hx; simp (disch := omega) only [decide_eq_true_eq, decide_eq_false_iff_not, Bool.not_eq_true', Bool.not_eq_false', Bool.and_eq_true, Bool.and_eq_false_iff, Int.not_lt, Int.not_le, ne_eq, not_false_eq_true, not_true_eq_false, reduceCtorEq, Bool.true_eq_false, Bool.false_eq_true, beq_iff_eq, bne_iff_ne, beq_eq_false_iff_ne, false_or, or_false, true_and, and_true, hX.lenT, List.length_map, List.length_nil]; done) | (simp (disch := omega) only [decide_eq_true_eq, decide_eq_false_iff_not, Bool.not_eq_true', Bool.not_eq_false', Bool.and_eq_true, Bool.and_eq_false_iff, Int.not_lt, Int.not_le, ne_eq, not_false_eq_true, not_true_eq_false, reduceCtorEq, Bool.true_eq_false, Bool.false_eq_true, beq_iff_eq, bne_iff_ne, beq_eq_false_iff_ne, false_or, or_false, true_and, and_true, hX.lenT, List.length_map, List.length_nil] at hx; first | (exfalso; omega) | skip) | skip)
      | trivial
      | exact fit_ofL _ _
      | (simp (disch := omega) only [notAgg_v, notAgg_sl, plain_v, fits, fitsOne, fitsCells, xsOf, cell_zero, cell_succ, List.range, List.range.loop, List.map, cond_true, cond_false, D.v.injEq, exists_eq', exists_eq, and_self, and_true, true_and, D.agg.injEq, List.length, exists_eq_left', D.sl.injEq, reduceCtorEq, false_or, true_or, or_true, or_false, cell_zero, cell_succ, cell_v, cells_v, cells_agg, List.length_cons, List.length_nil, hX.lenT, List.length_map, List.length_nil]; done))
    all_goals first
      | (exfalso; omega)
      | omega
      | exact hX.notAgg
      | exact fitP hX
      | exact plainP hX
      | exact notAgg_v _
      | exact ⟨_, rfl⟩
      | exact ⟨_, rfl, rfl⟩
      | rfl
      | assumption
      | (rw [h1]; show _ ≤ 2; omega)
      | (simp; done)
      | (simp [*]; done)
      | (rw [w64 (by omega) (by omega)]; done)
      | fail
  | succ m =>
    have hk1 : m < ps.length := by omega
    have h1 := pt_get hX hk1
    have i1 := pt_inb hX hk1
    have hb := pt_in hP hk1
    have hw := W_at ho.w hk1
    have hl3 : (SS.mk b r ps).lim ≤ 1099511627776 := by rw [SS.lim_o]; omega
    have hmm : ((m + 1 : Nat) : Int) - 1 = m := by omega
    rw [high_ne b hn]
    have hb0 := ho.b
    simp only at hb0
    generalize ps.getD m (0, []) = p at h1 hb hw
    obtain ⟨a, t⟩ := p
    simp only [endP] at hb hw ⊢
    simp only [ptD] at h1
    obtain ⟨_, hw1, hw2⟩ := hw
    have hw3 : a + t.length ≤ 1099511627776 := by omega
    have hw4 : 0 ≤ a := by omega
    repeat' (first
      | (refine ex_some (by simp (disch := omega) only [bin_shr, bin_shl, bin_and, bin_or, bin_xor, len_str, toStr_ofL, bin_add, bin_sub, bin_mul, bin_quo, bin_rem, bin_lss, bin_leq, bin_gtr, bin_geq, bin_eql, bin_neq, eqs_cn, eqs_ci, eqs_cb, eqs_cs, Option.map_some, lenT_ofL, lst_ofL, lstSz_ofL, chunk_one, lst_nil, lst_sl, lstSz_sl, lstSz_nil, Bool.and_true, Bool.true_and, Bool.and_false, Bool.false_and, beq_self_eq_true, beq_bb, bne_bb, un_not, un_neg, conv_int, min2_int, max2_int, w64, w32, wu8, wu16, wu32, wu64, tdiv_nn, tmod_nn, cell_zero, cell_succ, cell_v, cells_v, cells_agg, Bool.not_true, Bool.not_false, Int.reduceLT, Int.reduceLE, Int.reduceEq, Int.reduceNeg, Int.reduceAdd, Int.reduceSub, Int.reduceMul, intOf_v, decide_true, decide_false, hX.lenT, List.length_map, h1, hmm, hn]; rfl) ?_)
      | (refine ex_bool ?_)
      | (exact i1)
      | (refine And.intro ?_ ?_)
      | (intro hx; have hprop := (show ∀ (p : Prop), p → True from fun _ _ => True.intro) _ hx; clear hprop; first | (cases hx; done) | (exfalso; revert hx; simp (disch := omega) only [decide_eq_true_eq, decide_eq_false_iff_not, Bool.not_eq_true', Bool.not_eq_false', Bool.and_eq_true, Bool.and_eq_false_iff, Int.not_lt, Int.not_le, ne_eq, not_false_eq_true, not_true_eq_false, reduceCtorEq, Bool.true_eq_false, Bool.false_eq_true, beq_iff_eq, bne_iff_ne, beq_eq_false_iff_ne, false_or, or_false, true_and, and_true, hX.lenT, List.length_map, h1, hmm, hn]; done) | (simp (disch := omega) only [decide_eq_true_eq, decide_eq_false_iff_not, Bool.not_eq_true', Bool.not_eq_false', Bool.and_eq_true, Bool.and_eq_false_iff, Int.not_lt, Int.not_le, ne_eq, not_false_eq_true, not_true_eq_false, reduceCtorEq, Bool.true_eq_false, Bool.false_eq_true, beq_iff_eq, bne_iff_ne, beq_eq_false_iff_ne, false_or, or_false, true_and, and_true, hX.lenT, List.length_map, h1, hmm, hn] at hx; first | (exfalso; omega) | skip) | skip)
      | trivial
      | exact fit_ofL _ _
      | (simp (disch := omega) only [notAgg_v, notAgg_sl, plain_v, fits, fitsOne, fitsCells, xsOf, cell_zero, cell_succ, List.range, List.range.loop, List.map, cond_true, cond_false, D.v.injEq, exists_eq', exists_eq, and_self, and_true, true_and, D.agg.injEq, List.length, exists_eq_left', D.sl.injEq, reduceCtorEq, false_or, true_or, or_true, or_false, cell_zero, cell_succ, cell_v, cells_v, cells_agg, List.length_cons, List.length_nil, hX.lenT, List.length_map, h1, hmm, hn]; done))
    all_goals first
      | (exfalso; omega)
      | omega
      | exact hX.notAgg
      | exact fitP hX
      | exact plainP hX
      | exact notAgg_v _
      | exact ⟨_, rfl⟩
      | exact ⟨_, rfl, rfl⟩
      | rfl
      | assumption
      | (rw [h1]; show _ ≤ 2; omega)
      | (simp; done)
      | (simp [*]; done)
      | (rw [w64 (by omega) (by omega)]; done)
      | fail

theorem vc_rhigh (x : D) (ps : List Pt) (b : Int) (r : List Int) (e : Int) : Cond Try.prog (fun _ => none) Try.f20 [.agg [.v (.int .i64 b), str r, x, .v (.int .i64 e)]] [.v (.int .i64 (highF b ps))] = (((∃ (cs : List D), D.agg [D.v (Value.int IntKind.i64 b), str r, x, D.v (Value.int IntKind.i64 e)] = D.agg cs ∧ cs.length = 4) ∧ True) ∧ ∃ (r : D), D.lenT (TypeDesc.slice 66) x = some r ∧ ∃ (r_1 : D), D.bin BinOp.eql r (D.v (Value.int IntKind.i64 0)) = some r_1 ∧ ∃ (b_1 : Bool), r_1 = D.v (Value.bool b_1) ∧ (b_1 = true → ((∃ (y : Value), D.v (Value.int IntKind.i64 b) = D.v y) ∧ True) ∧ [D.v (Value.int IntKind.i64 b)] = [D.v (Value.int IntKind.i64 (highF b ps))]) ∧ (b_1 = false → ∃ (r_2 : D), D.bin BinOp.sub r (D.v (Value.int IntKind.i64 1)) = some r_2 ∧ D.inb 2 x r_2 ∧ 0 + 2 ≤ (x.at_ r_2).cells.length ∧ ∃ (r : D), D.lenT TypeDesc.string ((x.at_ r_2).cell (0 + 1)) = some r ∧ ∃ (r_3 : D), D.bin BinOp.add ((x.at_ r_2).cell (0 + 0)) r = some r_3 ∧ ((∃ (y : Value), r_3 = D.v y) ∧ True) ∧ [r_3] = [D.v (Value.int IntKind.i64 (highF b ps))])) := by kernel_rfl
set_option maxHeartbeats 4000000 in
theorem rhigh (x : D) (ps : List Pt) (b : Int) (r : List Int) (e : Int) (hX : IsL 2 (ps.map ptD) x) (ho : (SS.mk b r ps).Ok) (hP : AllB ps) : PureD Try.prog 20 [.agg [.v (.int .i64 b), str r, x, .v (.int .i64 e)]] [.v (.int .i64 (highF b ps))] := by
  refine pure_cond (Lp := (fun _ => none)) (by kernel_rfl) Try.func20 (by kernel_rfl) (by kernel_rfl) ?_
  rw [vc_rhigh x ps b r e]
  have h1 : True := trivial
  have i1 : True := trivial
  have hmm : True := trivial
  have hlen := ho.len
  simp only at hlen
  cases hn : ps.length with
  | zero =>
    have : ps = [] := List.eq_nil_of_length_eq_zero hn
    subst this
    rw [high_nil]
    repeat' (first
      | (refine ex_some (by simp (disch := omega) only [bin_shr, bin_shl, bin_and, bin_or, bin_xor, len_str, toStr_ofL, bin_add, bin_sub, bin_mul, bin_quo, bin_rem, bin_lss, bin_leq, bin_gtr, bin_geq, bin_eql, bin_neq, eqs_cn, eqs_ci, eqs_cb, eqs_cs, Option.map_some, lenT_ofL, lst_ofL, lstSz_ofL, chunk_one, lst_nil, lst_sl, lstSz_sl, lstSz_nil, Bool.and_true, Bool.true_and, Bool.and_false, Bool.false_and, beq_self_eq_true, beq_bb, bne_bb, un_not, un_neg, conv_int, min2_int, max2_int, w64, w32, wu8, wu16, wu32, wu64, tdiv_nn, tmod_nn, cell_zero, cell_succ, cell_v, cells_v, cells_agg, Bool.not_true, Bool.not_false, Int.reduceLT, Int.reduceLE, Int.reduceEq, Int.reduceNeg, Int.reduceAdd, Int.reduceSub, Int.reduceMul, intOf_v, decide_true, decide_false, hX.lenT, List.length_map, List.length_nil]; rfl) ?_)
      | (refine ex_bool ?_)
      | (refine And.intro ?_ ?_)
      | (intro hx; have hprop := (show ∀ (p : Prop), p → True from fun _ _ => True.intro) _ hx; clear hprop; first | (cases hx; done) | (exfalso; revert hx; simp (disch := omega) only [decide_eq_true_eq, decide_eq_false_iff_not, Bool.not_eq_true', Bool.not_eq_false', Bool.and_eq_true, Bool.and_eq_false_iff, Int.not_lt, Int.not_le, ne_eq, not_false_eq_true, not_true_eq_false, reduceCtorEq, Bool.true_eq_false, Bool.false_eq_true, beq_iff_eq, bne_iff_ne, beq_eq_false_iff_ne, false_or, or_false, true_and, and_true, hX.lenT, List.length_map, List.length_nil]; done) | (simp (disch := omega) only [decide_eq_true_eq, decide_eq_false_iff_not, Bool.not_eq_true', Bool.not_eq_false', Bool.and_eq_true, Bool.and_eq_false_iff, Int.not_lt, Int.not_le, ne_eq, not_false_eq_true, not_true_eq_false, reduceCtorEq, Bool.true_eq_false, Bool.false_eq_true, beq_iff_eq, bne_iff_ne, beq_eq_false_iff_ne, false_or, or_false, true_and, and_true, hX.lenT, List.length_map, List.length_nil] at hx; first | (exfalso; omega) | skip) | skip)
      | trivial
      | exact fit_ofL _ _
      | (simp (disch := omega) only [notAgg_v, notAgg_sl, plain_v, fits, fitsOne, fitsCells, xsOf, cell_zero, cell_succ, List.range, List.range.loop, List.map, cond_true, cond_false, D.v.injEq, exists_eq', exists_eq, and_self, and_true, true_and, D.agg.injEq, List.length, exists_eq_left', D.sl.injEq, reduceCtorEq, false_or, true_or, or_true, or_false, cell_zero, cell_succ, cell_v, cells_v, cells_agg, List.length_cons, List.length_nil, hX.lenT, List.length_map, List.length_nil]; done))
    all_goals first
      | (exfalso; omega)
      | omega
      | exact hX.notAgg
      | exact fitP hX
      | exact plainP hX
      | exact notAgg_v _
      | exact ⟨_, rfl⟩
      | exact ⟨_, rfl, rfl⟩
      | rfl
      | assumption
      | (rw [h1]; show _ ≤ 2; omega)
      | (simp; done)
      | (simp [*]; done)
      | (rw [w64 (by omega) (by omega)]; done)
      | fail
  | succ m =>
    have hk1 : m < ps.length := by omega
    have h1 := pt_get hX hk1
    have i1 := pt_inb hX hk1
    have hb := pt_in hP hk1
    have hw := W_at ho.w hk1
    have hl3 : (SS.mk b r ps).lim ≤ 1099511627776 := by rw [SS.lim_o]; omega
    have hmm : ((m + 1 : Nat) : Int) - 1 = m := by omega
    rw [high_ne b hn]
    have hb0 := ho.b
    simp only at hb0
    generalize ps.getD m (0, []) = p at h1 hb hw
    obtain ⟨a, t⟩ := p
    simp only [endP] at hb hw ⊢
    simp only [ptD] at h1
    obtain ⟨_, hw1, hw2⟩ := hw
    have hw3 : a + t.length ≤ 1099511627776 := by omega
    have hw4 : 0 ≤ a := by omega
    repeat' (first
      | (refine ex_some (by simp (disch := omega) only [bin_shr, bin_shl, bin_and, bin_or, bin_xor, len_str, toStr_ofL, bin_add, bin_sub, bin_mul, bin_quo, bin_rem, bin_lss, bin_leq, bin_gtr, bin_geq, bin_eql, bin_neq, eqs_cn, eqs_ci, eqs_cb, eqs_cs, Option.map_some, lenT_ofL, lst_ofL, lstSz_ofL, chunk_one, lst_nil, lst_sl, lstSz_sl, lstSz_nil, Bool.and_true, Bool.true_and, Bool.and_false, Bool.false_and, beq_self_eq_true, beq_bb, bne_bb, un_not, un_neg, conv_int, min2_int, max2_int, w64, w32, wu8, wu16, wu32, wu64, tdiv_nn, tmod_nn, cell_zero, cell_succ, cell_v, cells_v, cells_agg, Bool.not_true, Bool.not_false, Int.reduceLT, Int.reduceLE, Int.reduceEq, Int.reduceNeg, Int.reduceAdd, Int.reduceSub, Int.reduceMul, intOf_v, decide_true, decide_false, hX.lenT, List.length_map, h1, hmm, hn]; rfl) ?_)
      | (refine ex_bool ?_)
      | (exact i1)
      | (refine And.intro ?_ ?_)
      | (intro hx; have hprop := (show ∀ (p : Prop), p → True from fun _ _ => True.intro) _ hx; clear hprop; first | (cases hx; done) | (exfalso; revert hx; simp (disch := omega) only [decide_eq_true_eq, decide_eq_false_iff_not, Bool.not_eq_true', Bool.not_eq_false', Bool.and_eq_true, Bool.and_eq_false_iff, Int.not_lt, Int.not_le, ne_eq, not_false_eq_true, not_true_eq_false, reduceCtorEq, Bool.true_eq_false, Bool.false_eq_true, beq_iff_eq, bne_iff_ne, beq_eq_false_iff_ne, false_or, or_false, true_and, and_true, hX.lenT, List.length_map, h1, hmm, hn]; done) | (simp (disch := omega) only [decide_eq_true_eq, decide_eq_false_iff_not, Bool.not_eq_true', Bool.not_eq_false', Bool.and_eq_true, Bool.and_eq_false_iff, Int.not_lt, Int.not_le, ne_eq, not_false_eq_true, not_true_eq_false, reduceCtorEq, Bool.true_eq_false, Bool.false_eq_true, beq_iff_eq, bne_iff_ne, beq_eq_false_iff_ne, false_or, or_false, true_and, and_true, hX.lenT, List.length_map, h1, hmm, hn] at hx; first | (exfalso; omega) | skip) | skip)
      | trivial
      | exact fit_ofL _ _
      | (simp (disch := omega) only [notAgg_v, notAgg_sl, plain_v, fits, fitsOne, fitsCells, xsOf, cell_zero, cell_succ, List.range, List.range.loop, List.map, cond_true, cond_false, D.v.injEq, exists_eq', exists_eq, and_self, and_true, true_and, D.agg.injEq, List.length, exists_eq_left', D.sl.injEq, reduceCtorEq, false_or, true_or, or_true, or_false, cell_zero, cell_succ, cell_v, cells_v, cells_agg, List.length_cons, List.length_nil, hX.lenT, List.length_map, h1, hmm, hn]; done))
    all_goals first
      | (exfalso; omega)
      | omega
      | exact hX.notAgg
      | exact fitP hX
      | exact plainP hX
      | exact notAgg_v _
      | exact ⟨_, rfl⟩
      | exact ⟨_, rfl, rfl⟩
      | rfl
      | assumption
      | (rw [h1]; show _ ≤ 2; omega)
      | (simp; done)
      | (simp [*]; done)
      | (rw [w64 (by omega) (by omega)]; done)
      | fail

theorem vc_rkcheck (x : D) (ps : List Pt) (b : Int) (r : List Int) (e : Int) : Cond Try.prog (fun _ => none) Try.f13 [.agg [.v (.int .i64 b), str r, x, .v (.int .i64 e)]] [.v (.int .i64 (chkR b r.length ps e))] = (((∃ (cs : List D), D.agg [D.v (Value.int IntKind.i64 b), str r, x, D.v (Value.int IntKind.i64 e)] = D.agg cs ∧ cs.length = 4) ∧ True) ∧ ∃ (r_1 : D), PureD Try.prog 30 [D.agg [D.v (Value.int IntKind.i64 b), str r, x]] [r_1] ∧ fits [(false, [none])] [r_1] ∧ ∃ (r_2 : D), D.bin BinOp.neq r_1 (D.v (Value.int IntKind.i64 0)) = some r_2 ∧ ∃ (b_1 : Bool), r_2 = D.v (Value.bool b_1) ∧ (b_1 = true → ((∃ (y : Value), r_1 = D.v y) ∧ True) ∧ [r_1] = [D.v (Value.int IntKind.i64 (chkR b r.length ps e))]) ∧ (b_1 = false → ∃ (r_3 : D), D.bin BinOp.neq (D.v (Value.int IntKind.i64 e)) (D.v (Value.int IntKind.i64 (-1))) = some r_3 ∧ ∃ (b_2 : Bool), r_3 = D.v (Value.bool b_2) ∧ (b_2 = true → ∃ (r_4 : D), PureD Try.prog 19 [D.agg [D.v (Value.int IntKind.i64 b), str r, x, D.v (Value.int IntKind.i64 e)]] [r_4] ∧ fits [(false, [none])] [r_4] ∧ ∃ (r_5 : D), D.bin BinOp.lss (D.v (Value.int IntKind.i64 e)) r_4 = some r_5 ∧ ∃ (b_3 : Bool), r_5 = D.v (Value.bool b_3) ∧ (b_3 = false → ∃ (r_6 : D), D.bin BinOp.gtr (D.v (Value.int IntKind.i64 e)) (D.v (Value.int IntKind.i64 1099511627776)) = some r_6 ∧ ∃ (b_4 : Bool), r_6 = D.v (Value.bool b_4) ∧ (b_4 = true → (True ∧ True) ∧ [D.v (Value.int IntKind.i64 8)] = [D.v (Value.int IntKind.i64 (chkR b r.length ps e))]) ∧ (b_4 = false → (True ∧ True) ∧ [D.v (Value.int IntKind.i64 0)] = [D.v (Value.int IntKind.i64 (chkR b r.length ps e))])) ∧ (b_3 = true → (True ∧ True) ∧ [D.v (Value.int IntKind.i64 8)] = [D.v (Value.int IntKind.i64 (chkR b r.length ps e))])) ∧ (b_2 = false → (True ∧ True) ∧ [D.v (Value.int IntKind.i64 0)] = [D.v (Value.int IntKind.i64 (chkR b r.length ps e))]))) := by kernel_rfl
set_option maxHeartbeats 4000000 in
theorem rkcheck (x : D) (ps : List Pt) (b : Int) (r : List Int) (e : Int) (hX : IsL 2 (ps.map ptD) x) (hP : AllB ps) (hm : ps.length ≤ 90000) (hr : r.length ≤ 100000) : PureD Try.prog 13 [.agg [.v (.int .i64 b), str r, x, .v (.int .i64 e)]] [.v (.int .i64 (chkR b r.length ps e))] := by
  refine pure_cond (Lp := (fun _ => none)) (by kernel_rfl) Try.func13 (by kernel_rfl) (by kernel_rfl) ?_
  rw [vc_rkcheck x ps b r e]
  have CK := check x ps b r hX hP (by omega) hr
  have hbd := chkF_bd b r.length ps
  by_cases hz : chkF b r.length ps = 0
  · have ho : (SS.mk b r ps).Ok := chk_ok.1 hz
    have HI := high x ps b r e hX ho hP
    rw [chkR_ok hz]
    rw [hz] at CK
    by_cases hh : e ≠ -1 ∧ (e < highF b ps ∨ 1099511627776 < e)
    · rw [if_pos hh]
      repeat' (first
        | (refine ex_some (by simp (disch := omega) only [bin_shr, bin_shl, bin_and, bin_or, bin_xor, len_str, toStr_ofL, bin_add, bin_sub, bin_mul, bin_quo, bin_rem, bin_lss, bin_leq, bin_gtr, bin_geq, bin_eql, bin_neq, eqs_cn, eqs_ci, eqs_cb, eqs_cs, Option.map_some, lenT_ofL, lst_ofL, lstSz_ofL, chunk_one, lst_nil, lst_sl, lstSz_sl, lstSz_nil, Bool.and_true, Bool.true_and, Bool.and_false, Bool.false_and, beq_self_eq_true, beq_bb, bne_bb, un_not, un_neg, conv_int, min2_int, max2_int, w64, w32, wu8, wu16, wu32, wu64, tdiv_nn, tmod_nn, cell_zero, cell_succ, cell_v, cells_v, cells_agg, Bool.not_true, Bool.not_false, Int.reduceLT, Int.reduceLE, Int.reduceEq, Int.reduceNeg, Int.reduceAdd, Int.reduceSub, Int.reduceMul, intOf_v, decide_true, decide_false]; rfl) ?_)
        | (refine ex_bool ?_)
        | (refine ⟨_, CK, ?_⟩)
        | (refine ⟨_, HI, ?_⟩)
        | (refine And.intro ?_ ?_)
        | (intro hx; have hprop := (show ∀ (p : Prop), p → True from fun _ _ => True.intro) _ hx; clear hprop; first | (cases hx; done) | (exfalso; revert hx; simp (disch := omega) only [decide_eq_true_eq, decide_eq_false_iff_not, Bool.not_eq_true', Bool.not_eq_false', Bool.and_eq_true, Bool.and_eq_false_iff, Int.not_lt, Int.not_le, ne_eq, not_false_eq_true, not_true_eq_false, reduceCtorEq, Bool.true_eq_false, Bool.false_eq_true, beq_iff_eq, bne_iff_ne, beq_eq_false_iff_ne, false_or, or_false, true_and, and_true]; done) | (simp (disch := omega) only [decide_eq_true_eq, decide_eq_false_iff_not, Bool.not_eq_true', Bool.not_eq_false', Bool.and_eq_true, Bool.and_eq_false_iff, Int.not_lt, Int.not_le, ne_eq, not_false_eq_true, not_true_eq_false, reduceCtorEq, Bool.true_eq_false, Bool.false_eq_true, beq_iff_eq, bne_iff_ne, beq_eq_false_iff_ne, false_or, or_false, true_and, and_true] at hx; first | (exfalso; omega) | skip) | skip)
        | trivial
        | exact fit_ofL _ _
        | (simp (disch := omega) only [notAgg_v, notAgg_sl, plain_v, fits, fitsOne, fitsCells, xsOf, cell_zero, cell_succ, List.range, List.range.loop, List.map, cond_true, cond_false, D.v.injEq, exists_eq', exists_eq, and_self, and_true, true_and, D.agg.injEq, List.length, exists_eq_left', D.sl.injEq, reduceCtorEq, false_or, true_or, or_true, or_false, cell_zero, cell_succ, cell_v, cells_v, cells_agg, List.length_cons, List.length_nil]; done))
      all_goals first
        | (exfalso; omega)
        | omega
        | exact hX.notAgg
        | exact fitP hX
        | exact plainP hX
        | exact notAgg_v _
        | exact ⟨_, rfl⟩
        | exact ⟨_, rfl, rfl⟩
        | rfl
        | assumption
        | (rw [h1]; show _ ≤ 2; omega)
        | (simp; done)
        | (simp [*]; done)
        | (rw [w64 (by omega) (by omega)]; done)
        | fail
    · rw [if_neg hh]
      repeat' (first
        | (refine ex_some (by simp (disch := omega) only [bin_shr, bin_shl, bin_and, bin_or, bin_xor, len_str, toStr_ofL, bin_add, bin_sub, bin_mul, bin_quo, bin_rem, bin_lss, bin_leq, bin_gtr, bin_geq, bin_eql, bin_neq, eqs_cn, eqs_ci, eqs_cb, eqs_cs, Option.map_some, lenT_ofL, lst_ofL, lstSz_ofL, chunk_one, lst_nil, lst_sl, lstSz_sl, lstSz_nil, Bool.and_true, Bool.true_and, Bool.and_false, Bool.false_and, beq_self_eq_true, beq_bb, bne_bb, un_not, un_neg, conv_int, min2_int, max2_int, w64, w32, wu8, wu16, wu32, wu64, tdiv_nn, tmod_nn, cell_zero, cell_succ, cell_v, cells_v, cells_agg, Bool.not_true, Bool.not_false, Int.reduceLT, Int.reduceLE, Int.reduceEq, Int.reduceNeg, Int.reduceAdd, Int.reduceSub, Int.reduceMul, intOf_v, decide_true, decide_false]; rfl) ?_)
        | (refine ex_bool ?_)
        | (refine ⟨_, CK, ?_⟩)
        | (refine ⟨_, HI, ?_⟩)
        | (refine And.intro ?_ ?_)
        | (intro hx; have hprop := (show ∀ (p : Prop), p → True from fun _ _ => True.intro) _ hx; clear hprop; first | (cases hx; done) | (exfalso; revert hx; simp (disch := omega) only [decide_eq_true_eq, decide_eq_false_iff_not, Bool.not_eq_true', Bool.not_eq_false', Bool.and_eq_true, Bool.and_eq_false_iff, Int.not_lt, Int.not_le, ne_eq, not_false_eq_true, not_true_eq_false, reduceCtorEq, Bool.true_eq_false, Bool.false_eq_true, beq_iff_eq, bne_iff_ne, beq_eq_false_iff_ne, false_or, or_false, true_and, and_true]; done) | (simp (disch := omega) only [decide_eq_true_eq, decide_eq_false_iff_not, Bool.not_eq_true', Bool.not_eq_false', Bool.and_eq_true, Bool.and_eq_false_iff, Int.not_lt, Int.not_le, ne_eq, not_false_eq_true, not_true_eq_false, reduceCtorEq, Bool.true_eq_false, Bool.false_eq_true, beq_iff_eq, bne_iff_ne, beq_eq_false_iff_ne, false_or, or_false, true_and, and_true] at hx; first | (exfalso; omega) | skip) | skip)
        | trivial
        | exact fit_ofL _ _
        | (simp (disch := omega) only [notAgg_v, notAgg_sl, plain_v, fits, fitsOne, fitsCells, xsOf, cell_zero, cell_succ, List.range, List.range.loop, List.map, cond_true, cond_false, D.v.injEq, exists_eq', exists_eq, and_self, and_true, true_and, D.agg.injEq, List.length, exists_eq_left', D.sl.injEq, reduceCtorEq, false_or, true_or, or_true, or_false, cell_zero, cell_succ, cell_v, cells_v, cells_agg, List.length_cons, List.length_nil]; done))
      all_goals first
        | (exfalso; omega)
        | omega
        | exact hX.notAgg
        | exact fitP hX
        | exact plainP hX
        | exact notAgg_v _
        | exact ⟨_, rfl⟩
        | exact ⟨_, rfl, rfl⟩
        | rfl
        | assumption
        | (rw [h1]; show _ ≤ 2; omega)
        | (simp; done)
        | (simp [*]; done)
        | (rw [w64 (by omega) (by omega)]; done)
        | fail
  · have HI : True := trivial
    rw [chkR_bad hz]
    generalize chkF b r.length ps = ck at *
    repeat' (first
      | (refine ex_some (by simp (disch := omega) only [bin_shr, bin_shl, bin_and, bin_or, bin_xor, len_str, toStr_ofL, bin_add, bin_sub, bin_mul, bin_quo, bin_rem, bin_lss, bin_leq, bin_gtr, bin_geq, bin_eql, bin_neq, eqs_cn, eqs_ci, eqs_cb, eqs_cs, Option.map_some, lenT_ofL, lst_ofL, lstSz_ofL, chunk_one, lst_nil, lst_sl, lstSz_sl, lstSz_nil, Bool.and_true, Bool.true_and, Bool.and_false, Bool.false_and, beq_self_eq_true, beq_bb, bne_bb, un_not, un_neg, conv_int, min2_int, max2_int, w64, w32, wu8, wu16, wu32, wu64, tdiv_nn, tmod_nn, cell_zero, cell_succ, cell_v, cells_v, cells_agg, Bool.not_true, Bool.not_false, Int.reduceLT, Int.reduceLE, Int.reduceEq, Int.reduceNeg, Int.reduceAdd, Int.reduceSub, Int.reduceMul, intOf_v, decide_true, decide_false]; rfl) ?_)
      | (refine ex_bool ?_)
      | (refine ⟨_, CK, ?_⟩)
      | (refine And.intro ?_ ?_)
      | (intro hx; have hprop := (show ∀ (p : Prop), p → True from fun _ _ => True.intro) _ hx; clear hprop; first | (cases hx; done) | (exfalso; revert hx; simp (disch := omega) only [decide_eq_true_eq, decide_eq_false_iff_not, Bool.not_eq_true', Bool.not_eq_false', Bool.and_eq_true, Bool.and_eq_false_iff, Int.not_lt, Int.not_le, ne_eq, not_false_eq_true, not_true_eq_false, reduceCtorEq, Bool.true_eq_false, Bool.false_eq_true, beq_iff_eq, bne_iff_ne, beq_eq_false_iff_ne, false_or, or_false, true_and, and_true]; done) | (simp (disch := omega) only [decide_eq_true_eq, decide_eq_false_iff_not, Bool.not_eq_true', Bool.not_eq_false', Bool.and_eq_true, Bool.and_eq_false_iff, Int.not_lt, Int.not_le, ne_eq, not_false_eq_true, not_true_eq_false, reduceCtorEq, Bool.true_eq_false, Bool.false_eq_true, beq_iff_eq, bne_iff_ne, beq_eq_false_iff_ne, false_or, or_false, true_and, and_true] at hx; first | (exfalso; omega) | skip) | skip)
      | trivial
      | exact fit_ofL _ _
      | (simp (disch := omega) only [notAgg_v, notAgg_sl, plain_v, fits, fitsOne, fitsCells, xsOf, cell_zero, cell_succ, List.range, List.range.loop, List.map, cond_true, cond_false, D.v.injEq, exists_eq', exists_eq, and_self, and_true, true_and, D.agg.injEq, List.length, exists_eq_left', D.sl.injEq, reduceCtorEq, false_or, true_or, or_true, or_false, cell_zero, cell_succ, cell_v, cells_v, cells_agg, List.length_cons, List.length_nil]; done))
    all_goals first
      | (exfalso; omega)
      | omega
      | exact hX.notAgg
      | exact fitP hX
      | exact plainP hX
      | exact notAgg_v _
      | exact ⟨_, rfl⟩
      | exact ⟨_, rfl, rfl⟩
      | rfl
      | assumption
      | (rw [h1]; show _ ≤ 2; omega)
      | (simp; done)
      | (simp [*]; done)
      | (rw [w64 (by omega) (by omega)]; done)
      | fail

theorem vc_rkrcheck (x : D) (ps : List Pt) (b : Int) (r : List Int) (e : Int) : Cond Try.prog (fun _ => none) Try.f14 [.agg [.v (.int .i64 b), str r, x, .v (.int .i64 e)]] [.v (.int .i64 (chkR b r.length ps e))] = (((∃ (cs : List D), D.agg [D.v (Value.int IntKind.i64 b), str r, x, D.v (Value.int IntKind.i64 e)] = D.agg cs ∧ cs.length = 4) ∧ True) ∧ ∃ (r_1 : D), PureD Try.prog 31 [D.agg [D.v (Value.int IntKind.i64 b), str r, x]] [r_1] ∧ fits [(false, [none])] [r_1] ∧ ∃ (r_2 : D), D.bin BinOp.neq r_1 (D.v (Value.int IntKind.i64 0)) = some r_2 ∧ ∃ (b_1 : Bool), r_2 = D.v (Value.bool b_1) ∧ (b_1 = true → ((∃ (y : Value), r_1 = D.v y) ∧ True) ∧ [r_1] = [D.v (Value.int IntKind.i64 (chkR b r.length ps e))]) ∧ (b_1 = false → ∃ (r_3 : D), D.bin BinOp.neq (D.v (Value.int IntKind.i64 e)) (D.v (Value.int IntKind.i64 (-1))) = some r_3 ∧ ∃ (b_2 : Bool), r_3 = D.v (Value.bool b_2) ∧ (b_2 = true → ∃ (r_4 : D), PureD Try.prog 20 [D.agg [D.v (Value.int IntKind.i64 b), str r, x, D.v (Value.int IntKind.i64 e)]] [r_4] ∧ fits [(false, [none])] [r_4] ∧ ∃ (r_5 : D), D.bin BinOp.lss (D.v (Value.int IntKind.i64 e)) r_4 = some r_5 ∧ ∃ (b_3 : Bool), r_5 = D.v (Value.bool b_3) ∧ (b_3 = false → ∃ (r_6 : D), D.bin BinOp.gtr (D.v (Value.int IntKind.i64 e)) (D.v (Value.int IntKind.i64 1099511627776)) = some r_6 ∧ ∃ (b_4 : Bool), r_6 = D.v (Value.bool b_4) ∧ (b_4 = true → (True ∧ True) ∧ [D.v (Value.int IntKind.i64 8)] = [D.v (Value.int IntKind.i64 (chkR b r.length ps e))]) ∧ (b_4 = false → (True ∧ True) ∧ [D.v (Value.int IntKind.i64 0)] = [D.v (Value.int IntKind.i64 (chkR b r.length ps e))])) ∧ (b_3 = true → (True ∧ True) ∧ [D.v (Value.int IntKind.i64 8)] = [D.v (Value.int IntKind.i64 (chkR b r.length ps e))])) ∧ (b_2 = false → (True ∧ True) ∧ [D.v (Value.int IntKind.i64 0)] = [D.v (Value.int IntKind.i64 (chkR b r.length ps e))]))) := by kernel_rfl
set_option maxHeartbeats 4000000 in
theorem rkrcheck (x : D) (ps : List Pt) (b : Int) (r : List Int) (e : Int) (hX : IsL 2 (ps.map ptD) x) (hP : AllB ps) (hm : ps.length ≤ 90000) (hr : r.length ≤ 100000) : PureD Try.prog 14 [.agg [.v (.int .i64 b), str r, x, .v (.int .i64 e)]] [.v (.int .i64 (chkR b r.length ps e))] := by
  refine pure_cond (Lp := (fun _ => none)) (by kernel_rfl) Try.func14 (by kernel_rfl) (by kernel_rfl) ?_
  rw [vc_rkrcheck x ps b r e]
  have CK := rcheck x ps b r hX hP (by omega) hr
  have hbd := chkF_bd b r.length ps
  by_cases hz : chkF b r.length ps = 0
  · have ho : (SS.mk b r ps).Ok := chk_ok.1 hz
    have HI := rhigh x ps b r e hX ho hP
    rw [chkR_ok hz]
    rw [hz] at CK
    by_cases hh : e ≠ -1 ∧ (e < highF b ps ∨ 1099511627776 < e)
    · rw [if_pos hh]
      repeat' (first
        | (refine ex_some (by simp (disch := omega) only [bin_shr, bin_shl, bin_and, bin_or, bin_xor, len_str, toStr_ofL, bin_add, bin_sub, bin_mul, bin_quo, bin_rem, bin_lss, bin_leq, bin_gtr, bin_geq, bin_eql, bin_neq, eqs_cn, eqs_ci, eqs_cb, eqs_cs, Option.map_some, lenT_ofL, lst_ofL, lstSz_ofL, chunk_one, lst_nil, lst_sl, lstSz_sl, lstSz_nil, Bool.and_true, Bool.true_and, Bool.and_false, Bool.false_and, beq_self_eq_true, beq_bb, bne_bb, un_not, un_neg, conv_int, min2_int, max2_int, w64, w32, wu8, wu16, wu32, wu64, tdiv_nn, tmod_nn, cell_zero, cell_succ, cell_v, cells_v, cells_agg, Bool.not_true, Bool.not_false, Int.reduceLT, Int.reduceLE, Int.reduceEq, Int.reduceNeg, Int.reduceAdd, Int.reduceSub, Int.reduceMul, intOf_v, decide_true, decide_false]; rfl) ?_)
        | (refine ex_bool ?_)
        | (refine ⟨_, CK, ?_⟩)
        | (refine ⟨_, HI, ?_⟩)
        | (refine And.intro ?_ ?_)
        | (intro hx; have hprop := (show ∀ (p : Prop), p → True from fun _ _ => True.intro) _ hx; clear hprop; first | (cases hx; done) | (exfalso; revert hx; simp (disch := omega) only [decide_eq_true_eq, decide_eq_false_iff_not, Bool.not_eq_true', Bool.not_eq_false', Bool.and_eq_true, Bool.and_eq_false_iff, Int.not_lt, Int.not_le, ne_eq, not_false_eq_true, not_true_eq_false, reduceCtorEq, Bool.true_eq_false, Bool.false_eq_true, beq_iff_eq, bne_iff_ne, beq_eq_false_iff_ne, false_or, or_false, true_and, and_true]; done) | (simp (disch := omega) only [decide_eq_true_eq, decide_eq_false_iff_not, Bool.not_eq_true', Bool.not_eq_false', Bool.and_eq_true, Bool.and_eq_false_iff, Int.not_lt, Int.not_le, ne_eq, not_false_eq_true, not_true_eq_false, reduceCtorEq, Bool.true_eq_false, Bool.false_eq_true, beq_iff_eq, bne_iff_ne, beq_eq_false_iff_ne, false_or, or_false, true_and, and_true] at hx; first | (exfalso; omega) | skip) | skip)
        | trivial
        | exact fit_ofL _ _
        | (simp (disch := omega) only [notAgg_v, notAgg_sl, plain_v, fits, fitsOne, fitsCells, xsOf, cell_zero, cell_succ, List.range, List.range.loop, List.map, cond_true, cond_false, D.v.injEq, exists_eq', exists_eq, and_self, and_true, true_and, D.agg.injEq, List.length, exists_eq_left', D.sl.injEq, reduceCtorEq, false_or, true_or, or_true, or_false, cell_zero, cell_succ, cell_v, cells_v, cells_agg, List.length_cons, List.length_nil]; done))
      all_goals first
        | (exfalso; omega)
        | omega
        | exact hX.notAgg
        | exact fitP hX
        | exact plainP hX
        | exact notAgg_v _
        | exact ⟨_, rfl⟩
        | exact ⟨_, rfl, rfl⟩
        | rfl
        | assumption
        | (rw [h1]; show _ ≤ 2; omega)
        | (simp; done)
        | (simp [*]; done)
        | (rw [w64 (by omega) (by omega)]; done)
        | fail
    · rw [if_neg hh]
      repeat' (first
        | (refine ex_some (by simp (disch := omega) only [bin_shr, bin_shl, bin_and, bin_or, bin_xor, len_str, toStr_ofL, bin_add, bin_sub, bin_mul, bin_quo, bin_rem, bin_lss, bin_leq, bin_gtr, bin_geq, bin_eql, bin_neq, eqs_cn, eqs_ci, eqs_cb, eqs_cs, Option.map_some, lenT_ofL, lst_ofL, lstSz_ofL, chunk_one, lst_nil, lst_sl, lstSz_sl, lstSz_nil, Bool.and_true, Bool.true_and, Bool.and_false, Bool.false_and, beq_self_eq_true, beq_bb, bne_bb, un_not, un_neg, conv_int, min2_int, max2_int, w64, w32, wu8, wu16, wu32, wu64, tdiv_nn, tmod_nn, cell_zero, cell_succ, cell_v, cells_v, cells_agg, Bool.not_true, Bool.not_false, Int.reduceLT, Int.reduceLE, Int.reduceEq, Int.reduceNeg, Int.reduceAdd, Int.reduceSub, Int.reduceMul, intOf_v, decide_true, decide_false]; rfl) ?_)
        | (refine ex_bool ?_)
        | (refine ⟨_, CK, ?_⟩)
        | (refine ⟨_, HI, ?_⟩)
        | (refine And.intro ?_ ?_)
        | (intro hx; have hprop := (show ∀ (p : Prop), p → True from fun _ _ => True.intro) _ hx; clear hprop; first | (cases hx; done) | (exfalso; revert hx; simp (disch := omega) only [decide_eq_true_eq, decide_eq_false_iff_not, Bool.not_eq_true', Bool.not_eq_false', Bool.and_eq_true, Bool.and_eq_false_iff, Int.not_lt, Int.not_le, ne_eq, not_false_eq_true, not_true_eq_false, reduceCtorEq, Bool.true_eq_false, Bool.false_eq_true, beq_iff_eq, bne_iff_ne, beq_eq_false_iff_ne, false_or, or_false, true_and, and_true]; done) | (simp (disch := omega) only [decide_eq_true_eq, decide_eq_false_iff_not, Bool.not_eq_true', Bool.not_eq_false', Bool.and_eq_true, Bool.and_eq_false_iff, Int.not_lt, Int.not_le, ne_eq, not_false_eq_true, not_true_eq_false, reduceCtorEq, Bool.true_eq_false, Bool.false_eq_true, beq_iff_eq, bne_iff_ne, beq_eq_false_iff_ne, false_or, or_false, true_and, and_true] at hx; first | (exfalso; omega) | skip) | skip)
        | trivial
        | exact fit_ofL _ _
        | (simp (disch := omega) only [notAgg_v, notAgg_sl, plain_v, fits, fitsOne, fitsCells, xsOf, cell_zero, cell_succ, List.range, List.range.loop, List.map, cond_true, cond_false, D.v.injEq, exists_eq', exists_eq, and_self, and_true, true_and, D.agg.injEq, List.length, exists_eq_left', D.sl.injEq, reduceCtorEq, false_or, true_or, or_true, or_false, cell_zero, cell_succ, cell_v, cells_v, cells_agg, List.length_cons, List.length_nil]; done))
      all_goals first
        | (exfalso; omega)
        | omega
        | exact hX.notAgg
        | exact fitP hX
        | exact plainP hX
        | exact notAgg_v _
        | exact ⟨_, rfl⟩
        | exact ⟨_, rfl, rfl⟩
        | rfl
        | assumption
        | (rw [h1]; show _ ≤ 2; omega)
        | (simp; done)
        | (simp [*]; done)
        | (rw [w64 (by omega) (by omega)]; done)
        | fail
  · have HI : True := trivial
    rw [chkR_bad hz]
    generalize chkF b r.length ps = ck at *
    repeat' (first
      | (refine ex_some (by simp (disch := omega) only [bin_shr, bin_shl, bin_and, bin_or, bin_xor, len_str, toStr_ofL, bin_add, bin_sub, bin_mul, bin_quo, bin_rem, bin_lss, bin_leq, bin_gtr, bin_geq, bin_eql, bin_neq, eqs_cn, eqs_ci, eqs_cb, eqs_cs, Option.map_some, lenT_ofL, lst_ofL, lstSz_ofL, chunk_one, lst_nil, lst_sl, lstSz_sl, lstSz_nil, Bool.and_true, Bool.true_and, Bool.and_false, Bool.false_and, beq_self_eq_true, beq_bb, bne_bb, un_not, un_neg, conv_int, min2_int, max2_int, w64, w32, wu8, wu16, wu32, wu64, tdiv_nn, tmod_nn, cell_zero, cell_succ, cell_v, cells_v, cells_agg, Bool.not_true, Bool.not_false, Int.reduceLT, Int.reduceLE, Int.reduceEq, Int.reduceNeg, Int.reduceAdd, Int.reduceSub, Int.reduceMul, intOf_v, decide_true, decide_false]; rfl) ?_)
      | (refine ex_bool ?_)
      | (refine ⟨_, CK, ?_⟩)
      | (refine And.intro ?_ ?_)
      | (intro hx; have hprop := (show ∀ (p : Prop), p → True from fun _ _ => True.intro) _ hx; clear hprop; first | (cases hx; done) | (exfalso; revert hx; simp (disch := omega) only [decide_eq_true_eq, decide_eq_false_iff_not, Bool.not_eq_true', Bool.not_eq_false', Bool.and_eq_true, Bool.and_eq_false_iff, Int.not_lt, Int.not_le, ne_eq, not_false_eq_true, not_true_eq_false, reduceCtorEq, Bool.true_eq_false, Bool.false_eq_true, beq_iff_eq, bne_iff_ne, beq_eq_false_iff_ne, false_or, or_false, true_and, and_true]; done) | (simp (disch := omega) only [decide_eq_true_eq, decide_eq_false_iff_not, Bool.not_eq_true', Bool.not_eq_false', Bool.and_eq_true, Bool.and_eq_false_iff, Int.not_lt, Int.not_le, ne_eq, not_false_eq_true, not_true_eq_false, reduceCtorEq, Bool.true_eq_false, Bool.false_eq_true, beq_iff_eq, bne_iff_ne, beq_eq_false_iff_ne, false_or, or_false, true_and, and_true] at hx; first | (exfalso; omega) | skip) | skip)
      | trivial
      | exact fit_ofL _ _
      | (simp (disch := omega) only [notAgg_v, notAgg_sl, plain_v, fits, fitsOne, fitsCells, xsOf, cell_zero, cell_succ, List.range, List.range.loop, List.map, cond_true, cond_false, D.v.injEq, exists_eq', exists_eq, and_self, and_true, true_and, D.agg.injEq, List.length, exists_eq_left', D.sl.injEq, reduceCtorEq, false_or, true_or, or_true, or_false, cell_zero, cell_succ, cell_v, cells_v, cells_agg, List.length_cons, List.length_nil]; done))
    all_goals first
      | (exfalso; omega)
      | omega
      | exact hX.notAgg
      | exact fitP hX
      | exact plainP hX
      | exact notAgg_v _
      | exact ⟨_, rfl⟩
      | exact ⟨_, rfl, rfl⟩
      | rfl
      | assumption
      | (rw [h1]; show _ ≤ 2; omega)
      | (simp; done)
      | (simp [*]; done)
      | (rw [w64 (by omega) (by omega)]; done)
      | fail

theorem vc_spanw (b e : Int) : Cond Try.prog (fun _ => none) Try.f33 [.agg [.v (.int .i64 b), .v (.int .i64 e)]] [.v (.bool (decide (e ≠ -1) && decide (b = e)))] = (((∃ (cs : List D), D.agg [D.v (Value.int IntKind.i64 b), D.v (Value.int IntKind.i64 e)] = D.agg cs ∧ cs.length = 2) ∧ True) ∧ ∃ (r : D), D.bin BinOp.neq (D.v (Value.int IntKind.i64 e)) (D.v (Value.int IntKind.i64 (-1))) = some r ∧ ∃ (b_1 : Bool), r = D.v (Value.bool b_1) ∧ (b_1 = true → ∃ (r : D), D.bin BinOp.eql (D.v (Value.int IntKind.i64 b)) (D.v (Value.int IntKind.i64 e)) = some r ∧ ((∃ (y : Value), r = D.v y) ∧ True) ∧ [r] = [D.v (Value.bool (match decide (e ≠ -1) with | false => false | true => decide (b = e)))]) ∧ (b_1 = false → (True ∧ True) ∧ [D.v (Value.bool false)] = [D.v (Value.bool (match decide (e ≠ -1) with | false => false | true => decide (b = e)))])) := by kernel_rfl
theorem spanw (b e : Int)  : PureD Try.prog 33 [.agg [.v (.int .i64 b), .v (.int .i64 e)]] [.v (.bool (decide (e ≠ -1) && decide (b = e)))] := by
  refine pure_cond (Lp := (fun _ => none)) (by kernel_rfl) Try.func33 (by kernel_rfl) (by kernel_rfl) ?_
  rw [vc_spanw b e]
  by_cases h1 : e = -1 <;> by_cases h2 : b = e
  all_goals simp only [h1, h2, ne_eq, not_true_eq_false, not_false_eq_true, decide_true, decide_false, Bool.false_and, Bool.true_and, Bool.and_false]
  repeat' (first
    | (refine ex_some (by simp (disch := omega) only [bin_shr, bin_shl, bin_and, bin_or, bin_xor, len_str, toStr_ofL, bin_add, bin_sub, bin_mul, bin_quo, bin_rem, bin_lss, bin_leq, bin_gtr, bin_geq, bin_eql, bin_neq, eqs_cn, eqs_ci, eqs_cb, eqs_cs, Option.map_some, lenT_ofL, lst_ofL, lstSz_ofL, chunk_one, lst_nil, lst_sl, lstSz_sl, lstSz_nil, Bool.and_true, Bool.true_and, Bool.and_false, Bool.false_and, beq_self_eq_true, beq_bb, bne_bb, un_not, un_neg, conv_int, min2_int, max2_int, w64, w32, wu8, wu16, wu32, wu64, tdiv_nn, tmod_nn, cell_zero, cell_succ, cell_v, cells_v, cells_agg, Bool.not_true, Bool.not_false, Int.reduceLT, Int.reduceLE, Int.reduceEq, Int.reduceNeg, Int.reduceAdd, Int.reduceSub, Int.reduceMul, intOf_v, decide_true, decide_false]; rfl) ?_)
    | (refine ex_bool ?_)
    | (refine And.intro ?_ ?_)
    | (intro hx; have hprop := (show ∀ (p : Prop), p → True from fun _ _ => True.intro) _ hx; clear hprop; first | (cases hx; done) | (exfalso; revert hx; simp (disch := omega) only [decide_eq_true_eq, decide_eq_false_iff_not, Bool.not_eq_true', Bool.not_eq_false', Bool.and_eq_true, Bool.and_eq_false_iff, Int.not_lt, Int.not_le, ne_eq, not_false_eq_true, not_true_eq_false, reduceCtorEq, Bool.true_eq_false, Bool.false_eq_true, beq_iff_eq, bne_iff_ne, beq_eq_false_iff_ne, false_or, or_false, true_and, and_true]; done) | (simp (disch := omega) only [decide_eq_true_eq, decide_eq_false_iff_not, Bool.not_eq_true', Bool.not_eq_false', Bool.and_eq_true, Bool.and_eq_false_iff, Int.not_lt, Int.not_le, ne_eq, not_false_eq_true, not_true_eq_false, reduceCtorEq, Bool.true_eq_false, Bool.false_eq_true, beq_iff_eq, bne_iff_ne, beq_eq_false_iff_ne, false_or, or_false, true_and, and_true] at hx; first | (exfalso; omega) | skip) | skip)
    | trivial
    | exact fit_ofL _ _
    | (simp (disch := omega) only [notAgg_v, notAgg_sl, plain_v, fits, fitsOne, fitsCells, xsOf, cell_zero, cell_succ, List.range, List.range.loop, List.map, cond_true, cond_false, D.v.injEq, exists_eq', exists_eq, and_self, and_true, true_and, D.agg.injEq, List.length, exists_eq_left', D.sl.injEq, reduceCtorEq, false_or, true_or, or_true, or_false, cell_zero, cell_succ, cell_v, cells_v, cells_agg, List.length_cons, List.length_nil]; done))
  all_goals first
    | (exfalso; omega)
    | omega
    | exact notAgg_v _
    | exact ⟨_, rfl⟩
    | exact ⟨_, rfl, rfl⟩
    | rfl
    | assumption
    | (simp; done)
    | (simp [*]; done)
    | (rw [w64 (by omega) (by omega)]; done)
    | fail

theorem vc_seen (x : D) (ps : List Pt) (b : Int) (r : List Int) (e : Int) : Cond Try.prog (fun _ => none) Try.f32 [.agg [.v (.int .i64 b), str r, x, .v (.int .i64 e)]] [.agg [.v (.int .i64 b), .v (.int .i64 e), .v (.bool (decide (chkR b r.length ps e = 0)))]] = (((∃ (cs : List D), D.agg [D.v (Value.int IntKind.i64 b), str r, x, D.v (Value.int IntKind.i64 e)] = D.agg cs ∧ cs.length = 4) ∧ True) ∧ ∃ (r_1 : D), PureD Try.prog 13 [D.agg [D.v (Value.int IntKind.i64 b), str r, x, D.v (Value.int IntKind.i64 e)]] [r_1] ∧ fits [(false, [none])] [r_1] ∧ ∃ (r_2 : D), D.bin BinOp.eql r_1 (D.v (Value.int IntKind.i64 0)) = some r_2 ∧ ((∃ (y : Value), D.v (Value.int IntKind.i64 b) = D.v y) ∧ (∃ (y : Value), D.v (Value.int IntKind.i64 e) = D.v y) ∧ (∃ (y : Value), r_2 = D.v y) ∧ True) ∧ [D.agg [D.v (Value.int IntKind.i64 b), D.v (Value.int IntKind.i64 e), r_2]] = [D.agg [D.v (Value.int IntKind.i64 b), D.v (Value.int IntKind.i64 e), D.v (Value.bool (Decidable.rec (fun (h : ¬chkR b r.length ps e = 0) ↦ (fun (x : ¬chkR b r.length ps e = 0) ↦ false) h) (fun (h : chkR b r.length ps e = 0) ↦ (fun (x : chkR b r.length ps e = 0) ↦ true) h) ((chkR b r.length ps e).instDecidableEq 0)))]]) := by kernel_rfl
theorem seen (x : D) (ps : List Pt) (b : Int) (r : List Int) (e : Int) (hX : IsL 2 (ps.map ptD) x) (hP : AllB ps) (hm : ps.length ≤ 90000) (hr : r.length ≤ 100000) : PureD Try.prog 32 [.agg [.v (.int .i64 b), str r, x, .v (.int .i64 e)]] [.agg [.v (.int .i64 b), .v (.int .i64 e), .v (.bool (decide (chkR b r.length ps e = 0)))]] := by
  refine pure_cond (Lp := (fun _ => none)) (by kernel_rfl) Try.func32 (by kernel_rfl) (by kernel_rfl) ?_
  rw [vc_seen x ps b r e]
  have CK := rkcheck x ps b r e hX hP hm hr
  have hbd := chkR_bd b r.length ps e
  repeat' (first
    | (refine ex_some (by simp (disch := omega) only [bin_shr, bin_shl, bin_and, bin_or, bin_xor, len_str, toStr_ofL, bin_add, bin_sub, bin_mul, bin_quo, bin_rem, bin_lss, bin_leq, bin_gtr, bin_geq, bin_eql, bin_neq, eqs_cn, eqs_ci, eqs_cb, eqs_cs, Option.map_some, lenT_ofL, lst_ofL, lstSz_ofL, chunk_one, lst_nil, lst_sl, lstSz_sl, lstSz_nil, Bool.and_true, Bool.true_and, Bool.and_false, Bool.false_and, beq_self_eq_true, beq_bb, bne_bb, un_not, un_neg, conv_int, min2_int, max2_int, w64, w32, wu8, wu16, wu32, wu64, tdiv_nn, tmod_nn, cell_zero, cell_succ, cell_v, cells_v, cells_agg, Bool.not_true, Bool.not_false, Int.reduceLT, Int.reduceLE, Int.reduceEq, Int.reduceNeg, Int.reduceAdd, Int.reduceSub, Int.reduceMul, intOf_v, decide_true, decide_false]; rfl) ?_)
    | (refine ex_bool ?_)
    | (refine ⟨_, CK, ?_⟩)
    | (refine And.intro ?_ ?_)
    | (intro hx; have hprop := (show ∀ (p : Prop), p → True from fun _ _ => True.intro) _ hx; clear hprop; first | (cases hx; done) | (exfalso; revert hx; simp (disch := omega) only [decide_eq_true_eq, decide_eq_false_iff_not, Bool.not_eq_true', Bool.not_eq_false', Bool.and_eq_true, Bool.and_eq_false_iff, Int.not_lt, Int.not_le, ne_eq, not_false_eq_true, not_true_eq_false, reduceCtorEq, Bool.true_eq_false, Bool.false_eq_true, beq_iff_eq, bne_iff_ne, beq_eq_false_iff_ne, false_or, or_false, true_and, and_true]; done) | (simp (disch := omega) only [decide_eq_true_eq, decide_eq_false_iff_not, Bool.not_eq_true', Bool.not_eq_false', Bool.and_eq_true, Bool.and_eq_false_iff, Int.not_lt, Int.not_le, ne_eq, not_false_eq_true, not_true_eq_false, reduceCtorEq, Bool.true_eq_false, Bool.false_eq_true, beq_iff_eq, bne_iff_ne, beq_eq_false_iff_ne, false_or, or_false, true_and, and_true] at hx; first | (exfalso; omega) | skip) | skip)
    | trivial
    | exact fit_ofL _ _
    | (simp (disch := omega) only [notAgg_v, notAgg_sl, plain_v, fits, fitsOne, fitsCells, xsOf, cell_zero, cell_succ, List.range, List.range.loop, List.map, cond_true, cond_false, D.v.injEq, exists_eq', exists_eq, and_self, and_true, true_and, D.agg.injEq, List.length, exists_eq_left', D.sl.injEq, reduceCtorEq, false_or, true_or, or_true, or_false, cell_zero, cell_succ, cell_v, cells_v, cells_agg, List.length_cons, List.length_nil]; done))
  all_goals first
    | (exfalso; omega)
    | omega
    | exact hX.notAgg
    | exact fitP hX
    | exact plainP hX
    | exact notAgg_v _
    | exact ⟨_, rfl⟩
    | exact ⟨_, rfl, rfl⟩
    | rfl
    | assumption
    | (rw [h1]; show _ ≤ 2; omega)
    | (simp; done)
    | (simp [*]; done)
    | (rw [w64 (by omega) (by omega)]; done)
    | fail

theorem vc_whole (x : D) (ps : List Pt) (b : Int) (r : List Int) (e : Int) : Cond Try.prog (fun _ => none) Try.f15 [.agg [.v (.int .i64 b), str r, x, .v (.int .i64 e)]] [.v (.bool (wholeF b r.length ps e))] = (((∃ (cs : List D), D.agg [D.v (Value.int IntKind.i64 b), str r, x, D.v (Value.int IntKind.i64 e)] = D.agg cs ∧ cs.length = 4) ∧ True) ∧ ∃ (r_1 : D), PureD Try.prog 32 [D.agg [D.v (Value.int IntKind.i64 b), str r, x, D.v (Value.int IntKind.i64 e)]] [r_1] ∧ fits [(true, [none, none, none])] [r_1] ∧ ∃ (b_1 : Bool), r_1.cell 2 = D.v (Value.bool b_1) ∧ (b_1 = true → ∃ (r_2 : D), PureD Try.prog 33 [D.agg [r_1.cell 0, r_1.cell 1]] [r_2] ∧ fits [(false, [none])] [r_2] ∧ ((∃ (y : Value), r_2 = D.v y) ∧ True) ∧ [r_2] = [D.v (Value.bool (wholeF b r.length ps e))]) ∧ (b_1 = false → (True ∧ True) ∧ [D.v (Value.bool false)] = [D.v (Value.bool (wholeF b r.length ps e))])) := by kernel_rfl
theorem whole (x : D) (ps : List Pt) (b : Int) (r : List Int) (e : Int) (hX : IsL 2 (ps.map ptD) x) (hP : AllB ps) (hm : ps.length ≤ 90000) (hr : r.length ≤ 100000) : PureD Try.prog 15 [.agg [.v (.int .i64 b), str r, x, .v (.int .i64 e)]] [.v (.bool (wholeF b r.length ps e))] := by
  refine pure_cond (Lp := (fun _ => none)) (by kernel_rfl) Try.func15 (by kernel_rfl) (by kernel_rfl) ?_
  rw [vc_whole x ps b r e]
  have SN := seen x ps b r e hX hP hm hr
  have SW := spanw b e
  unfold wholeF
  cases hc : decide (chkR b r.length ps e = 0)
  all_goals rw [hc] at SN
  all_goals simp only [Bool.false_and, Bool.true_and]
  repeat' (first
    | (refine ex_some (by simp (disch := omega) only [bin_shr, bin_shl, bin_and, bin_or, bin_xor, len_str, toStr_ofL, bin_add, bin_sub, bin_mul, bin_quo, bin_rem, bin_lss, bin_leq, bin_gtr, bin_geq, bin_eql, bin_neq, eqs_cn, eqs_ci, eqs_cb, eqs_cs, Option.map_some, lenT_ofL, lst_ofL, lstSz_ofL, chunk_one, lst_nil, lst_sl, lstSz_sl, lstSz_nil, Bool.and_true, Bool.true_and, Bool.and_false, Bool.false_and, beq_self_eq_true, beq_bb, bne_bb, un_not, un_neg, conv_int, min2_int, max2_int, w64, w32, wu8, wu16, wu32, wu64, tdiv_nn, tmod_nn, cell_zero, cell_succ, cell_v, cells_v, cells_agg, Bool.not_true, Bool.not_false, Int.reduceLT, Int.reduceLE, Int.reduceEq, Int.reduceNeg, Int.reduceAdd, Int.reduceSub, Int.reduceMul, intOf_v, decide_true, decide_false]; rfl) ?_)
    | (refine ex_bool ?_)
    | (refine ⟨_, SN, ?_⟩)
    | (refine ⟨_, SW, ?_⟩)
    | (refine And.intro ?_ ?_)
    | (intro hx; have hprop := (show ∀ (p : Prop), p → True from fun _ _ => True.intro) _ hx; clear hprop; first | (cases hx; done) | (exfalso; revert hx; simp (disch := omega) only [decide_eq_true_eq, decide_eq_false_iff_not, Bool.not_eq_true', Bool.not_eq_false', Bool.and_eq_true, Bool.and_eq_false_iff, Int.not_lt, Int.not_le, ne_eq, not_false_eq_true, not_true_eq_false, reduceCtorEq, Bool.true_eq_false, Bool.false_eq_true, beq_iff_eq, bne_iff_ne, beq_eq_false_iff_ne, false_or, or_false, true_and, and_true]; done) | (simp (disch := omega) only [decide_eq_true_eq, decide_eq_false_iff_not, Bool.not_eq_true', Bool.not_eq_false', Bool.and_eq_true, Bool.and_eq_false_iff, Int.not_lt, Int.not_le, ne_eq, not_false_eq_true, not_true_eq_false, reduceCtorEq, Bool.true_eq_false, Bool.false_eq_true, beq_iff_eq, bne_iff_ne, beq_eq_false_iff_ne, false_or, or_false, true_and, and_true] at hx; first | (exfalso; omega) | skip) | skip)
    | trivial
    | exact fit_ofL _ _
    | (simp (disch := omega) only [notAgg_v, notAgg_sl, plain_v, fits, fitsOne, fitsCells, xsOf, cell_zero, cell_succ, List.range, List.range.loop, List.map, cond_true, cond_false, D.v.injEq, exists_eq', exists_eq, and_self, and_true, true_and, D.agg.injEq, List.length, exists_eq_left', D.sl.injEq, reduceCtorEq, false_or, true_or, or_true, or_false, cell_zero, cell_succ, cell_v, cells_v, cells_agg, List.length_cons, List.length_nil]; done))
  all_goals first
    | (exfalso; omega)
    | omega
    | exact hX.notAgg
    | exact fitP hX
    | exact plainP hX
    | exact notAgg_v _
    | exact ⟨_, rfl⟩
    | exact ⟨_, rfl, rfl⟩
    | rfl
    | assumption
    | (rw [h1]; show _ ≤ 2; omega)
    | (simp; done)
    | (simp [*]; done)
    | (rw [w64 (by omega) (by omega)]; done)
    | fail

theorem vc_rwhole (x : D) (ps : List Pt) (b : Int) (r : List Int) (e : Int) : Cond Try.prog (fun _ => none) Try.f16 [.agg [.v (.int .i64 b), str r, x, .v (.int .i64 e)]] [.v (.bool (wholeF b r.length ps e))] = (((∃ (cs : List D), D.agg [D.v (Value.int IntKind.i64 b), str r, x, D.v (Value.int IntKind.i64 e)] = D.agg cs ∧ cs.length = 4) ∧ True) ∧ ∃ (r_1 : D), PureD Try.prog 14 [D.agg [D.v (Value.int IntKind.i64 b), str r, x, D.v (Value.int IntKind.i64 e)]] [r_1] ∧ fits [(false, [none])] [r_1] ∧ ∃ (r_2 : D), D.bin BinOp.eql r_1 (D.v (Value.int IntKind.i64 0)) = some r_2 ∧ ∃ (b_1 : Bool), r_2 = D.v (Value.bool b_1) ∧ (b_1 = true → ∃ (r_3 : D), D.bin BinOp.geq (D.v (Value.int IntKind.i64 e)) (D.v (Value.int IntKind.i64 0)) = some r_3 ∧ ∃ (b_2 : Bool), r_3 = D.v (Value.bool b_2) ∧ (b_2 = true → ∃ (r_4 : D), D.bin BinOp.eql (D.v (Value.int IntKind.i64 b)) (D.v (Value.int IntKind.i64 e)) = some r_4 ∧ ((∃ (y : Value), r_4 = D.v y) ∧ True) ∧ [r_4] = [D.v (Value.bool (wholeF b r.length ps e))]) ∧ (b_2 = false → (True ∧ True) ∧ [D.v (Value.bool false)] = [D.v (Value.bool (wholeF b r.length ps e))])) ∧ (b_1 = false → (True ∧ True) ∧ [D.v (Value.bool false)] = [D.v (Value.bool (wholeF b r.length ps e))])) := by kernel_rfl
theorem rwhole (x : D) (ps : List Pt) (b : Int) (r : List Int) (e : Int) (hX : IsL 2 (ps.map ptD) x) (hP : AllB ps) (hm : ps.length ≤ 90000) (hr : r.length ≤ 100000) : PureD Try.prog 16 [.agg [.v (.int .i64 b), str r, x, .v (.int .i64 e)]] [.v (.bool (wholeF b r.length ps e))] := by
  refine pure_cond (Lp := (fun _ => none)) (by kernel_rfl) Try.func16 (by kernel_rfl) (by kernel_rfl) ?_
  rw [vc_rwhole x ps b r e]
  have CK := rkrcheck x ps b r e hX hP hm hr
  have hbd := chkR_bd b r.length ps e
  by_cases hz : chkR b r.length ps e = 0
  · have h0 := chk_b hz
    rw [← whole_ge h0, hz]
    rw [hz] at CK
    by_cases h1 : 0 ≤ e
    all_goals (by_cases h2 : b = e)
    all_goals (first | (have d1 : decide (0 ≤ e) = true := by simpa using h1) | (have d1 : decide (0 ≤ e) = false := by simpa using h1))
    all_goals (first | (have d2 : decide (b = e) = true := by simpa using h2) | (have d2 : decide (b = e) = false := by simpa using h2))
    all_goals simp only [d1, d2, decide_true, Bool.true_and, Bool.false_and, Bool.and_false]
    repeat' (first
      | (refine ex_some (by simp (disch := omega) only [bin_shr, bin_shl, bin_and, bin_or, bin_xor, len_str, toStr_ofL, bin_add, bin_sub, bin_mul, bin_quo, bin_rem, bin_lss, bin_leq, bin_gtr, bin_geq, bin_eql, bin_neq, eqs_cn, eqs_ci, eqs_cb, eqs_cs, Option.map_some, lenT_ofL, lst_ofL, lstSz_ofL, chunk_one, lst_nil, lst_sl, lstSz_sl, lstSz_nil, Bool.and_true, Bool.true_and, Bool.and_false, Bool.false_and, beq_self_eq_true, beq_bb, bne_bb, un_not, un_neg, conv_int, min2_int, max2_int, w64, w32, wu8, wu16, wu32, wu64, tdiv_nn, tmod_nn, cell_zero, cell_succ, cell_v, cells_v, cells_agg, Bool.not_true, Bool.not_false, Int.reduceLT, Int.reduceLE, Int.reduceEq, Int.reduceNeg, Int.reduceAdd, Int.reduceSub, Int.reduceMul, intOf_v, decide_true, decide_false]; rfl) ?_)
      | (refine ex_bool ?_)
      | (refine ⟨_, CK, ?_⟩)
      | (refine And.intro ?_ ?_)
      | (intro hx; have hprop := (show ∀ (p : Prop), p → True from fun _ _ => True.intro) _ hx; clear hprop; first | (cases hx; done) | (exfalso; revert hx; simp (disch := omega) only [decide_eq_true_eq, decide_eq_false_iff_not, Bool.not_eq_true', Bool.not_eq_false', Bool.and_eq_true, Bool.and_eq_false_iff, Int.not_lt, Int.not_le, ne_eq, not_false_eq_true, not_true_eq_false, reduceCtorEq, Bool.true_eq_false, Bool.false_eq_true, beq_iff_eq, bne_iff_ne, beq_eq_false_iff_ne, false_or, or_false, true_and, and_true]; done) | (simp (disch := omega) only [decide_eq_true_eq, decide_eq_false_iff_not, Bool.not_eq_true', Bool.not_eq_false', Bool.and_eq_true, Bool.and_eq_false_iff, Int.not_lt, Int.not_le, ne_eq, not_false_eq_true, not_true_eq_false, reduceCtorEq, Bool.true_eq_false, Bool.false_eq_true, beq_iff_eq, bne_iff_ne, beq_eq_false_iff_ne, false_or, or_false, true_and, and_true] at hx; first | (exfalso; omega) | skip) | skip)
      | trivial
      | exact fit_ofL _ _
      | (simp (disch := omega) only [notAgg_v, notAgg_sl, plain_v, fits, fitsOne, fitsCells, xsOf, cell_zero, cell_succ, List.range, List.range.loop, List.map, cond_true, cond_false, D.v.injEq, exists_eq', exists_eq, and_self, and_true, true_and, D.agg.injEq, List.length, exists_eq_left', D.sl.injEq, reduceCtorEq, false_or, true_or, or_true, or_false, cell_zero, cell_succ, cell_v, cells_v, cells_agg, List.length_cons, List.length_nil]; done))
    all_goals first
      | (exfalso; omega)
      | omega
      | exact hX.notAgg
      | exact fitP hX
      | exact plainP hX
      | exact notAgg_v _
      | exact ⟨_, rfl⟩
      | exact ⟨_, rfl, rfl⟩
      | rfl
      | assumption
      | (rw [h1]; show _ ≤ 2; omega)
      | (simp; done)
      | (simp [*]; done)
      | (rw [w64 (by omega) (by omega)]; done)
      | fail
  · have e1 : wholeF b r.length ps e = false := by unfold wholeF; simp [hz]
    rw [e1]
    generalize chkR b r.length ps e = ck at *
    repeat' (first
      | (refine ex_some (by simp (disch := omega) only [bin_shr, bin_shl, bin_and, bin_or, bin_xor, len_str, toStr_ofL, bin_add, bin_sub, bin_mul, bin_quo, bin_rem, bin_lss, bin_leq, bin_gtr, bin_geq, bin_eql, bin_neq, eqs_cn, eqs_ci, eqs_cb, eqs_cs, Option.map_some, lenT_ofL, lst_ofL, lstSz_ofL, chunk_one, lst_nil, lst_sl, lstSz_sl, lstSz_nil, Bool.and_true, Bool.true_and, Bool.and_false, Bool.false_and, beq_self_eq_true, beq_bb, bne_bb, un_not, un_neg, conv_int, min2_int, max2_int, w64, w32, wu8, wu16, wu32, wu64, tdiv_nn, tmod_nn, cell_zero, cell_succ, cell_v, cells_v, cells_agg, Bool.not_true, Bool.not_false, Int.reduceLT, Int.reduceLE, Int.reduceEq, Int.reduceNeg, Int.reduceAdd, Int.reduceSub, Int.reduceMul, intOf_v, decide_true, decide_false]; rfl) ?_)
      | (refine ex_bool ?_)
      | (refine ⟨_, CK, ?_⟩)
      | (refine And.intro ?_ ?_)
      | (intro hx; have hprop := (show ∀ (p : Prop), p → True from fun _ _ => True.intro) _ hx; clear hprop; first | (cases hx; done) | (exfalso; revert hx; simp (disch := omega) only [decide_eq_true_eq, decide_eq_false_iff_not, Bool.not_eq_true', Bool.not_eq_false', Bool.and_eq_true, Bool.and_eq_false_iff, Int.not_lt, Int.not_le, ne_eq, not_false_eq_true, not_true_eq_false, reduceCtorEq, Bool.true_eq_false, Bool.false_eq_true, beq_iff_eq, bne_iff_ne, beq_eq_false_iff_ne, false_or, or_false, true_and, and_true]; done) | (simp (disch := omega) only [decide_eq_true_eq, decide_eq_false_iff_not, Bool.not_eq_true', Bool.not_eq_false', Bool.and_eq_true, Bool.and_eq_false_iff, Int.not_lt, Int.not_le, ne_eq, not_false_eq_true, not_true_eq_false, reduceCtorEq, Bool.true_eq_false, Bool.false_eq_true, beq_iff_eq, bne_iff_ne, beq_eq_false_iff_ne, false_or, or_false, true_and, and_true] at hx; first | (exfalso; omega) | skip) | skip)
      | trivial
      | exact fit_ofL _ _
      | (simp (disch := omega) only [notAgg_v, notAgg_sl, plain_v, fits, fitsOne, fitsCells, xsOf, cell_zero, cell_succ, List.range, List.range.loop, List.map, cond_true, cond_false, D.v.injEq, exists_eq', exists_eq, and_self, and_true, true_and, D.agg.injEq, List.length, exists_eq_left', D.sl.injEq, reduceCtorEq, false_or, true_or, or_true, or_false, cell_zero, cell_succ, cell_v, cells_v, cells_agg, List.length_cons, List.length_nil]; done))
    all_goals first
      | (exfalso; omega)
      | omega
      | exact hX.notAgg
      | exact fitP hX
      | exact plainP hX
      | exact notAgg_v _
      | exact ⟨_, rfl⟩
      | exact ⟨_, rfl, rfl⟩
      | rfl
      | assumption
      | (rw [h1]; show _ ≤ 2; omega)
      | (simp; done)
      | (simp [*]; done)
      | (rw [w64 (by omega) (by omega)]; done)
      | fail

theorem vc_ended (x : D) (ps : List Pt) (b : Int) (r : List Int) (e : Int) : Cond Try.prog (fun _ => none) Try.f17 [.agg [.v (.int .i64 b), str r, x, .v (.int .i64 e)]] [.v (.bool (wholeF b r.length ps e && decide (r.length = 0)))] = (((∃ (cs : List D), D.agg [D.v (Value.int IntKind.i64 b), str r, x, D.v (Value.int IntKind.i64 e)] = D.agg cs ∧ cs.length = 4) ∧ True) ∧ ∃ (r_1 : D), PureD Try.prog 15 [D.agg [D.v (Value.int IntKind.i64 b), str r, x, D.v (Value.int IntKind.i64 e)]] [r_1] ∧ fits [(false, [none])] [r_1] ∧ ∃ (b_1 : Bool), r_1 = D.v (Value.bool b_1) ∧ (b_1 = true → ∃ (r_2 : D), D.bin BinOp.eql (str r) (D.v (Value.string { data := { toList := [] } })) = some r_2 ∧ ((∃ (y : Value), r_2 = D.v y) ∧ True) ∧ [r_2] = [D.v (Value.bool (match wholeF b r.length ps e with | false => false | true => decide (r.length = 0)))]) ∧ (b_1 = false → (True ∧ True) ∧ [D.v (Value.bool false)] = [D.v (Value.bool (match wholeF b r.length ps e with | false => false | true => decide (r.length = 0)))])) := by kernel_rfl
theorem ended (x : D) (ps : List Pt) (b : Int) (r : List Int) (e : Int) (hX : IsL 2 (ps.map ptD) x) (hP : AllB ps) (hm : ps.length ≤ 90000) (hr : r.length ≤ 100000) (hb : Bytes r) : PureD Try.prog 17 [.agg [.v (.int .i64 b), str r, x, .v (.int .i64 e)]] [.v (.bool (wholeF b r.length ps e && decide (r.length = 0)))] := by
  refine pure_cond (Lp := (fun _ => none)) (by kernel_rfl) Try.func17 (by kernel_rfl) (by kernel_rfl) ?_
  rw [vc_ended x ps b r e]
  have WH := whole x ps b r e hX hP hm hr
  have be := bin_e hb
  generalize wholeF b r.length ps e = wh at WH ⊢
  cases wh
  all_goals simp only [Bool.false_and, Bool.true_and]
  repeat' (first
    | (refine ex_some (by simp (disch := omega) only [bin_shr, bin_shl, bin_and, bin_or, bin_xor, len_str, toStr_ofL, bin_add, bin_sub, bin_mul, bin_quo, bin_rem, bin_lss, bin_leq, bin_gtr, bin_geq, bin_eql, bin_neq, eqs_cn, eqs_ci, eqs_cb, eqs_cs, Option.map_some, lenT_ofL, lst_ofL, lstSz_ofL, chunk_one, lst_nil, lst_sl, lstSz_sl, lstSz_nil, Bool.and_true, Bool.true_and, Bool.and_false, Bool.false_and, beq_self_eq_true, beq_bb, bne_bb, un_not, un_neg, conv_int, min2_int, max2_int, w64, w32, wu8, wu16, wu32, wu64, tdiv_nn, tmod_nn, cell_zero, cell_succ, cell_v, cells_v, cells_agg, Bool.not_true, Bool.not_false, Int.reduceLT, Int.reduceLE, Int.reduceEq, Int.reduceNeg, Int.reduceAdd, Int.reduceSub, Int.reduceMul, intOf_v, decide_true, decide_false, be]; rfl) ?_)
    | (refine ex_bool ?_)
    | (refine ⟨_, WH, ?_⟩)
    | (refine And.intro ?_ ?_)
    | (intro hx; have hprop := (show ∀ (p : Prop), p → True from fun _ _ => True.intro) _ hx; clear hprop; first | (cases hx; done) | (exfalso; revert hx; simp (disch := omega) only [decide_eq_true_eq, decide_eq_false_iff_not, Bool.not_eq_true', Bool.not_eq_false', Bool.and_eq_true, Bool.and_eq_false_iff, Int.not_lt, Int.not_le, ne_eq, not_false_eq_true, not_true_eq_false, reduceCtorEq, Bool.true_eq_false, Bool.false_eq_true, beq_iff_eq, bne_iff_ne, beq_eq_false_iff_ne, false_or, or_false, true_and, and_true, be]; done) | (simp (disch := omega) only [decide_eq_true_eq, decide_eq_false_iff_not, Bool.not_eq_true', Bool.not_eq_false', Bool.and_eq_true, Bool.and_eq_false_iff, Int.not_lt, Int.not_le, ne_eq, not_false_eq_true, not_true_eq_false, reduceCtorEq, Bool.true_eq_false, Bool.false_eq_true, beq_iff_eq, bne_iff_ne, beq_eq_false_iff_ne, false_or, or_false, true_and, and_true, be] at hx; first | (exfalso; omega) | skip) | skip)
    | trivial
    | exact fit_ofL _ _
    | (simp (disch := omega) only [notAgg_v, notAgg_sl, plain_v, fits, fitsOne, fitsCells, xsOf, cell_zero, cell_succ, List.range, List.range.loop, List.map, cond_true, cond_false, D.v.injEq, exists_eq', exists_eq, and_self, and_true, true_and, D.agg.injEq, List.length, exists_eq_left', D.sl.injEq, reduceCtorEq, false_or, true_or, or_true, or_false, cell_zero, cell_succ, cell_v, cells_v, cells_agg, List.length_cons, List.length_nil, be]; done))
  all_goals first
    | (exfalso; omega)
    | omega
    | exact hX.notAgg
    | exact fitP hX
    | exact plainP hX
    | exact notAgg_v _
    | exact ⟨_, rfl⟩
    | exact ⟨_, rfl, rfl⟩
    | rfl
    | assumption
    | (rw [h1]; show _ ≤ 2; omega)
    | (simp; done)
    | (simp [*]; done)
    | (rw [w64 (by omega) (by omega)]; done)
    | fail

theorem vc_rended (x : D) (ps : List Pt) (b : Int) (r : List Int) (e : Int) : Cond Try.prog (fun _ => none) Try.f18 [.agg [.v (.int .i64 b), str r, x, .v (.int .i64 e)]] [.v (.bool (wholeF b r.length ps e && decide (r.length = 0)))] = (((∃ (cs : List D), D.agg [D.v (Value.int IntKind.i64 b), str r, x, D.v (Value.int IntKind.i64 e)] = D.agg cs ∧ cs.length = 4) ∧ True) ∧ ∃ (r_1 : D), PureD Try.prog 16 [D.agg [D.v (Value.int IntKind.i64 b), str r, x, D.v (Value.int IntKind.i64 e)]] [r_1] ∧ fits [(false, [none])] [r_1] ∧ ∃ (b_1 : Bool), r_1 = D.v (Value.bool b_1) ∧ (b_1 = true → ∃ (r_2 : D), D.bin BinOp.eql (str r) (D.v (Value.string { data := { toList := [] } })) = some r_2 ∧ ((∃ (y : Value), r_2 = D.v y) ∧ True) ∧ [r_2] = [D.v (Value.bool (match wholeF b r.length ps e with | false => false | true => decide (r.length = 0)))]) ∧ (b_1 = false → (True ∧ True) ∧ [D.v (Value.bool false)] = [D.v (Value.bool (match wholeF b r.length ps e with | false => false | true => decide (r.length = 0)))])) := by kernel_rfl
theorem rended (x : D) (ps : List Pt) (b : Int) (r : List Int) (e : Int) (hX : IsL 2 (ps.map ptD) x) (hP : AllB ps) (hm : ps.length ≤ 90000) (hr : r.length ≤ 100000) (hb : Bytes r) : PureD Try.prog 18 [.agg [.v (.int .i64 b), str r, x, .v (.int .i64 e)]] [.v (.bool (wholeF b r.length ps e && decide (r.length = 0)))] := by
  refine pure_cond (Lp := (fun _ => none)) (by kernel_rfl) Try.func18 (by kernel_rfl) (by kernel_rfl) ?_
  rw [vc_rended x ps b r e]
  have WH := rwhole x ps b r e hX hP hm hr
  have be := bin_e hb
  generalize wholeF b r.length ps e = wh at WH ⊢
  cases wh
  all_goals simp only [Bool.false_and, Bool.true_and]
  repeat' (first
    | (refine ex_some (by simp (disch := omega) only [bin_shr, bin_shl, bin_and, bin_or, bin_xor, len_str, toStr_ofL, bin_add, bin_sub, bin_mul, bin_quo, bin_rem, bin_lss, bin_leq, bin_gtr, bin_geq, bin_eql, bin_neq, eqs_cn, eqs_ci, eqs_cb, eqs_cs, Option.map_some, lenT_ofL, lst_ofL, lstSz_ofL, chunk_one, lst_nil, lst_sl, lstSz_sl, lstSz_nil, Bool.and_true, Bool.true_and, Bool.and_false, Bool.false_and, beq_self_eq_true, beq_bb, bne_bb, un_not, un_neg, conv_int, min2_int, max2_int, w64, w32, wu8, wu16, wu32, wu64, tdiv_nn, tmod_nn, cell_zero, cell_succ, cell_v, cells_v, cells_agg, Bool.not_true, Bool.not_false, Int.reduceLT, Int.reduceLE, Int.reduceEq, Int.reduceNeg, Int.reduceAdd, Int.reduceSub, Int.reduceMul, intOf_v, decide_true, decide_false, be]; rfl) ?_)
    | (refine ex_bool ?_)
    | (refine ⟨_, WH, ?_⟩)
    | (refine And.intro ?_ ?_)
    | (intro hx; have hprop := (show ∀ (p : Prop), p → True from fun _ _ => True.intro) _ hx; clear hprop; first | (cases hx; done) | (exfalso; revert hx; simp (disch := omega) only [decide_eq_true_eq, decide_eq_false_iff_not, Bool.not_eq_true', Bool.not_eq_false', Bool.and_eq_true, Bool.and_eq_false_iff, Int.not_lt, Int.not_le, ne_eq, not_false_eq_true, not_true_eq_false, reduceCtorEq, Bool.true_eq_false, Bool.false_eq_true, beq_iff_eq, bne_iff_ne, beq_eq_false_iff_ne, false_or, or_false, true_and, and_true, be]; done) | (simp (disch := omega) only [decide_eq_true_eq, decide_eq_false_iff_not, Bool.not_eq_true', Bool.not_eq_false', Bool.and_eq_true, Bool.and_eq_false_iff, Int.not_lt, Int.not_le, ne_eq, not_false_eq_true, not_true_eq_false, reduceCtorEq, Bool.true_eq_false, Bool.false_eq_true, beq_iff_eq, bne_iff_ne, beq_eq_false_iff_ne, false_or, or_false, true_and, and_true, be] at hx; first | (exfalso; omega) | skip) | skip)
    | trivial
    | exact fit_ofL _ _
    | (simp (disch := omega) only [notAgg_v, notAgg_sl, plain_v, fits, fitsOne, fitsCells, xsOf, cell_zero, cell_succ, List.range, List.range.loop, List.map, cond_true, cond_false, D.v.injEq, exists_eq', exists_eq, and_self, and_true, true_and, D.agg.injEq, List.length, exists_eq_left', D.sl.injEq, reduceCtorEq, false_or, true_or, or_true, or_false, cell_zero, cell_succ, cell_v, cells_v, cells_agg, List.length_cons, List.length_nil, be]; done))
  all_goals first
    | (exfalso; omega)
    | omega
    | exact hX.notAgg
    | exact fitP hX
    | exact plainP hX
    | exact notAgg_v _
    | exact ⟨_, rfl⟩
    | exact ⟨_, rfl, rfl⟩
    | rfl
    | assumption
    | (rw [h1]; show _ ≤ 2; omega)
    | (simp; done)
    | (simp [*]; done)
    | (rw [w64 (by omega) (by omega)]; done)
    | fail

end Go.Proofs.Ytjdemohgegldaaa