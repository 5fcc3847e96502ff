/-
  Layer 12: limits; what may be.
-/
import Derived.Test.YtjdemohgegldaaaAm19
namespace Go.Proofs.Ytjdemohgegldaaa
open Go.RowKit
set_option linter.unusedSimpArgs false
set_option linter.unusedVariables false


set_option linter.unusedVariables false
abbrev Pt := Int × List Int
def ptD (p : Pt) : D := .agg [.v (.int .i64 p.1), str p.2]
theorem pt_get {ps : List Pt} {x : D} (h : IsL 2 (ps.map ptD) x) {k : Nat} (hk : k < ps.length) : x.at_ (.v (.int .i64 (k : Nat))) = ptD (ps.getD k (0, [])) := by
  rw [h.at_]; simp [List.getD, hk]
theorem pt_inb {ps : List Pt} {x : D} (h : IsL 2 (ps.map ptD) x) {k : Nat} (hk : k < ps.length) : D.inb 2 x (.v (.int .i64 (k : Nat))) := h.inb (by omega) (by rw [List.length_map]; omega)
def AllB (ps : List Pt) : Prop := ∀ p ∈ ps, Bytes p.2 ∧ p.2.length ≤ 100000
theorem pt_in {ps : List Pt} (h : AllB ps) {k : Nat} (hk : k < ps.length) : Bytes (ps.getD k (0, [])).2 ∧ (ps.getD k (0, [])).2.length ≤ 100000 := h _ (by simp [List.getD, hk])
theorem str_nil : D.v (.string ⟨#[]⟩) = str [] := rfl
theorem bin_e {l : List Int} (h : Bytes l) : D.bin .eql (str l) (.v (.string ⟨#[]⟩)) = some (.v (.bool (decide (l.length = 0)))) := by
  rw [str_nil, bin_seql h Bytes.nil]
  cases l <;> simp
theorem drop_at {α : Type} {l : List α} {d : α} {i : Nat} (h : i < l.length) : l.drop i = l.getD i d :: l.drop (i + 1) := by
  rw [List.drop_eq_getElem_cons h]; simp [List.getD, h]
def limF (b : Int) (r : Nat) : Int := min (b + (4096 - r)) 1099511627776
def okS (b : Int) (r : Nat) : Bool := decide (0 ≤ b ∧ b ≤ 1099511627776 ∧ (r : Int) ≤ 4096 ∧ (r : Int) ≤ b)
def walkF (lim : Int) : List Pt → Int → Bool
  | [], _ => true
  | p :: l, last => if p.2.length ≠ 0 ∧ last < p.1 ∧ p.1 ≤ lim ∧ p.1 + p.2.length ≤ lim then walkF lim l (p.1 + p.2.length) else false
def chkF (b : Int) (r : Nat) (ps : List Pt) : Int := if okS b r = false then 8 else if walkF (limF b r) ps b = true then 0 else 10
def leftG (n : Nat) : List D → Nat
  | .v (.int _ i) :: _ => n - i.toNat
  | _ => 0
theorem chk_no {b : Int} {r : Nat} {ps : List Pt} (h : okS b r = false) : chkF b r ps = 8 := if_pos h
theorem chk_yes {b : Int} {r : Nat} {ps : List Pt} (h : okS b r = true) : chkF b r ps = if walkF (limF b r) ps b = true then 0 else 10 := by unfold chkF; rw [h]; rfl

theorem vc_ends1 (a : Int) (s : List Int) : Cond Try.prog (fun _ => none) Try.f40 [.agg [.v (.int .i64 a), str s]] [.v (.int .i64 (a + s.length))] = (((∃ (cs : List D), D.agg [D.v (Value.int IntKind.i64 a), str s] = D.agg cs ∧ cs.length = 2) ∧ True) ∧ ∃ (r : D), D.lenT TypeDesc.string (str s) = some r ∧ ∃ (r_1 : D), D.bin BinOp.add (D.v (Value.int IntKind.i64 a)) r = some r_1 ∧ ((∃ (y : Value), r_1 = D.v y) ∧ True) ∧ [r_1] = [D.v (Value.int IntKind.i64 (a + ↑s.length))]) := by kernel_rfl
theorem ends1 (a : Int) (s : List Int) (h0 : 0 ≤ a) (h1 : a ≤ 1099511627776) (h2 : s.length ≤ 100000) : PureD Try.prog 40 [.agg [.v (.int .i64 a), str s]] [.v (.int .i64 (a + s.length))] := by
  refine pure_cond (Lp := (fun _ => none)) (by kernel_rfl) Try.func40 (by kernel_rfl) (by kernel_rfl) ?_
  rw [vc_ends1 a s]
  repeat' (first
    | (refine ex_some (by simp (disch := omega) only [bin_shr, bin_shl, bin_and, bin_or, bin_xor, len_str, toStr_ofL, bin_add, bin_sub, bin_mul, bin_quo, bin_rem, bin_lss, bin_leq, bin_gtr, bin_geq, bin_eql, bin_neq, eqs_cn, eqs_ci, eqs_cb, eqs_cs, Option.map_some, lenT_ofL, lst_ofL, lstSz_ofL, chunk_one, lst_nil, lst_sl, lstSz_sl, lstSz_nil, Bool.and_true, Bool.true_and, Bool.and_false, Bool.false_and, beq_self_eq_true, beq_bb, bne_bb, un_not, un_neg, conv_int, min2_int, max2_int, w64, w32, wu8, wu16, wu32, wu64, tdiv_nn, tmod_nn, cell_zero, cell_succ, cell_v, cells_v, cells_agg, Bool.not_true, Bool.not_false, Int.reduceLT, Int.reduceLE, Int.reduceEq, Int.reduceNeg, Int.reduceAdd, Int.reduceSub, Int.reduceMul, intOf_v, decide_true, decide_false]; rfl) ?_)
    | (refine ex_bool ?_)
    | (refine And.intro ?_ ?_)
    | (intro hx; have hprop := (show ∀ (p : Prop), p → True from fun _ _ => True.intro) _ hx; clear hprop; first | (cases hx; done) | (exfalso; revert hx; simp (disch := omega) only [decide_eq_true_eq, decide_eq_false_iff_not, Bool.not_eq_true', Bool.not_eq_false', Bool.and_eq_true, Bool.and_eq_false_iff, Int.not_lt, Int.not_le, ne_eq, not_false_eq_true, not_true_eq_false, reduceCtorEq, Bool.true_eq_false, Bool.false_eq_true, beq_iff_eq, bne_iff_ne, beq_eq_false_iff_ne, false_or, or_false, true_and, and_true]; done) | (simp (disch := omega) only [decide_eq_true_eq, decide_eq_false_iff_not, Bool.not_eq_true', Bool.not_eq_false', Bool.and_eq_true, Bool.and_eq_false_iff, Int.not_lt, Int.not_le, ne_eq, not_false_eq_true, not_true_eq_false, reduceCtorEq, Bool.true_eq_false, Bool.false_eq_true, beq_iff_eq, bne_iff_ne, beq_eq_false_iff_ne, false_or, or_false, true_and, and_true] at hx; first | (exfalso; omega) | skip) | skip)
    | trivial
    | exact fit_ofL _ _
    | (simp (disch := omega) only [notAgg_v, notAgg_sl, plain_v, fits, fitsOne, fitsCells, xsOf, cell_zero, cell_succ, List.range, List.range.loop, List.map, cond_true, cond_false, D.v.injEq, exists_eq', exists_eq, and_self, and_true, true_and, D.agg.injEq, List.length, exists_eq_left', D.sl.injEq, reduceCtorEq, false_or, true_or, or_true, or_false, cell_zero, cell_succ, cell_v, cells_v, cells_agg, List.length_cons, List.length_nil]; done))
  all_goals first
    | (exfalso; omega)
    | omega
    | rfl
    | exact hX.notAgg
    | exact ⟨_, rfl⟩
    | assumption
    | (simp only [leftG]; omega)
    | (simp; done)
    | fail

theorem vc_limit (x : D) (ps : List Pt) (b : Int) (r : List Int) : Cond Try.prog (fun _ => none) Try.f39 [.agg [.v (.int .i64 b), str r, x]] [.v (.int .i64 (limF b r.length))] = (((∃ (cs : List D), D.agg [D.v (Value.int IntKind.i64 b), str r, x] = D.agg cs ∧ cs.length = 3) ∧ True) ∧ ∃ (r_1 : D), D.lenT TypeDesc.string (str r) = some r_1 ∧ ∃ (r_2 : D), D.bin BinOp.add (D.v (Value.int IntKind.i64 1099511627776)) r_1 = some r_2 ∧ ∃ (r_3 : D), D.bin BinOp.gtr (D.v (Value.int IntKind.i64 b)) r_2 = some r_3 ∧ ∃ (b_1 : Bool), r_3 = D.v (Value.bool b_1) ∧ (b_1 = true → (True ∧ True) ∧ [D.v (Value.int IntKind.i64 1099511627776)] = [D.v (Value.int IntKind.i64 (limF b r.length))]) ∧ (b_1 = false → ∃ (r_4 : D), D.lenT TypeDesc.string (str r) = some r_4 ∧ ∃ (r_5 : D), D.bin BinOp.sub (D.v (Value.int IntKind.i64 4096)) r_4 = some r_5 ∧ ∃ (r_6 : D), D.bin BinOp.add (D.v (Value.int IntKind.i64 b)) r_5 = some r_6 ∧ ∃ (r_7 : D), r_6.min2 (D.v (Value.int IntKind.i64 1099511627776)) = some r_7 ∧ ((∃ (y : Value), r_7 = D.v y) ∧ True) ∧ [r_7] = [D.v (Value.int IntKind.i64 (limF b r.length))])) := by kernel_rfl
theorem limit (x : D) (ps : List Pt) (b : Int) (r : List Int) (hX : IsL 2 (ps.map ptD) x) (hb0 : 0 ≤ b) (hb1 : b ≤ 1099511627776) (hr : r.length ≤ 4096) : PureD Try.prog 39 [.agg [.v (.int .i64 b), str r, x]] [.v (.int .i64 (limF b r.length))] := by
  refine pure_cond (Lp := (fun _ => none)) (by kernel_rfl) Try.func39 (by kernel_rfl) (by kernel_rfl) ?_
  rw [vc_limit x ps b r]
  have h1 : True := trivial
  unfold limF
  repeat' (first
    | (refine ex_some (by simp (disch := omega) only [bin_shr, bin_shl, bin_and, bin_or, bin_xor, len_str, toStr_ofL, bin_add, bin_sub, bin_mul, bin_quo, bin_rem, bin_lss, bin_leq, bin_gtr, bin_geq, bin_eql, bin_neq, eqs_cn, eqs_ci, eqs_cb, eqs_cs, Option.map_some, lenT_ofL, lst_ofL, lstSz_ofL, chunk_one, lst_nil, lst_sl, lstSz_sl, lstSz_nil, Bool.and_true, Bool.true_and, Bool.and_false, Bool.false_and, beq_self_eq_true, beq_bb, bne_bb, un_not, un_neg, conv_int, min2_int, max2_int, w64, w32, wu8, wu16, wu32, wu64, tdiv_nn, tmod_nn, cell_zero, cell_succ, cell_v, cells_v, cells_agg, Bool.not_true, Bool.not_false, Int.reduceLT, Int.reduceLE, Int.reduceEq, Int.reduceNeg, Int.reduceAdd, Int.reduceSub, Int.reduceMul, intOf_v, decide_true, decide_false]; rfl) ?_)
    | (refine ex_bool ?_)
    | (refine And.intro ?_ ?_)
    | (intro hx; have hprop := (show ∀ (p : Prop), p → True from fun _ _ => True.intro) _ hx; clear hprop; first | (cases hx; done) | (exfalso; revert hx; simp (disch := omega) only [decide_eq_true_eq, decide_eq_false_iff_not, Bool.not_eq_true', Bool.not_eq_false', Bool.and_eq_true, Bool.and_eq_false_iff, Int.not_lt, Int.not_le, ne_eq, not_false_eq_true, not_true_eq_false, reduceCtorEq, Bool.true_eq_false, Bool.false_eq_true, beq_iff_eq, bne_iff_ne, beq_eq_false_iff_ne, false_or, or_false, true_and, and_true]; done) | (simp (disch := omega) only [decide_eq_true_eq, decide_eq_false_iff_not, Bool.not_eq_true', Bool.not_eq_false', Bool.and_eq_true, Bool.and_eq_false_iff, Int.not_lt, Int.not_le, ne_eq, not_false_eq_true, not_true_eq_false, reduceCtorEq, Bool.true_eq_false, Bool.false_eq_true, beq_iff_eq, bne_iff_ne, beq_eq_false_iff_ne, false_or, or_false, true_and, and_true] at hx; first | (exfalso; omega) | skip) | skip)
    | trivial
    | exact fit_ofL _ _
    | (simp (disch := omega) only [notAgg_v, notAgg_sl, plain_v, fits, fitsOne, fitsCells, xsOf, cell_zero, cell_succ, List.range, List.range.loop, List.map, cond_true, cond_false, D.v.injEq, exists_eq', exists_eq, and_self, and_true, true_and, D.agg.injEq, List.length, exists_eq_left', D.sl.injEq, reduceCtorEq, false_or, true_or, or_true, or_false, cell_zero, cell_succ, cell_v, cells_v, cells_agg, List.length_cons, List.length_nil]; done))
  all_goals first
    | (exfalso; omega)
    | omega
    | rfl
    | exact hX.notAgg
    | exact ⟨_, rfl⟩
    | assumption
    | (simp only [leftG]; omega)
    | (rw [h1]; exact Nat.le_refl _)
    | (simp; done)
    | fail

theorem vc_rlimit (x : D) (ps : List Pt) (b : Int) (r : List Int) : Cond Try.prog (fun _ => none) Try.f45 [.agg [.v (.int .i64 b), str r, x]] [.v (.int .i64 (limF b r.length))] = (((∃ (cs : List D), D.agg [D.v (Value.int IntKind.i64 b), str r, x] = D.agg cs ∧ cs.length = 3) ∧ True) ∧ ∃ (r_1 : D), D.lenT TypeDesc.string (str r) = some r_1 ∧ ∃ (r_2 : D), D.bin BinOp.sub (D.v (Value.int IntKind.i64 b)) r_1 = some r_2 ∧ ∃ (r_3 : D), D.bin BinOp.add r_2 (D.v (Value.int IntKind.i64 4096)) = some r_3 ∧ ∃ (r_4 : D), (D.v (Value.int IntKind.i64 1099511627776)).min2 r_3 = some r_4 ∧ ((∃ (y : Value), r_4 = D.v y) ∧ True) ∧ [r_4] = [D.v (Value.int IntKind.i64 (limF b r.length))]) := by kernel_rfl
theorem rlimit (x : D) (ps : List Pt) (b : Int) (r : List Int) (hX : IsL 2 (ps.map ptD) x) (hb0 : 0 ≤ b) (hb1 : b ≤ 1099511627776) (hr : r.length ≤ 4096) : PureD Try.prog 45 [.agg [.v (.int .i64 b), str r, x]] [.v (.int .i64 (limF b r.length))] := by
  refine pure_cond (Lp := (fun _ => none)) (by kernel_rfl) Try.func45 (by kernel_rfl) (by kernel_rfl) ?_
  rw [vc_rlimit x ps b r]
  have h1 : True := trivial
  have e : limF b r.length = min 1099511627776 (b - r.length + 4096) := by unfold limF; omega
  rw [e]
  repeat' (first
    | (refine ex_some (by simp (disch := omega) only [bin_shr, bin_shl, bin_and, bin_or, bin_xor, len_str, toStr_ofL, bin_add, bin_sub, bin_mul, bin_quo, bin_rem, bin_lss, bin_leq, bin_gtr, bin_geq, bin_eql, bin_neq, eqs_cn, eqs_ci, eqs_cb, eqs_cs, Option.map_some, lenT_ofL, lst_ofL, lstSz_ofL, chunk_one, lst_nil, lst_sl, lstSz_sl, lstSz_nil, Bool.and_true, Bool.true_and, Bool.and_false, Bool.false_and, beq_self_eq_true, beq_bb, bne_bb, un_not, un_neg, conv_int, min2_int, max2_int, w64, w32, wu8, wu16, wu32, wu64, tdiv_nn, tmod_nn, cell_zero, cell_succ, cell_v, cells_v, cells_agg, Bool.not_true, Bool.not_false, Int.reduceLT, Int.reduceLE, Int.reduceEq, Int.reduceNeg, Int.reduceAdd, Int.reduceSub, Int.reduceMul, intOf_v, decide_true, decide_false]; rfl) ?_)
    | (refine ex_bool ?_)
    | (refine And.intro ?_ ?_)
    | (intro hx; have hprop := (show ∀ (p : Prop), p → True from fun _ _ => True.intro) _ hx; clear hprop; first | (cases hx; done) | (exfalso; revert hx; simp (disch := omega) only [decide_eq_true_eq, decide_eq_false_iff_not, Bool.not_eq_true', Bool.not_eq_false', Bool.and_eq_true, Bool.and_eq_false_iff, Int.not_lt, Int.not_le, ne_eq, not_false_eq_true, not_true_eq_false, reduceCtorEq, Bool.true_eq_false, Bool.false_eq_true, beq_iff_eq, bne_iff_ne, beq_eq_false_iff_ne, false_or, or_false, true_and, and_true]; done) | (simp (disch := omega) only [decide_eq_true_eq, decide_eq_false_iff_not, Bool.not_eq_true', Bool.not_eq_false', Bool.and_eq_true, Bool.and_eq_false_iff, Int.not_lt, Int.not_le, ne_eq, not_false_eq_true, not_true_eq_false, reduceCtorEq, Bool.true_eq_false, Bool.false_eq_true, beq_iff_eq, bne_iff_ne, beq_eq_false_iff_ne, false_or, or_false, true_and, and_true] at hx; first | (exfalso; omega) | skip) | skip)
    | trivial
    | exact fit_ofL _ _
    | (simp (disch := omega) only [notAgg_v, notAgg_sl, plain_v, fits, fitsOne, fitsCells, xsOf, cell_zero, cell_succ, List.range, List.range.loop, List.map, cond_true, cond_false, D.v.injEq, exists_eq', exists_eq, and_self, and_true, true_and, D.agg.injEq, List.length, exists_eq_left', D.sl.injEq, reduceCtorEq, false_or, true_or, or_true, or_false, cell_zero, cell_succ, cell_v, cells_v, cells_agg, List.length_cons, List.length_nil]; done))
  all_goals first
    | (exfalso; omega)
    | omega
    | rfl
    | exact hX.notAgg
    | exact ⟨_, rfl⟩
    | assumption
    | (simp only [leftG]; omega)
    | (rw [h1]; exact Nat.le_refl _)
    | (simp; done)
    | fail

theorem vc_check (x : D) (ps : List Pt) (b : Int) (r : List Int) : Cond Try.prog (fun k => if k = 5 then some ⟨[31, 3], [], [1, 4, 29, 30], []⟩ else none) Try.f30 [.agg [.v (.int .i64 b), str r, x]] [.v (.int .i64 (chkF b r.length ps))] = (((∃ (cs : List D), D.agg [D.v (Value.int IntKind.i64 b), str r, x] = D.agg cs ∧ cs.length = 3) ∧ True) ∧ ∃ (r_1 : D), D.bin BinOp.lss (D.v (Value.int IntKind.i64 b)) (D.v (Value.int IntKind.i64 0)) = some r_1 ∧ ∃ (b_1 : Bool), r_1 = D.v (Value.bool b_1) ∧ (b_1 = false → ∃ (r_2 : D), D.bin BinOp.gtr (D.v (Value.int IntKind.i64 b)) (D.v (Value.int IntKind.i64 1099511627776)) = some r_2 ∧ ∃ (b_2 : Bool), r_2 = D.v (Value.bool b_2) ∧ (b_2 = false → ∃ (r_3 : D), D.lenT TypeDesc.string (str r) = some r_3 ∧ ∃ (r_4 : D), (D.v (Value.int IntKind.i64 4096)).min2 (D.v (Value.int IntKind.i64 b)) = some r_4 ∧ ∃ (r_5 : D), D.bin BinOp.gtr r_3 r_4 = some r_5 ∧ ∃ (b_3 : Bool), r_5 = D.v (Value.bool b_3) ∧ (b_3 = true → (True ∧ True) ∧ [D.v (Value.int IntKind.i64 8)] = [D.v (Value.int IntKind.i64 (chkF b r.length ps))]) ∧ (b_3 = false → ∃ (r_6 : D), PureD Try.prog 39 [D.agg [D.v (Value.int IntKind.i64 b), str r, x]] [r_6] ∧ fits [(false, [none])] [r_6] ∧ ∃ (r_7 : D), D.lenT (TypeDesc.slice 67) x = some r_7 ∧ ∃ (I : List D → Prop), ∃ (μ : List D → Nat), ((D.v (Value.int IntKind.i64 0) = D.v (Value.int IntKind.i64 0) ∧ D.v (Value.int IntKind.i64 b) = D.v (Value.int IntKind.i64 b) ∧ (true = true ∧ true = true) ∧ r_6 = r_6 ∧ x = x ∧ r_7 = r_7 ∧ True) ∧ ((D.v (Value.int IntKind.i64 b) = D.v (Value.int IntKind.i64 b) ∧ str r = str r ∧ x = x ∧ True) ∧ True) ∧ I [D.v (Value.int IntKind.i64 0), D.v (Value.int IntKind.i64 b)]) ∧ ∀ (r_8 r_9 : D), I [r_8, r_9] → ∃ (r_10 : D), D.bin BinOp.lss r_8 r_7 = some r_10 ∧ ∃ (b_4 : Bool), r_10 = D.v (Value.bool b_4) ∧ (b_4 = true → D.inb 2 x r_8 ∧ 0 + 2 ≤ (x.at_ r_8).cells.length ∧ ∃ (r_11 : D), D.bin BinOp.eql ((x.at_ r_8).cell (0 + 1)) (D.v (Value.string { data := { toList := [] } })) = some r_11 ∧ ∃ (b_5 : Bool), r_11 = D.v (Value.bool b_5) ∧ (b_5 = false → ∃ (r_12 : D), D.bin BinOp.leq ((x.at_ r_8).cell (0 + 0)) r_9 = some r_12 ∧ ∃ (b_6 : Bool), r_12 = D.v (Value.bool b_6) ∧ (b_6 = false → ∃ (r_13 : D), D.bin BinOp.gtr ((x.at_ r_8).cell (0 + 0)) r_6 = some r_13 ∧ ∃ (b_7 : Bool), r_13 = D.v (Value.bool b_7) ∧ (b_7 = false → ∃ (r_14 : D), PureD Try.prog 40 [D.agg [(x.at_ r_8).cell (0 + 0), (x.at_ r_8).cell (0 + 1)]] [r_14] ∧ fits [(false, [none])] [r_14] ∧ ∃ (r_15 : D), D.bin BinOp.gtr r_14 r_6 = some r_15 ∧ ∃ (b_8 : Bool), r_15 = D.v (Value.bool b_8) ∧ (b_8 = true → (True ∧ True) ∧ [D.v (Value.int IntKind.i64 10)] = [D.v (Value.int IntKind.i64 (chkF b r.length ps))]) ∧ (b_8 = false → ∃ (r_16 : D), PureD Try.prog 40 [D.agg [(x.at_ r_8).cell (0 + 0), (x.at_ r_8).cell (0 + 1)]] [r_16] ∧ fits [(false, [none])] [r_16] ∧ ∃ (r_17 : D), D.bin BinOp.add r_8 (D.v (Value.int IntKind.i64 1)) = some r_17 ∧ (r_17 = r_17 ∧ r_16 = r_16 ∧ (true = true ∧ true = true) ∧ r_6 = r_6 ∧ x = x ∧ r_7 = r_7 ∧ True) ∧ ((D.v (Value.int IntKind.i64 b) = D.v (Value.int IntKind.i64 b) ∧ str r = str r ∧ x = x ∧ True) ∧ True) ∧ I [r_17, r_16] ∧ μ [r_17, r_16] < μ [r_8, r_9])) ∧ (b_7 = true → (True ∧ True) ∧ [D.v (Value.int IntKind.i64 10)] = [D.v (Value.int IntKind.i64 (chkF b r.length ps))])) ∧ (b_6 = true → (True ∧ True) ∧ [D.v (Value.int IntKind.i64 10)] = [D.v (Value.int IntKind.i64 (chkF b r.length ps))])) ∧ (b_5 = true → (True ∧ True) ∧ [D.v (Value.int IntKind.i64 10)] = [D.v (Value.int IntKind.i64 (chkF b r.length ps))])) ∧ (b_4 = false → (True ∧ True) ∧ [D.v (Value.int IntKind.i64 0)] = [D.v (Value.int IntKind.i64 (chkF b r.length ps))]))) ∧ (b_2 = true → (True ∧ True) ∧ [D.v (Value.int IntKind.i64 8)] = [D.v (Value.int IntKind.i64 (chkF b r.length ps))])) ∧ (b_1 = true → (True ∧ True) ∧ [D.v (Value.int IntKind.i64 8)] = [D.v (Value.int IntKind.i64 (chkF b r.length ps))])) := by kernel_rfl
set_option maxHeartbeats 8000000 in
theorem check (x : D) (ps : List Pt) (b : Int) (r : List Int) (hX : IsL 2 (ps.map ptD) x) (hP : AllB ps) (hm : ps.length ≤ 100000) (hr : r.length ≤ 100000) : PureD Try.prog 30 [.agg [.v (.int .i64 b), str r, x]] [.v (.int .i64 (chkF b r.length ps))] := by
  refine pure_cond (Lp := (fun k => if k = 5 then some ⟨[31, 3], [], [1, 4, 29, 30], []⟩ else none)) (by kernel_rfl) Try.func30 (by kernel_rfl) (by kernel_rfl) ?_
  rw [vc_check x ps b r]
  simp only [hX.lenT, List.length_map, Option.some.injEq, exists_eq_left']
  have h1 : True := trivial
  have be : True := trivial
  cases hk : okS b r.length
  · rw [chk_no hk]
    simp only [okS, decide_eq_false_iff_not] at hk
    repeat' (first
      | (refine ex_some (by simp (disch := omega) only [bin_shr, bin_shl, bin_and, bin_or, bin_xor, len_str, toStr_ofL, bin_add, bin_sub, bin_mul, bin_quo, bin_rem, bin_lss, bin_leq, bin_gtr, bin_geq, bin_eql, bin_neq, eqs_cn, eqs_ci, eqs_cb, eqs_cs, Option.map_some, lenT_ofL, lst_ofL, lstSz_ofL, chunk_one, lst_nil, lst_sl, lstSz_sl, lstSz_nil, Bool.and_true, Bool.true_and, Bool.and_false, Bool.false_and, beq_self_eq_true, beq_bb, bne_bb, un_not, un_neg, conv_int, min2_int, max2_int, w64, w32, wu8, wu16, wu32, wu64, tdiv_nn, tmod_nn, cell_zero, cell_succ, cell_v, cells_v, cells_agg, Bool.not_true, Bool.not_false, Int.reduceLT, Int.reduceLE, Int.reduceEq, Int.reduceNeg, Int.reduceAdd, Int.reduceSub, Int.reduceMul, intOf_v, decide_true, decide_false, h1, be, hX.lenT, List.length_map]; rfl) ?_)
      | (refine ex_bool ?_)
      | (refine And.intro ?_ ?_)
      | (intro hx; have hprop := (show ∀ (p : Prop), p → True from fun _ _ => True.intro) _ hx; clear hprop; first | (cases hx; done) | (exfalso; revert hx; simp (disch := omega) only [decide_eq_true_eq, decide_eq_false_iff_not, Bool.not_eq_true', Bool.not_eq_false', Bool.and_eq_true, Bool.and_eq_false_iff, Int.not_lt, Int.not_le, ne_eq, not_false_eq_true, not_true_eq_false, reduceCtorEq, Bool.true_eq_false, Bool.false_eq_true, beq_iff_eq, bne_iff_ne, beq_eq_false_iff_ne, false_or, or_false, true_and, and_true, h1, be, hX.lenT, List.length_map]; done) | (simp (disch := omega) only [decide_eq_true_eq, decide_eq_false_iff_not, Bool.not_eq_true', Bool.not_eq_false', Bool.and_eq_true, Bool.and_eq_false_iff, Int.not_lt, Int.not_le, ne_eq, not_false_eq_true, not_true_eq_false, reduceCtorEq, Bool.true_eq_false, Bool.false_eq_true, beq_iff_eq, bne_iff_ne, beq_eq_false_iff_ne, false_or, or_false, true_and, and_true, h1, be, hX.lenT, List.length_map] at hx; first | (exfalso; omega) | skip) | skip)
      | trivial
      | exact fit_ofL _ _
      | (simp (disch := omega) only [notAgg_v, notAgg_sl, plain_v, fits, fitsOne, fitsCells, xsOf, cell_zero, cell_succ, List.range, List.range.loop, List.map, cond_true, cond_false, D.v.injEq, exists_eq', exists_eq, and_self, and_true, true_and, D.agg.injEq, List.length, exists_eq_left', D.sl.injEq, reduceCtorEq, false_or, true_or, or_true, or_false, cell_zero, cell_succ, cell_v, cells_v, cells_agg, List.length_cons, List.length_nil, h1, be, hX.lenT, List.length_map]; done))
    all_goals first
      | (exfalso; omega)
      | omega
      | rfl
      | exact hX.notAgg
      | exact ⟨_, rfl⟩
      | assumption
      | (simp only [leftG]; omega)
      | (rw [h1]; exact Nat.le_refl _)
      | (simp; done)
      | fail
  · rw [chk_yes hk]
    simp only [okS, decide_eq_true_eq] at hk
    have LM := limit x ps b r hX (by omega) (by omega) (by omega)
    have hlm : limF b r.length ≤ 1099511627776 := by unfold limF; omega
    repeat' (first
      | (refine ex_some (by simp (disch := omega) only [bin_shr, bin_shl, bin_and, bin_or, bin_xor, len_str, toStr_ofL, bin_add, bin_sub, bin_mul, bin_quo, bin_rem, bin_lss, bin_leq, bin_gtr, bin_geq, bin_eql, bin_neq, eqs_cn, eqs_ci, eqs_cb, eqs_cs, Option.map_some, lenT_ofL, lst_ofL, lstSz_ofL, chunk_one, lst_nil, lst_sl, lstSz_sl, lstSz_nil, Bool.and_true, Bool.true_and, Bool.and_false, Bool.false_and, beq_self_eq_true, beq_bb, bne_bb, un_not, un_neg, conv_int, min2_int, max2_int, w64, w32, wu8, wu16, wu32, wu64, tdiv_nn, tmod_nn, cell_zero, cell_succ, cell_v, cells_v, cells_agg, Bool.not_true, Bool.not_false, Int.reduceLT, Int.reduceLE, Int.reduceEq, Int.reduceNeg, Int.reduceAdd, Int.reduceSub, Int.reduceMul, intOf_v, decide_true, decide_false, h1, be, hX.lenT, List.length_map]; rfl) ?_)
      | (refine ex_bool ?_)
      | (refine ⟨_, LM, ?_⟩)
      | (refine ⟨_, hE ?_ ?_, ?_⟩)
      | (exact i1)
      | (refine ⟨(fun r3 => ∃ (i : Nat) (last : Int), i ≤ ps.length ∧ 0 ≤ last ∧ last ≤ 1099511627776 ∧ walkF (limF b r.length) (ps.drop i) last = walkF (limF b r.length) ps b ∧ r3 = [.v (.int .i64 (i : Nat)), .v (.int .i64 last)]), leftG ps.length, ?_⟩)
      | (refine fun (r2 r3 : D) (hI : (fun r3 => ∃ (i : Nat) (last : Int), i ≤ ps.length ∧ 0 ≤ last ∧ last ≤ 1099511627776 ∧ walkF (limF b r.length) (ps.drop i) last = walkF (limF b r.length) ps b ∧ r3 = [.v (.int .i64 (i : Nat)), .v (.int .i64 last)]) [r2, r3]) => ?_; obtain ⟨i, last, hi, hl1, hl2, hw, hl0⟩ := hI; simp only [List.cons.injEq, and_true] at hl0; obtain ⟨rfl, rfl⟩ := hl0; by_cases hlt : i < ps.length <;> first | (have hk1 : i < ps.length := (by omega); have h1 := pt_get hX hk1; have i1 := pt_inb hX hk1; have hb := pt_in hP hk1; rw [drop_at (d := (0, [])) hk1] at hw; generalize ps.getD i (0, []) = p at h1 hb hw; obtain ⟨a, s⟩ := p; simp only at hb hw; have be := bin_e hb.1; have hE := fun h0 h1 => ends1 a s h0 h1 hb.2; have hw1 : s.length ≠ 0 → last < a → a ≤ limF b r.length → a + s.length ≤ limF b r.length → walkF (limF b r.length) (ps.drop (i + 1)) (a + s.length) = walkF (limF b r.length) ps b := fun e1 e2 e3 e4 => (by rw [← hw]; simp only [walkF]; rw [if_pos ⟨e1, e2, e3, e4⟩]); have hw0 : ¬ (s.length ≠ 0 ∧ last < a ∧ a ≤ limF b r.length ∧ a + s.length ≤ limF b r.length) → (if walkF (limF b r.length) ps b = true then (0 : Int) else 10) = 10 := fun e => (by rw [← hw]; simp only [walkF]; rw [if_neg e]; rfl); simp only [h1, ptD, Nat.zero_add, cell_zero, cell_succ, cells_agg, List.length_cons, List.length_nil]; have inl1 : True := trivial) | (have hkk : i = ps.length := (by omega); subst hkk; rw [List.drop_length] at hw; have hwz : (if walkF (limF b r.length) ps b = true then (0 : Int) else 10) = 0 := (by rw [← hw]; rfl); have h1 : True := trivial; have be : True := trivial; have out1 : True := trivial))
      | (have := inl1; refine ⟨i + 1, a + s.length, by omega, ?_, ?_, hw1 ?_ ?_ ?_ ?_, rfl⟩)
      | (exact ⟨0, b, Nat.zero_le _, by omega, by omega, rfl, rfl⟩)
      | (refine And.intro ?_ ?_)
      | (intro hx; have hprop := (show ∀ (p : Prop), p → True from fun _ _ => True.intro) _ hx; clear hprop; first | (cases hx; done) | (exfalso; revert hx; simp (disch := omega) only [decide_eq_true_eq, decide_eq_false_iff_not, Bool.not_eq_true', Bool.not_eq_false', Bool.and_eq_true, Bool.and_eq_false_iff, Int.not_lt, Int.not_le, ne_eq, not_false_eq_true, not_true_eq_false, reduceCtorEq, Bool.true_eq_false, Bool.false_eq_true, beq_iff_eq, bne_iff_ne, beq_eq_false_iff_ne, false_or, or_false, true_and, and_true, h1, be, hX.lenT, List.length_map]; done) | (simp (disch := omega) only [decide_eq_true_eq, decide_eq_false_iff_not, Bool.not_eq_true', Bool.not_eq_false', Bool.and_eq_true, Bool.and_eq_false_iff, Int.not_lt, Int.not_le, ne_eq, not_false_eq_true, not_true_eq_false, reduceCtorEq, Bool.true_eq_false, Bool.false_eq_true, beq_iff_eq, bne_iff_ne, beq_eq_false_iff_ne, false_or, or_false, true_and, and_true, h1, be, hX.lenT, List.length_map] at hx; first | (exfalso; omega) | skip) | skip)
      | trivial
      | exact fit_ofL _ _
      | (simp (disch := omega) only [notAgg_v, notAgg_sl, plain_v, fits, fitsOne, fitsCells, xsOf, cell_zero, cell_succ, List.range, List.range.loop, List.map, cond_true, cond_false, D.v.injEq, exists_eq', exists_eq, and_self, and_true, true_and, D.agg.injEq, List.length, exists_eq_left', D.sl.injEq, reduceCtorEq, false_or, true_or, or_true, or_false, cell_zero, cell_succ, cell_v, cells_v, cells_agg, List.length_cons, List.length_nil, h1, be, hX.lenT, List.length_map]; done))
    all_goals first
      | (exfalso; omega)
      | omega
      | rfl
      | exact hX.notAgg
      | exact ⟨_, rfl⟩
      | assumption
      | (simp only [leftG]; omega)
      | (rw [h1]; exact Nat.le_refl _)
      | (refine congrArg (fun t => [D.v (Value.int IntKind.i64 t)]) (hw0 ?_).symm; omega)
      | (refine congrArg (fun t => [D.v (Value.int IntKind.i64 t)]) (hwz).symm)
      | (simp; done)
      | fail

theorem vc_rcheck (x : D) (ps : List Pt) (b : Int) (r : List Int) : Cond Try.prog (fun k => if k = 5 then some ⟨[4, 3], [], [1], []⟩ else none) Try.f31 [.agg [.v (.int .i64 b), str r, x]] [.v (.int .i64 (chkF b r.length ps))] = (((∃ (cs : List D), D.agg [D.v (Value.int IntKind.i64 b), str r, x] = D.agg cs ∧ cs.length = 3) ∧ True) ∧ ∃ (r_1 : D), D.bin BinOp.lss (D.v (Value.int IntKind.i64 b)) (D.v (Value.int IntKind.i64 0)) = some r_1 ∧ ∃ (b_1 : Bool), r_1 = D.v (Value.bool b_1) ∧ (b_1 = false → ∃ (r_2 : D), D.bin BinOp.gtr (D.v (Value.int IntKind.i64 b)) (D.v (Value.int IntKind.i64 1099511627776)) = some r_2 ∧ ∃ (b_2 : Bool), r_2 = D.v (Value.bool b_2) ∧ (b_2 = false → ∃ (r_3 : D), D.lenT TypeDesc.string (str r) = some r_3 ∧ ∃ (r_4 : D), D.bin BinOp.gtr r_3 (D.v (Value.int IntKind.i64 4096)) = some r_4 ∧ ∃ (b_3 : Bool), r_4 = D.v (Value.bool b_3) ∧ (b_3 = false → ∃ (r_5 : D), D.lenT TypeDesc.string (str r) = some r_5 ∧ ∃ (r_6 : D), D.bin BinOp.gtr r_5 (D.v (Value.int IntKind.i64 b)) = some r_6 ∧ ∃ (b_4 : Bool), r_6 = D.v (Value.bool b_4) ∧ (b_4 = true → (True ∧ True) ∧ [D.v (Value.int IntKind.i64 8)] = [D.v (Value.int IntKind.i64 (chkF b r.length ps))]) ∧ (b_4 = false → ∃ (I : List D → Prop), ∃ (μ : List D → Nat), ((D.v (Value.int IntKind.i64 0) = D.v (Value.int IntKind.i64 0) ∧ D.v (Value.int IntKind.i64 b) = D.v (Value.int IntKind.i64 b) ∧ (true = true ∧ true = true) ∧ True) ∧ ((D.v (Value.int IntKind.i64 b) = D.v (Value.int IntKind.i64 b) ∧ str r = str r ∧ x = x ∧ True) ∧ True) ∧ I [D.v (Value.int IntKind.i64 0), D.v (Value.int IntKind.i64 b)]) ∧ ∀ (r_7 r_8 : D), I [r_7, r_8] → ∃ (r_9 : D), D.lenT (TypeDesc.slice 66) x = some r_9 ∧ ∃ (r_10 : D), D.bin BinOp.lss r_7 r_9 = some r_10 ∧ ∃ (b_5 : Bool), r_10 = D.v (Value.bool b_5) ∧ (b_5 = true → D.inb 2 x r_7 ∧ 0 + 2 ≤ (x.at_ r_7).cells.length ∧ ∃ (r_11 : D), D.bin BinOp.leq ((x.at_ r_7).cell (0 + 0)) r_8 = some r_11 ∧ ∃ (b_6 : Bool), r_11 = D.v (Value.bool b_6) ∧ (b_6 = false → ∃ (r_12 : D), D.bin BinOp.eql ((x.at_ r_7).cell (0 + 1)) (D.v (Value.string { data := { toList := [] } })) = some r_12 ∧ ∃ (b_7 : Bool), r_12 = D.v (Value.bool b_7) ∧ (b_7 = false → ∃ (r_13 : D), PureD Try.prog 45 [D.agg [D.v (Value.int IntKind.i64 b), str r, x]] [r_13] ∧ fits [(false, [none])] [r_13] ∧ ∃ (r_14 : D), D.bin BinOp.gtr ((x.at_ r_7).cell (0 + 0)) r_13 = some r_14 ∧ ∃ (b_8 : Bool), r_14 = D.v (Value.bool b_8) ∧ (b_8 = false → ∃ (r_15 : D), D.lenT TypeDesc.string ((x.at_ r_7).cell (0 + 1)) = some r_15 ∧ ∃ (r_16 : D), PureD Try.prog 45 [D.agg [D.v (Value.int IntKind.i64 b), str r, x]] [r_16] ∧ fits [(false, [none])] [r_16] ∧ ∃ (r_17 : D), D.bin BinOp.sub r_16 ((x.at_ r_7).cell (0 + 0)) = some r_17 ∧ ∃ (r_18 : D), D.bin BinOp.gtr r_15 r_17 = some r_18 ∧ ∃ (b_9 : Bool), r_18 = D.v (Value.bool b_9) ∧ (b_9 = true → (True ∧ True) ∧ [D.v (Value.int IntKind.i64 10)] = [D.v (Value.int IntKind.i64 (chkF b r.length ps))]) ∧ (b_9 = false → ∃ (r_19 : D), D.lenT TypeDesc.string ((x.at_ r_7).cell (0 + 1)) = some r_19 ∧ ∃ (r_20 : D), D.bin BinOp.add ((x.at_ r_7).cell (0 + 0)) r_19 = some r_20 ∧ ∃ (r_21 : D), D.bin BinOp.add r_7 (D.v (Value.int IntKind.i64 1)) = some r_21 ∧ (r_21 = r_21 ∧ r_20 = r_20 ∧ (true = true ∧ true = true) ∧ True) ∧ ((D.v (Value.int IntKind.i64 b) = D.v (Value.int IntKind.i64 b) ∧ str r = str r ∧ x = x ∧ True) ∧ True) ∧ I [r_21, r_20] ∧ μ [r_21, r_20] < μ [r_7, r_8])) ∧ (b_8 = true → (True ∧ True) ∧ [D.v (Value.int IntKind.i64 10)] = [D.v (Value.int IntKind.i64 (chkF b r.length ps))])) ∧ (b_7 = true → (True ∧ True) ∧ [D.v (Value.int IntKind.i64 10)] = [D.v (Value.int IntKind.i64 (chkF b r.length ps))])) ∧ (b_6 = true → (True ∧ True) ∧ [D.v (Value.int IntKind.i64 10)] = [D.v (Value.int IntKind.i64 (chkF b r.length ps))])) ∧ (b_5 = false → (True ∧ True) ∧ [D.v (Value.int IntKind.i64 0)] = [D.v (Value.int IntKind.i64 (chkF b r.length ps))]))) ∧ (b_3 = true → (True ∧ True) ∧ [D.v (Value.int IntKind.i64 8)] = [D.v (Value.int IntKind.i64 (chkF b r.length ps))])) ∧ (b_2 = true → (True ∧ True) ∧ [D.v (Value.int IntKind.i64 8)] = [D.v (Value.int IntKind.i64 (chkF b r.length ps))])) ∧ (b_1 = true → (True ∧ True) ∧ [D.v (Value.int IntKind.i64 8)] = [D.v (Value.int IntKind.i64 (chkF b r.length ps))])) := by kernel_rfl
set_option maxHeartbeats 8000000 in
theorem rcheck (x : D) (ps : List Pt) (b : Int) (r : List Int) (hX : IsL 2 (ps.map ptD) x) (hP : AllB ps) (hm : ps.length ≤ 100000) (hr : r.length ≤ 100000) : PureD Try.prog 31 [.agg [.v (.int .i64 b), str r, x]] [.v (.int .i64 (chkF b r.length ps))] := by
  refine pure_cond (Lp := (fun k => if k = 5 then some ⟨[4, 3], [], [1], []⟩ else none)) (by kernel_rfl) Try.func31 (by kernel_rfl) (by kernel_rfl) ?_
  rw [vc_rcheck x ps b r]
  simp only [hX.lenT, List.length_map, Option.some.injEq, exists_eq_left']
  have h1 : True := trivial
  have be : True := trivial
  cases hk : okS b r.length
  · rw [chk_no hk]
    simp only [okS, decide_eq_false_iff_not] at hk
    repeat' (first
      | (refine ex_some (by simp (disch := omega) only [bin_shr, bin_shl, bin_and, bin_or, bin_xor, len_str, toStr_ofL, bin_add, bin_sub, bin_mul, bin_quo, bin_rem, bin_lss, bin_leq, bin_gtr, bin_geq, bin_eql, bin_neq, eqs_cn, eqs_ci, eqs_cb, eqs_cs, Option.map_some, lenT_ofL, lst_ofL, lstSz_ofL, chunk_one, lst_nil, lst_sl, lstSz_sl, lstSz_nil, Bool.and_true, Bool.true_and, Bool.and_false, Bool.false_and, beq_self_eq_true, beq_bb, bne_bb, un_not, un_neg, conv_int, min2_int, max2_int, w64, w32, wu8, wu16, wu32, wu64, tdiv_nn, tmod_nn, cell_zero, cell_succ, cell_v, cells_v, cells_agg, Bool.not_true, Bool.not_false, Int.reduceLT, Int.reduceLE, Int.reduceEq, Int.reduceNeg, Int.reduceAdd, Int.reduceSub, Int.reduceMul, intOf_v, decide_true, decide_false, h1, be, hX.lenT, List.length_map]; rfl) ?_)
      | (refine ex_bool ?_)
      | (refine And.intro ?_ ?_)
      | (intro hx; have hprop := (show ∀ (p : Prop), p → True from fun _ _ => True.intro) _ hx; clear hprop; first | (cases hx; done) | (exfalso; revert hx; simp (disch := omega) only [decide_eq_true_eq, decide_eq_false_iff_not, Bool.not_eq_true', Bool.not_eq_false', Bool.and_eq_true, Bool.and_eq_false_iff, Int.not_lt, Int.not_le, ne_eq, not_false_eq_true, not_true_eq_false, reduceCtorEq, Bool.true_eq_false, Bool.false_eq_true, beq_iff_eq, bne_iff_ne, beq_eq_false_iff_ne, false_or, or_false, true_and, and_true, h1, be, hX.lenT, List.length_map]; done) | (simp (disch := omega) only [decide_eq_true_eq, decide_eq_false_iff_not, Bool.not_eq_true', Bool.not_eq_false', Bool.and_eq_true, Bool.and_eq_false_iff, Int.not_lt, Int.not_le, ne_eq, not_false_eq_true, not_true_eq_false, reduceCtorEq, Bool.true_eq_false, Bool.false_eq_true, beq_iff_eq, bne_iff_ne, beq_eq_false_iff_ne, false_or, or_false, true_and, and_true, h1, be, hX.lenT, List.length_map] at hx; first | (exfalso; omega) | skip) | skip)
      | trivial
      | exact fit_ofL _ _
      | (simp (disch := omega) only [notAgg_v, notAgg_sl, plain_v, fits, fitsOne, fitsCells, xsOf, cell_zero, cell_succ, List.range, List.range.loop, List.map, cond_true, cond_false, D.v.injEq, exists_eq', exists_eq, and_self, and_true, true_and, D.agg.injEq, List.length, exists_eq_left', D.sl.injEq, reduceCtorEq, false_or, true_or, or_true, or_false, cell_zero, cell_succ, cell_v, cells_v, cells_agg, List.length_cons, List.length_nil, h1, be, hX.lenT, List.length_map]; done))
    all_goals first
      | (exfalso; omega)
      | omega
      | rfl
      | exact hX.notAgg
      | exact ⟨_, rfl⟩
      | assumption
      | (simp only [leftG]; omega)
      | (rw [h1]; exact Nat.le_refl _)
      | (simp; done)
      | fail
  · rw [chk_yes hk]
    simp only [okS, decide_eq_true_eq] at hk
    have LM := rlimit x ps b r hX (by omega) (by omega) (by omega)
    have hlm : limF b r.length ≤ 1099511627776 := by unfold limF; omega
    repeat' (first
      | (refine ex_some (by simp (disch := omega) only [bin_shr, bin_shl, bin_and, bin_or, bin_xor, len_str, toStr_ofL, bin_add, bin_sub, bin_mul, bin_quo, bin_rem, bin_lss, bin_leq, bin_gtr, bin_geq, bin_eql, bin_neq, eqs_cn, eqs_ci, eqs_cb, eqs_cs, Option.map_some, lenT_ofL, lst_ofL, lstSz_ofL, chunk_one, lst_nil, lst_sl, lstSz_sl, lstSz_nil, Bool.and_true, Bool.true_and, Bool.and_false, Bool.false_and, beq_self_eq_true, beq_bb, bne_bb, un_not, un_neg, conv_int, min2_int, max2_int, w64, w32, wu8, wu16, wu32, wu64, tdiv_nn, tmod_nn, cell_zero, cell_succ, cell_v, cells_v, cells_agg, Bool.not_true, Bool.not_false, Int.reduceLT, Int.reduceLE, Int.reduceEq, Int.reduceNeg, Int.reduceAdd, Int.reduceSub, Int.reduceMul, intOf_v, decide_true, decide_false, h1, be, hX.lenT, List.length_map]; rfl) ?_)
      | (refine ex_bool ?_)
      | (refine ⟨_, LM, ?_⟩)
      | (refine ⟨_, hE ?_ ?_, ?_⟩)
      | (exact i1)
      | (refine ⟨(fun r3 => ∃ (i : Nat) (last : Int), i ≤ ps.length ∧ 0 ≤ last ∧ last ≤ 1099511627776 ∧ walkF (limF b r.length) (ps.drop i) last = walkF (limF b r.length) ps b ∧ r3 = [.v (.int .i64 (i : Nat)), .v (.int .i64 last)]), leftG ps.length, ?_⟩)
      | (refine fun (r2 r3 : D) (hI : (fun r3 => ∃ (i : Nat) (last : Int), i ≤ ps.length ∧ 0 ≤ last ∧ last ≤ 1099511627776 ∧ walkF (limF b r.length) (ps.drop i) last = walkF (limF b r.length) ps b ∧ r3 = [.v (.int .i64 (i : Nat)), .v (.int .i64 last)]) [r2, r3]) => ?_; obtain ⟨i, last, hi, hl1, hl2, hw, hl0⟩ := hI; simp only [List.cons.injEq, and_true] at hl0; obtain ⟨rfl, rfl⟩ := hl0; by_cases hlt : i < ps.length <;> first | (have hk1 : i < ps.length := (by omega); have h1 := pt_get hX hk1; have i1 := pt_inb hX hk1; have hb := pt_in hP hk1; rw [drop_at (d := (0, [])) hk1] at hw; generalize ps.getD i (0, []) = p at h1 hb hw; obtain ⟨a, s⟩ := p; simp only at hb hw; have be := bin_e hb.1; have hE := fun h0 h1 => ends1 a s h0 h1 hb.2; have hw1 : s.length ≠ 0 → last < a → a ≤ limF b r.length → a + s.length ≤ limF b r.length → walkF (limF b r.length) (ps.drop (i + 1)) (a + s.length) = walkF (limF b r.length) ps b := fun e1 e2 e3 e4 => (by rw [← hw]; simp only [walkF]; rw [if_pos ⟨e1, e2, e3, e4⟩]); have hw0 : ¬ (s.length ≠ 0 ∧ last < a ∧ a ≤ limF b r.length ∧ a + s.length ≤ limF b r.length) → (if walkF (limF b r.length) ps b = true then (0 : Int) else 10) = 10 := fun e => (by rw [← hw]; simp only [walkF]; rw [if_neg e]; rfl); simp only [h1, ptD, Nat.zero_add, cell_zero, cell_succ, cells_agg, List.length_cons, List.length_nil]; have inl1 : True := trivial) | (have hkk : i = ps.length := (by omega); subst hkk; rw [List.drop_length] at hw; have hwz : (if walkF (limF b r.length) ps b = true then (0 : Int) else 10) = 0 := (by rw [← hw]; rfl); have h1 : True := trivial; have be : True := trivial; have out1 : True := trivial))
      | (have := inl1; refine ⟨i + 1, a + s.length, by omega, ?_, ?_, hw1 ?_ ?_ ?_ ?_, rfl⟩)
      | (exact ⟨0, b, Nat.zero_le _, by omega, by omega, rfl, rfl⟩)
      | (refine And.intro ?_ ?_)
      | (intro hx; have hprop := (show ∀ (p : Prop), p → True from fun _ _ => True.intro) _ hx; clear hprop; first | (cases hx; done) | (exfalso; revert hx; simp (disch := omega) only [decide_eq_true_eq, decide_eq_false_iff_not, Bool.not_eq_true', Bool.not_eq_false', Bool.and_eq_true, Bool.and_eq_false_iff, Int.not_lt, Int.not_le, ne_eq, not_false_eq_true, not_true_eq_false, reduceCtorEq, Bool.true_eq_false, Bool.false_eq_true, beq_iff_eq, bne_iff_ne, beq_eq_false_iff_ne, false_or, or_false, true_and, and_true, h1, be, hX.lenT, List.length_map]; done) | (simp (disch := omega) only [decide_eq_true_eq, decide_eq_false_iff_not, Bool.not_eq_true', Bool.not_eq_false', Bool.and_eq_true, Bool.and_eq_false_iff, Int.not_lt, Int.not_le, ne_eq, not_false_eq_true, not_true_eq_false, reduceCtorEq, Bool.true_eq_false, Bool.false_eq_true, beq_iff_eq, bne_iff_ne, beq_eq_false_iff_ne, false_or, or_false, true_and, and_true, h1, be, hX.lenT, List.length_map] at hx; first | (exfalso; omega) | skip) | skip)
      | trivial
      | exact fit_ofL _ _
      | (simp (disch := omega) only [notAgg_v, notAgg_sl, plain_v, fits, fitsOne, fitsCells, xsOf, cell_zero, cell_succ, List.range, List.range.loop, List.map, cond_true, cond_false, D.v.injEq, exists_eq', exists_eq, and_self, and_true, true_and, D.agg.injEq, List.length, exists_eq_left', D.sl.injEq, reduceCtorEq, false_or, true_or, or_true, or_false, cell_zero, cell_succ, cell_v, cells_v, cells_agg, List.length_cons, List.length_nil, h1, be, hX.lenT, List.length_map]; done))
    all_goals first
      | (exfalso; omega)
      | omega
      | rfl
      | exact hX.notAgg
      | exact ⟨_, rfl⟩
      | assumption
      | (simp only [leftG]; omega)
      | (rw [h1]; exact Nat.le_refl _)
      | (refine congrArg (fun t => [D.v (Value.int IntKind.i64 t)]) (hw0 ?_).symm; omega)
      | (refine congrArg (fun t => [D.v (Value.int IntKind.i64 t)]) (hwz).symm)
      | (simp; done)
      | fail

end Go.Proofs.Ytjdemohgegldaaa