/-
  Layer 12: the same; copies.
-/
import Derived.Test.YtjdemohgegldaaaT1
import Derived.Test.YtjdemohgegldaaaT2
namespace Go.Proofs.Ytjdemohgegldaaa
open Go.RowKit
set_option linter.unusedSimpArgs false
set_option linter.unusedVariables false


def ptB (a b : List Pt) : Bool := decide (a = b)
theorem take_eqP {a b : List Pt} {k : Nat} (hk : k < a.length) (hl : a.length = b.length) (h : a.take k = b.take k) : a.take (k + 1) = b.take (k + 1) ↔ a.getD k (0, []) = b.getD k (0, []) := by
  rw [List.take_succ_eq_append_getElem hk, List.take_succ_eq_append_getElem (l := b) (by omega), h]
  have hk2 : k < b.length := by omega
  rw [List.append_right_inj]
  simp [List.getD, hk, hk2]
theorem eqs_ct (ks : List EqK) (a b : List Int) (xs ys : List D) : eqs (.s :: ks) (str a :: xs) (str b :: ys) = (eqs ks xs ys).map (((mkStr a).toList == (mkStr b).toList) && ·) := eqs_cs ks _ _ xs ys
theorem cb {a b : Bool} (h : b = a) : [D.v (.bool a)] = [D.v (.bool b)] := by rw [h]
def sameS (a b : Int) (r t : List Int) (ps qs : List Pt) : Bool := decide (a = b) && decide (r = t) && ptB ps qs
theorem pts_plain (l : List Pt) : ∀ c ∈ flat (l.map ptD), ∃ y, c = .v y := by
  intro c hc
  induction l with
  | nil => simp [flat] at hc
  | cons z l ih =>
    simp only [List.map_cons, flat, List.flatMap_cons, ptD, D.cells, List.mem_append, List.mem_cons, List.not_mem_nil, or_false] at hc ih
    rcases hc with (rfl | rfl) | hc
    · exact ⟨_, rfl⟩
    · exact ⟨_, rfl⟩
    · exact ih hc
theorem fitP {x : D} {ps : List Pt} (h : IsL 2 (ps.map ptD) x) : x = .v nilS ∨ ∃ es, x = .sl 2 es := by rcases h with rfl | ⟨rfl, _⟩; exact .inr ⟨_, rfl⟩; exact .inl rfl
theorem plainP {x : D} {ps : List Pt} (h : IsL 2 (ps.map ptD) x) : PlainD x := by rcases h with rfl | ⟨rfl, _⟩; exact plain_sl (pts_plain _); exact plain_v _

theorem vc_equal (x y : D) (a b : List Pt) : Cond Try.prog (fun k => if k = 4 then some ⟨[13], [], [0, 1, 12], []⟩ else none) Try.f46 [x, y] [.v (.bool (ptB a b))] = ((NotAgg x ∧ NotAgg y ∧ True) ∧ ∃ (r : D), D.lenT (TypeDesc.slice 67) x = some r ∧ ∃ (r_1 : D), D.lenT (TypeDesc.slice 67) y = some r_1 ∧ ∃ (r_2 : D), D.bin BinOp.neq r r_1 = some r_2 ∧ ∃ (b_1 : Bool), r_2 = D.v (Value.bool b_1) ∧ (b_1 = true → (True ∧ True) ∧ [D.v (Value.bool false)] = [D.v (Value.bool (ptB a b))]) ∧ (b_1 = false → ∃ (r : D), D.lenT (TypeDesc.slice 67) x = some r ∧ ∃ (I : List D → Prop), ∃ (μ : List D → Nat), ((D.v (Value.int IntKind.i64 0) = D.v (Value.int IntKind.i64 0) ∧ x = x ∧ y = y ∧ r = r ∧ True) ∧ True ∧ I [D.v (Value.int IntKind.i64 0)]) ∧ ∀ (r_3 : D), I [r_3] → ∃ (r_4 : D), D.bin BinOp.lss r_3 r = some r_4 ∧ ∃ (b_2 : Bool), r_4 = D.v (Value.bool b_2) ∧ (b_2 = true → D.inb 2 x r_3 ∧ 0 + 2 ≤ (x.at_ r_3).cells.length ∧ D.inb 2 y r_3 ∧ 0 + 2 ≤ (y.at_ r_3).cells.length ∧ ∃ (r_5 : Bool), eqs [EqK.i, EqK.s] [(x.at_ r_3).cell (0 + 0), (x.at_ r_3).cell (0 + 1)] [(y.at_ r_3).cell (0 + 0), (y.at_ r_3).cell (0 + 1)] = some r_5 ∧ ∃ (b_3 : Bool), D.v (Value.bool (match r_5 with | true => false | false => true)) = D.v (Value.bool b_3) ∧ (b_3 = true → (True ∧ True) ∧ [D.v (Value.bool false)] = [D.v (Value.bool (ptB a b))]) ∧ (b_3 = false → ∃ (r_6 : D), D.bin BinOp.add r_3 (D.v (Value.int IntKind.i64 1)) = some r_6 ∧ (r_6 = r_6 ∧ x = x ∧ y = y ∧ r = r ∧ True) ∧ True ∧ I [r_6] ∧ μ [r_6] < μ [r_3])) ∧ (b_2 = false → (True ∧ True) ∧ [D.v (Value.bool true)] = [D.v (Value.bool (ptB a b))]))) := by kernel_rfl
set_option maxHeartbeats 4000000 in
theorem equal (x y : D) (a b : List Pt) (hX : IsL 2 (a.map ptD) x) (hY : IsL 2 (b.map ptD) y) (ha : a.length ≤ 100000) (hb : b.length ≤ 100000) (hP : AllB a) (hQ : AllB b) : PureD Try.prog 46 [x, y] [.v (.bool (ptB a b))] := by
  refine pure_cond (Lp := (fun k => if k = 4 then some ⟨[13], [], [0, 1, 12], []⟩ else none)) (by kernel_rfl) Try.func46 (by kernel_rfl) (by kernel_rfl) ?_
  rw [vc_equal x y a b]
  simp only [hX.lenT, hY.lenT, List.length_map, Option.some.injEq, exists_eq_left']
  have h1 : True := trivial
  have h2 : True := trivial
  have hs : True := trivial
  by_cases hl : a.length = b.length
  · have d1 : True := trivial
    repeat' (first
      | (refine ex_some (by simp (disch := omega) only [bin_shr, bin_shl, bin_and, bin_or, bin_xor, len_str, toStr_ofL, bin_add, bin_sub, bin_mul, bin_quo, bin_rem, bin_lss, bin_leq, bin_gtr, bin_geq, bin_eql, bin_neq, eqs_cn, eqs_ci, eqs_cb, eqs_cs, Option.map_some, lenT_ofL, lst_ofL, lstSz_ofL, chunk_one, lst_nil, lst_sl, lstSz_sl, lstSz_nil, Bool.and_true, Bool.true_and, Bool.and_false, Bool.false_and, beq_self_eq_true, beq_bb, bne_bb, un_not, un_neg, conv_int, min2_int, max2_int, w64, w32, wu8, wu16, wu32, wu64, tdiv_nn, tmod_nn, cell_zero, cell_succ, cell_v, cells_v, cells_agg, Bool.not_true, Bool.not_false, Int.reduceLT, Int.reduceLE, Int.reduceEq, Int.reduceNeg, Int.reduceAdd, Int.reduceSub, Int.reduceMul, intOf_v, decide_true, decide_false, h1, h2, hs, eqs_ct, hX.lenT, hY.lenT, List.length_map]; rfl) ?_)
      | (refine ex_bool ?_)
      | (exact i1)
      | (exact i2)
      | (refine ⟨(fun r => ∃ k : Nat, k ≤ a.length ∧ a.take k = b.take k ∧ r = [.v (.int .i64 (k : Nat))]), leftG a.length, ?_⟩)
      | (refine fun (r4 : D) (hI : (fun r => ∃ k : Nat, k ≤ a.length ∧ a.take k = b.take k ∧ r = [.v (.int .i64 (k : Nat))]) [r4]) => ?_; obtain ⟨k, hk, hek, hl0⟩ := hI; simp only [List.cons.injEq, and_true] at hl0; subst hl0; by_cases hlt : k < a.length <;> first | (have hk1 : k < a.length := (by omega); have h1 := pt_get hX hk1; have h2 := pt_get hY (k := k) (by omega); have i1 := pt_inb hX hk1; have i2 := pt_inb hY (k := k) (by omega); have b1 := pt_in hP hk1; have b2 := pt_in hQ (k := k) (by omega); have hst := take_eqP hk1 hl hek; generalize a.getD k (0, []) = z at h1 hst b1; generalize b.getD k (0, []) = y at h2 hst b2; obtain ⟨p, q⟩ := z; obtain ⟨p2, q2⟩ := y; simp only at b1 b2; have hs := eq_str b1.1 b2.1; simp only [h1, h2, ptD, Nat.zero_add, cell_zero, cell_succ, cells_agg, List.length_cons, List.length_nil]; have n0 : (p == p2 && decide (q = q2)) = false → ptB a b = false := fun h => (by unfold ptB; rw [decide_eq_false_iff_not]; intro e; subst e; have e := hst.1 rfl; simp only [Prod.mk.injEq] at e; rw [e.1, e.2] at h; simp at h); have n1 : (p == p2 && decide (q = q2)) = true → a.take (k + 1) = b.take (k + 1) := fun h => (by simp only [Bool.and_eq_true, beq_iff_eq, decide_eq_true_eq] at h; exact hst.2 (by rw [h.1, h.2])); have inl1 : True := trivial) | (have hkk : k = a.length := (by omega); subst hkk; rw [List.take_length, hl, List.take_length] at hek; have hh : ptB a b = true := (by unfold ptB; rw [hek]; simp); rw [hh]; have h1 : True := trivial; have h2 : True := trivial; have hs : True := trivial; have out1 : True := trivial))
      | (have := inl1; refine ⟨k + 1, by omega, n1 ?_, rfl⟩)
      | (exact ⟨0, by omega, rfl, rfl⟩)
      | (refine And.intro ?_ ?_)
      | (intro hx; have hprop := (show ∀ (p : Prop), p → True from fun _ _ => True.intro) _ hx; clear hprop; first | (cases hx; done) | (exfalso; revert hx; simp (disch := omega) only [decide_eq_true_eq, decide_eq_false_iff_not, Bool.not_eq_true', Bool.not_eq_false', Bool.and_eq_true, Bool.and_eq_false_iff, Int.not_lt, Int.not_le, ne_eq, not_false_eq_true, not_true_eq_false, reduceCtorEq, Bool.true_eq_false, Bool.false_eq_true, beq_iff_eq, bne_iff_ne, beq_eq_false_iff_ne, false_or, or_false, true_and, and_true, h1, h2, hs, eqs_ct, hX.lenT, hY.lenT, List.length_map]; done) | (simp (disch := omega) only [decide_eq_true_eq, decide_eq_false_iff_not, Bool.not_eq_true', Bool.not_eq_false', Bool.and_eq_true, Bool.and_eq_false_iff, Int.not_lt, Int.not_le, ne_eq, not_false_eq_true, not_true_eq_false, reduceCtorEq, Bool.true_eq_false, Bool.false_eq_true, beq_iff_eq, bne_iff_ne, beq_eq_false_iff_ne, false_or, or_false, true_and, and_true, h1, h2, hs, eqs_ct, hX.lenT, hY.lenT, List.length_map] at hx; first | (exfalso; omega) | skip) | skip)
      | trivial
      | exact fit_ofL _ _
      | (simp (disch := omega) only [notAgg_v, notAgg_sl, plain_v, fits, fitsOne, fitsCells, xsOf, cell_zero, cell_succ, List.range, List.range.loop, List.map, cond_true, cond_false, D.v.injEq, exists_eq', exists_eq, and_self, and_true, true_and, D.agg.injEq, List.length, exists_eq_left', D.sl.injEq, reduceCtorEq, false_or, true_or, or_true, or_false, cell_zero, cell_succ, cell_v, cells_v, cells_agg, List.length_cons, List.length_nil, h1, h2, hs, eqs_ct, hX.lenT, hY.lenT, List.length_map]; done))
    all_goals first
      | (exfalso; omega)
      | omega
      | rfl
      | exact hX.notAgg
      | exact hY.notAgg
      | exact ⟨_, rfl⟩
      | assumption
      | (simp only [leftG]; omega)
      | (rw [h1]; exact Nat.le_refl _)
      | (rw [h2]; exact Nat.le_refl _)
      | (refine cb (n0 ?_); revert hx; cases (p == p2 && decide (q = q2)) <;> simp; done)
      | (revert hx; cases (p == p2 && decide (q = q2)) <;> simp; done)
      | (simp; done)
      | fail
  · have hh : ptB a b = false := by unfold ptB; rw [decide_eq_false_iff_not]; intro e; exact hl (by rw [e])
    rw [hh]
    repeat' (first
      | (refine ex_some (by simp (disch := omega) only [bin_shr, bin_shl, bin_and, bin_or, bin_xor, len_str, toStr_ofL, bin_add, bin_sub, bin_mul, bin_quo, bin_rem, bin_lss, bin_leq, bin_gtr, bin_geq, bin_eql, bin_neq, eqs_cn, eqs_ci, eqs_cb, eqs_cs, Option.map_some, lenT_ofL, lst_ofL, lstSz_ofL, chunk_one, lst_nil, lst_sl, lstSz_sl, lstSz_nil, Bool.and_true, Bool.true_and, Bool.and_false, Bool.false_and, beq_self_eq_true, beq_bb, bne_bb, un_not, un_neg, conv_int, min2_int, max2_int, w64, w32, wu8, wu16, wu32, wu64, tdiv_nn, tmod_nn, cell_zero, cell_succ, cell_v, cells_v, cells_agg, Bool.not_true, Bool.not_false, Int.reduceLT, Int.reduceLE, Int.reduceEq, Int.reduceNeg, Int.reduceAdd, Int.reduceSub, Int.reduceMul, intOf_v, decide_true, decide_false, hX.lenT, hY.lenT, List.length_map]; rfl) ?_)
      | (refine ex_bool ?_)
      | (refine And.intro ?_ ?_)
      | (intro hx; have hprop := (show ∀ (p : Prop), p → True from fun _ _ => True.intro) _ hx; clear hprop; first | (cases hx; done) | (exfalso; revert hx; simp (disch := omega) only [decide_eq_true_eq, decide_eq_false_iff_not, Bool.not_eq_true', Bool.not_eq_false', Bool.and_eq_true, Bool.and_eq_false_iff, Int.not_lt, Int.not_le, ne_eq, not_false_eq_true, not_true_eq_false, reduceCtorEq, Bool.true_eq_false, Bool.false_eq_true, beq_iff_eq, bne_iff_ne, beq_eq_false_iff_ne, false_or, or_false, true_and, and_true, hX.lenT, hY.lenT, List.length_map]; done) | (simp (disch := omega) only [decide_eq_true_eq, decide_eq_false_iff_not, Bool.not_eq_true', Bool.not_eq_false', Bool.and_eq_true, Bool.and_eq_false_iff, Int.not_lt, Int.not_le, ne_eq, not_false_eq_true, not_true_eq_false, reduceCtorEq, Bool.true_eq_false, Bool.false_eq_true, beq_iff_eq, bne_iff_ne, beq_eq_false_iff_ne, false_or, or_false, true_and, and_true, hX.lenT, hY.lenT, List.length_map] at hx; first | (exfalso; omega) | skip) | skip)
      | trivial
      | exact fit_ofL _ _
      | (simp (disch := omega) only [notAgg_v, notAgg_sl, plain_v, fits, fitsOne, fitsCells, xsOf, cell_zero, cell_succ, List.range, List.range.loop, List.map, cond_true, cond_false, D.v.injEq, exists_eq', exists_eq, and_self, and_true, true_and, D.agg.injEq, List.length, exists_eq_left', D.sl.injEq, reduceCtorEq, false_or, true_or, or_true, or_false, cell_zero, cell_succ, cell_v, cells_v, cells_agg, List.length_cons, List.length_nil, hX.lenT, hY.lenT, List.length_map]; done))
    all_goals first | (exfalso; omega) | exact hX.notAgg | exact hY.notAgg | rfl | fail

theorem vc_same (x y : D) (a b : List Pt) (u v : Int) (s t : List Int) : Cond Try.prog (fun _ => none) Try.f36 [.agg [.v (.int .i64 u), str s, x], .agg [.v (.int .i64 v), str t, y]] [.v (.bool (sameS u v s t a b))] = (((∃ (cs : List D), D.agg [D.v (Value.int IntKind.i64 u), str s, x] = D.agg cs ∧ cs.length = 3) ∧ (∃ (cs : List D), D.agg [D.v (Value.int IntKind.i64 v), str t, y] = D.agg cs ∧ cs.length = 3) ∧ True) ∧ ∃ (r : D), D.bin BinOp.eql (D.v (Value.int IntKind.i64 u)) (D.v (Value.int IntKind.i64 v)) = some r ∧ ∃ (b_1 : Bool), r = D.v (Value.bool b_1) ∧ (b_1 = true → ∃ (r : D), D.bin BinOp.eql (str s) (str t) = some r ∧ ∃ (b_2 : Bool), r = D.v (Value.bool b_2) ∧ (b_2 = true → ∃ (r : D), PureD Try.prog 46 [x, y] [r] ∧ fits [(false, [none])] [r] ∧ ((∃ (y : Value), r = D.v y) ∧ True) ∧ [r] = [D.v (Value.bool (sameS u v s t a b))]) ∧ (b_2 = false → (True ∧ True) ∧ [D.v (Value.bool false)] = [D.v (Value.bool (sameS u v s t a b))])) ∧ (b_1 = false → (True ∧ True) ∧ [D.v (Value.bool false)] = [D.v (Value.bool (sameS u v s t a b))])) := by kernel_rfl
set_option maxHeartbeats 4000000 in
theorem same (x y : D) (a b : List Pt) (u v : Int) (s t : List Int) (hX : IsL 2 (a.map ptD) x) (hY : IsL 2 (b.map ptD) y) (ha : a.length ≤ 100000) (hb : b.length ≤ 100000) (hP : AllB a) (hQ : AllB b) (hs1 : Bytes s) (ht1 : Bytes t) : PureD Try.prog 36 [.agg [.v (.int .i64 u), str s, x], .agg [.v (.int .i64 v), str t, y]] [.v (.bool (sameS u v s t a b))] := by
  refine pure_cond (Lp := (fun _ => none)) (by kernel_rfl) Try.func36 (by kernel_rfl) (by kernel_rfl) ?_
  rw [vc_same x y a b u v s t]
  have E := equal x y a b hX hY ha hb hP hQ
  have hq := bin_seql hs1 ht1
  unfold sameS
  by_cases e1 : u = v <;> by_cases e2 : s = t
  all_goals simp only [e1, e2, decide_true, decide_false, Bool.true_and, Bool.false_and, Bool.and_true, Bool.and_false] at hq ⊢
  repeat' (first
    | (refine ex_some (by simp (disch := omega) only [bin_shr, bin_shl, bin_and, bin_or, bin_xor, len_str, toStr_ofL, bin_add, bin_sub, bin_mul, bin_quo, bin_rem, bin_lss, bin_leq, bin_gtr, bin_geq, bin_eql, bin_neq, eqs_cn, eqs_ci, eqs_cb, eqs_cs, Option.map_some, lenT_ofL, lst_ofL, lstSz_ofL, chunk_one, lst_nil, lst_sl, lstSz_sl, lstSz_nil, Bool.and_true, Bool.true_and, Bool.and_false, Bool.false_and, beq_self_eq_true, beq_bb, bne_bb, un_not, un_neg, conv_int, min2_int, max2_int, w64, w32, wu8, wu16, wu32, wu64, tdiv_nn, tmod_nn, cell_zero, cell_succ, cell_v, cells_v, cells_agg, Bool.not_true, Bool.not_false, Int.reduceLT, Int.reduceLE, Int.reduceEq, Int.reduceNeg, Int.reduceAdd, Int.reduceSub, Int.reduceMul, intOf_v, decide_true, decide_false, hq]; rfl) ?_)
    | (refine ex_bool ?_)
    | (refine ⟨_, E, ?_⟩)
    | (refine And.intro ?_ ?_)
    | (intro hx; have hprop := (show ∀ (p : Prop), p → True from fun _ _ => True.intro) _ hx; clear hprop; first | (cases hx; done) | (exfalso; revert hx; simp (disch := omega) only [decide_eq_true_eq, decide_eq_false_iff_not, Bool.not_eq_true', Bool.not_eq_false', Bool.and_eq_true, Bool.and_eq_false_iff, Int.not_lt, Int.not_le, ne_eq, not_false_eq_true, not_true_eq_false, reduceCtorEq, Bool.true_eq_false, Bool.false_eq_true, beq_iff_eq, bne_iff_ne, beq_eq_false_iff_ne, false_or, or_false, true_and, and_true, hq]; done) | (simp (disch := omega) only [decide_eq_true_eq, decide_eq_false_iff_not, Bool.not_eq_true', Bool.not_eq_false', Bool.and_eq_true, Bool.and_eq_false_iff, Int.not_lt, Int.not_le, ne_eq, not_false_eq_true, not_true_eq_false, reduceCtorEq, Bool.true_eq_false, Bool.false_eq_true, beq_iff_eq, bne_iff_ne, beq_eq_false_iff_ne, false_or, or_false, true_and, and_true, hq] at hx; first | (exfalso; omega) | skip) | skip)
    | trivial
    | exact fit_ofL _ _
    | (simp (disch := omega) only [notAgg_v, notAgg_sl, plain_v, fits, fitsOne, fitsCells, xsOf, cell_zero, cell_succ, List.range, List.range.loop, List.map, cond_true, cond_false, D.v.injEq, exists_eq', exists_eq, and_self, and_true, true_and, D.agg.injEq, List.length, exists_eq_left', D.sl.injEq, reduceCtorEq, false_or, true_or, or_true, or_false, cell_zero, cell_succ, cell_v, cells_v, cells_agg, List.length_cons, List.length_nil, hq]; done))
  all_goals first | (exfalso; omega) | exact hX.notAgg | exact hY.notAgg | exact ⟨_, rfl⟩ | rfl | assumption | (simp_all; done) | fail

theorem vc_clone (x : D) (ps : List Pt) : Cond Try.prog (fun _ => none) Try.f47 [x] [x] = ((NotAgg x ∧ True) ∧ ∃ (r : Bool), x.isNil = some r ∧ ∃ (b : Bool), D.v (Value.bool r) = D.v (Value.bool b) ∧ (b = true → (PlainD (D.v nilS) ∧ True) ∧ [D.v nilS] = [x]) ∧ (b = false → ∃ (ls : List D), (D.sl 2 (chunks true 2 0 [])).lst = some ls ∧ ∃ (lx : List D), D.lstSz 2 x = some lx ∧ (ls.length + lx.length) * 24 ≤ 1099511627776 ∧ (PlainD (D.app 2 (D.sl 2 (chunks true 2 0 [])) lx) ∧ True) ∧ [D.app 2 (D.sl 2 (chunks true 2 0 [])) lx] = [x])) := by kernel_rfl
theorem clone (x : D) (ps : List Pt) (hX : IsL 2 (ps.map ptD) x) (hm : ps.length ≤ 100000) : PureD Try.prog 47 [x] [x] := by
  refine pure_cond (Lp := (fun _ => none)) (by kernel_rfl) Try.func47 (by kernel_rfl) (by kernel_rfl) ?_
  rw [vc_clone x ps]
  rcases hX with rfl | ⟨rfl, h0⟩
  · repeat' (first
      | (refine ex_some (by simp (disch := omega) only [bin_shr, bin_shl, bin_and, bin_or, bin_xor, len_str, toStr_ofL, bin_add, bin_sub, bin_mul, bin_quo, bin_rem, bin_lss, bin_leq, bin_gtr, bin_geq, bin_eql, bin_neq, eqs_cn, eqs_ci, eqs_cb, eqs_cs, Option.map_some, lenT_ofL, lst_ofL, lstSz_ofL, chunk_one, lst_nil, lst_sl, lstSz_sl, lstSz_nil, Bool.and_true, Bool.true_and, Bool.and_false, Bool.false_and, beq_self_eq_true, beq_bb, bne_bb, un_not, un_neg, conv_int, min2_int, max2_int, w64, w32, wu8, wu16, wu32, wu64, tdiv_nn, tmod_nn, cell_zero, cell_succ, cell_v, cells_v, cells_agg, Bool.not_true, Bool.not_false, Int.reduceLT, Int.reduceLE, Int.reduceEq, Int.reduceNeg, Int.reduceAdd, Int.reduceSub, Int.reduceMul, intOf_v, decide_true, decide_false]; rfl) ?_)
      | (refine ex_bool ?_)
      | (refine ex_some rfl ?_)
      | (refine And.intro ?_ ?_)
      | (intro hx; have hprop := (show ∀ (p : Prop), p → True from fun _ _ => True.intro) _ hx; clear hprop; first | (cases hx; done) | (exfalso; revert hx; simp (disch := omega) only [decide_eq_true_eq, decide_eq_false_iff_not, Bool.not_eq_true', Bool.not_eq_false', Bool.and_eq_true, Bool.and_eq_false_iff, Int.not_lt, Int.not_le, ne_eq, not_false_eq_true, not_true_eq_false, reduceCtorEq, Bool.true_eq_false, Bool.false_eq_true, beq_iff_eq, bne_iff_ne, beq_eq_false_iff_ne, false_or, or_false, true_and, and_true]; done) | (simp (disch := omega) only [decide_eq_true_eq, decide_eq_false_iff_not, Bool.not_eq_true', Bool.not_eq_false', Bool.and_eq_true, Bool.and_eq_false_iff, Int.not_lt, Int.not_le, ne_eq, not_false_eq_true, not_true_eq_false, reduceCtorEq, Bool.true_eq_false, Bool.false_eq_true, beq_iff_eq, bne_iff_ne, beq_eq_false_iff_ne, false_or, or_false, true_and, and_true] at hx; first | (exfalso; omega) | skip) | skip)
      | trivial
      | exact fit_ofL _ _
      | (simp (disch := omega) only [notAgg_v, notAgg_sl, plain_v, fits, fitsOne, fitsCells, xsOf, cell_zero, cell_succ, List.range, List.range.loop, List.map, cond_true, cond_false, D.v.injEq, exists_eq', exists_eq, and_self, and_true, true_and, D.agg.injEq, List.length, exists_eq_left', D.sl.injEq, reduceCtorEq, false_or, true_or, or_true, or_false, cell_zero, cell_succ, cell_v, cells_v, cells_agg, List.length_cons, List.length_nil]; done))
    all_goals first | (exfalso; omega) | omega | exact plain_sl (pts_plain _) | exact .inr ⟨_, rfl⟩ | (rw [List.length_map]; show (0 + ps.length) * 24 ≤ _; omega) | exact ⟨_, rfl⟩ | rfl | (simp; done) | fail
  · repeat' (first
      | (refine ex_some (by simp (disch := omega) only [bin_shr, bin_shl, bin_and, bin_or, bin_xor, len_str, toStr_ofL, bin_add, bin_sub, bin_mul, bin_quo, bin_rem, bin_lss, bin_leq, bin_gtr, bin_geq, bin_eql, bin_neq, eqs_cn, eqs_ci, eqs_cb, eqs_cs, Option.map_some, lenT_ofL, lst_ofL, lstSz_ofL, chunk_one, lst_nil, lst_sl, lstSz_sl, lstSz_nil, Bool.and_true, Bool.true_and, Bool.and_false, Bool.false_and, beq_self_eq_true, beq_bb, bne_bb, un_not, un_neg, conv_int, min2_int, max2_int, w64, w32, wu8, wu16, wu32, wu64, tdiv_nn, tmod_nn, cell_zero, cell_succ, cell_v, cells_v, cells_agg, Bool.not_true, Bool.not_false, Int.reduceLT, Int.reduceLE, Int.reduceEq, Int.reduceNeg, Int.reduceAdd, Int.reduceSub, Int.reduceMul, intOf_v, decide_true, decide_false]; rfl) ?_)
      | (refine ex_bool ?_)
      | (refine ex_some rfl ?_)
      | (refine And.intro ?_ ?_)
      | (intro hx; have hprop := (show ∀ (p : Prop), p → True from fun _ _ => True.intro) _ hx; clear hprop; first | (cases hx; done) | (exfalso; revert hx; simp (disch := omega) only [decide_eq_true_eq, decide_eq_false_iff_not, Bool.not_eq_true', Bool.not_eq_false', Bool.and_eq_true, Bool.and_eq_false_iff, Int.not_lt, Int.not_le, ne_eq, not_false_eq_true, not_true_eq_false, reduceCtorEq, Bool.true_eq_false, Bool.false_eq_true, beq_iff_eq, bne_iff_ne, beq_eq_false_iff_ne, false_or, or_false, true_and, and_true]; done) | (simp (disch := omega) only [decide_eq_true_eq, decide_eq_false_iff_not, Bool.not_eq_true', Bool.not_eq_false', Bool.and_eq_true, Bool.and_eq_false_iff, Int.not_lt, Int.not_le, ne_eq, not_false_eq_true, not_true_eq_false, reduceCtorEq, Bool.true_eq_false, Bool.false_eq_true, beq_iff_eq, bne_iff_ne, beq_eq_false_iff_ne, false_or, or_false, true_and, and_true] at hx; first | (exfalso; omega) | skip) | skip)
      | trivial
      | exact fit_ofL _ _
      | (simp (disch := omega) only [notAgg_v, notAgg_sl, plain_v, fits, fitsOne, fitsCells, xsOf, cell_zero, cell_succ, List.range, List.range.loop, List.map, cond_true, cond_false, D.v.injEq, exists_eq', exists_eq, and_self, and_true, true_and, D.agg.injEq, List.length, exists_eq_left', D.sl.injEq, reduceCtorEq, false_or, true_or, or_true, or_false, cell_zero, cell_succ, cell_v, cells_v, cells_agg, List.length_cons, List.length_nil]; done))
    all_goals first | (exfalso; omega) | omega | exact .inl rfl | exact plain_v _ | rfl | exact ⟨_, rfl⟩ | (simp; done) | fail

theorem vc_kept (x : D) (ps : List Pt) (b : Int) (r : List Int) : Cond Try.prog (fun _ => none) Try.f38 [.agg [.v (.int .i64 b), str r, x]] [.agg [.v (.int .i64 b), str r, x]] = (((∃ (cs : List D), D.agg [D.v (Value.int IntKind.i64 b), str r, x] = D.agg cs ∧ cs.length = 3) ∧ True) ∧ ∃ (r_1 : D), PureD Try.prog 47 [x] [r_1] ∧ fits [(false, [some 2])] [r_1] ∧ ((∃ (y : Value), D.v (Value.int IntKind.i64 b) = D.v y) ∧ (∃ (y : Value), str r = D.v y) ∧ PlainD r_1 ∧ True) ∧ [D.agg [D.v (Value.int IntKind.i64 b), str r, r_1]] = [D.agg [D.v (Value.int IntKind.i64 b), str r, x]]) := by kernel_rfl
theorem kept (x : D) (ps : List Pt) (b : Int) (r : List Int) (hX : IsL 2 (ps.map ptD) x) (hm : ps.length ≤ 100000) : PureD Try.prog 38 [.agg [.v (.int .i64 b), str r, x]] [.agg [.v (.int .i64 b), str r, x]] := by
  refine pure_cond (Lp := (fun _ => none)) (by kernel_rfl) Try.func38 (by kernel_rfl) (by kernel_rfl) ?_
  rw [vc_kept x ps b r]
  have C := clone x ps hX hm
  repeat' (first
    | (refine ex_some (by simp (disch := omega) only [bin_shr, bin_shl, bin_and, bin_or, bin_xor, len_str, toStr_ofL, bin_add, bin_sub, bin_mul, bin_quo, bin_rem, bin_lss, bin_leq, bin_gtr, bin_geq, bin_eql, bin_neq, eqs_cn, eqs_ci, eqs_cb, eqs_cs, Option.map_some, lenT_ofL, lst_ofL, lstSz_ofL, chunk_one, lst_nil, lst_sl, lstSz_sl, lstSz_nil, Bool.and_true, Bool.true_and, Bool.and_false, Bool.false_and, beq_self_eq_true, beq_bb, bne_bb, un_not, un_neg, conv_int, min2_int, max2_int, w64, w32, wu8, wu16, wu32, wu64, tdiv_nn, tmod_nn, cell_zero, cell_succ, cell_v, cells_v, cells_agg, Bool.not_true, Bool.not_false, Int.reduceLT, Int.reduceLE, Int.reduceEq, Int.reduceNeg, Int.reduceAdd, Int.reduceSub, Int.reduceMul, intOf_v, decide_true, decide_false]; rfl) ?_)
    | (refine ex_bool ?_)
    | (refine ⟨_, C, ?_⟩)
    | (exact fitP hX)
    | (exact plainP hX)
    | (refine And.intro ?_ ?_)
    | (intro hx; have hprop := (show ∀ (p : Prop), p → True from fun _ _ => True.intro) _ hx; clear hprop; first | (cases hx; done) | (exfalso; revert hx; simp (disch := omega) only [decide_eq_true_eq, decide_eq_false_iff_not, Bool.not_eq_true', Bool.not_eq_false', Bool.and_eq_true, Bool.and_eq_false_iff, Int.not_lt, Int.not_le, ne_eq, not_false_eq_true, not_true_eq_false, reduceCtorEq, Bool.true_eq_false, Bool.false_eq_true, beq_iff_eq, bne_iff_ne, beq_eq_false_iff_ne, false_or, or_false, true_and, and_true]; done) | (simp (disch := omega) only [decide_eq_true_eq, decide_eq_false_iff_not, Bool.not_eq_true', Bool.not_eq_false', Bool.and_eq_true, Bool.and_eq_false_iff, Int.not_lt, Int.not_le, ne_eq, not_false_eq_true, not_true_eq_false, reduceCtorEq, Bool.true_eq_false, Bool.false_eq_true, beq_iff_eq, bne_iff_ne, beq_eq_false_iff_ne, false_or, or_false, true_and, and_true] at hx; first | (exfalso; omega) | skip) | skip)
    | trivial
    | exact fit_ofL _ _
    | (simp (disch := omega) only [notAgg_v, notAgg_sl, plain_v, fits, fitsOne, fitsCells, xsOf, cell_zero, cell_succ, List.range, List.range.loop, List.map, cond_true, cond_false, D.v.injEq, exists_eq', exists_eq, and_self, and_true, true_and, D.agg.injEq, List.length, exists_eq_left', D.sl.injEq, reduceCtorEq, false_or, true_or, or_true, or_false, cell_zero, cell_succ, cell_v, cells_v, cells_agg, List.length_cons, List.length_nil]; done))
  all_goals first | exact fitP hX | exact plainP hX | exact ⟨_, rfl⟩ | rfl | (simp; done) | fail

theorem vc_new  : Cond Try.prog (fun _ => none) Try.f37 [] [.agg [.v (.int .i64 0), str [], .v nilS]] = (True ∧ (True ∧ True ∧ PlainD (D.v nilS) ∧ True) ∧ [D.agg [D.v (Value.int IntKind.i64 0), D.v (Value.string { data := { toList := [] } }), D.v nilS]] = [D.agg [D.v (Value.int IntKind.i64 0), str [], D.v nilS]]) := by kernel_rfl
theorem new   : PureD Try.prog 37 [] [.agg [.v (.int .i64 0), str [], .v nilS]] := by
  refine pure_cond (Lp := (fun _ => none)) (by kernel_rfl) Try.func37 (by kernel_rfl) (by kernel_rfl) ?_
  rw [vc_new]
  repeat' (first
    | (refine ex_some (by simp (disch := omega) only [bin_shr, bin_shl, bin_and, bin_or, bin_xor, len_str, toStr_ofL, bin_add, bin_sub, bin_mul, bin_quo, bin_rem, bin_lss, bin_leq, bin_gtr, bin_geq, bin_eql, bin_neq, eqs_cn, eqs_ci, eqs_cb, eqs_cs, Option.map_some, lenT_ofL, lst_ofL, lstSz_ofL, chunk_one, lst_nil, lst_sl, lstSz_sl, lstSz_nil, Bool.and_true, Bool.true_and, Bool.and_false, Bool.false_and, beq_self_eq_true, beq_bb, bne_bb, un_not, un_neg, conv_int, min2_int, max2_int, w64, w32, wu8, wu16, wu32, wu64, tdiv_nn, tmod_nn, cell_zero, cell_succ, cell_v, cells_v, cells_agg, Bool.not_true, Bool.not_false, Int.reduceLT, Int.reduceLE, Int.reduceEq, Int.reduceNeg, Int.reduceAdd, Int.reduceSub, Int.reduceMul, intOf_v, decide_true, decide_false]; rfl) ?_)
    | (refine ex_bool ?_)
    | (refine And.intro ?_ ?_)
    | (intro hx; have hprop := (show ∀ (p : Prop), p → True from fun _ _ => True.intro) _ hx; clear hprop; first | (cases hx; done) | (exfalso; revert hx; simp (disch := omega) only [decide_eq_true_eq, decide_eq_false_iff_not, Bool.not_eq_true', Bool.not_eq_false', Bool.and_eq_true, Bool.and_eq_false_iff, Int.not_lt, Int.not_le, ne_eq, not_false_eq_true, not_true_eq_false, reduceCtorEq, Bool.true_eq_false, Bool.false_eq_true, beq_iff_eq, bne_iff_ne, beq_eq_false_iff_ne, false_or, or_false, true_and, and_true]; done) | (simp (disch := omega) only [decide_eq_true_eq, decide_eq_false_iff_not, Bool.not_eq_true', Bool.not_eq_false', Bool.and_eq_true, Bool.and_eq_false_iff, Int.not_lt, Int.not_le, ne_eq, not_false_eq_true, not_true_eq_false, reduceCtorEq, Bool.true_eq_false, Bool.false_eq_true, beq_iff_eq, bne_iff_ne, beq_eq_false_iff_ne, false_or, or_false, true_and, and_true] at hx; first | (exfalso; omega) | skip) | skip)
    | trivial
    | exact fit_ofL _ _
    | (simp (disch := omega) only [notAgg_v, notAgg_sl, plain_v, fits, fitsOne, fitsCells, xsOf, cell_zero, cell_succ, List.range, List.range.loop, List.map, cond_true, cond_false, D.v.injEq, exists_eq', exists_eq, and_self, and_true, true_and, D.agg.injEq, List.length, exists_eq_left', D.sl.injEq, reduceCtorEq, false_or, true_or, or_true, or_false, cell_zero, cell_succ, cell_v, cells_v, cells_agg, List.length_cons, List.length_nil]; done))
  all_goals first | rfl | exact plain_v _ | exact ⟨_, rfl⟩ | (simp; done) | fail

end Go.Proofs.Ytjdemohgegldaaa