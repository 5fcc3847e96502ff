/-
  Layer 12: the reference compares; its blocks.
-/
import Derived.Test.YtjdemohgegldaaaT1
import Derived.Test.YtjdemohgegldaaaT2
import Derived.Test.YtjdemohgegldaaaT3
import Derived.Test.YtjdemohgegldaaaT4
namespace Go.Proofs.Ytjdemohgegldaaa
open Go.RowKit
set_option linter.unusedSimpArgs false
set_option linter.unusedVariables false


theorem same_no {u v : Int} {s t : List Int} {a b : List Pt} (h : ptB a b = false) : sameS u v s t a b = false := by unfold sameS; rw [h, Bool.and_false]
theorem same_yes {u v : Int} {s t : List Int} {a b : List Pt} (h : ptB a b = true) : sameS u v s t a b = (decide (u = v) && decide (s = t)) := by unfold sameS; rw [h, Bool.and_true]

theorem blk_len (b : Int) (r : Nat) (ps : List Pt) (n : Int) : (blkF b r ps n).length ≤ ps.length := by
  unfold blkF; split
  · rw [List.length_map, List.length_take]; omega
  · simp
theorem blk_take {b : Int} {r : Nat} {ps : List Pt} {n : Int} {m : Nat} (hm : (m : Int) = max 0 (min n ((blkF b r ps ps.length).length : Nat))) : (blkF b r ps ps.length).take m = blkF b r ps n := by
  unfold blkF at hm ⊢
  split
  · rename_i h
    rw [if_pos h, Int.toNat_natCast, List.take_length, List.length_map] at hm
    rw [Int.toNat_natCast, List.take_length, ← List.map_take]
    rcases Nat.lt_or_ge n.toNat ps.length with h1 | h1
    · rw [show m = n.toNat by omega]
    · rw [show m = ps.length by omega, List.take_length, List.take_of_length_le h1]
  · simp
theorem fitZ {x : D} {zs : List (Int × Int)} (h : IsL 2 (zs.map ivD) x) : x = .v nilS ∨ ∃ es, x = .sl 2 es := by rcases h with rfl | ⟨rfl, _⟩; exact .inr ⟨_, rfl⟩; exact .inl rfl
theorem plainZ {x : D} {zs : List (Int × Int)} (h : IsL 2 (zs.map ivD) x) : PlainD x := by rcases h with rfl | ⟨rfl, _⟩; exact plain_sl (ivs_plain _); exact plain_v _
/-- What a part of the blocks is. -/
theorem blk_cut (b : Int) (r : Nat) (ps : List Pt) (n : Int) : ∃ c, D.cutL 2 (ofL 2 ((blkF b r ps ps.length).map ivD)) none (some (.v (.int .i64 (max 0 (min n ((blkF b r ps ps.length).length : Nat)))))) none = some c ∧ IsL 2 ((blkF b r ps n).map ivD) c := by
  obtain ⟨m, hmm⟩ := Int.eq_ofNat_of_zero_le (show 0 ≤ max 0 (min n ((blkF b r ps ps.length).length : Nat)) by omega)
  have hl : m ≤ (blkF b r ps ps.length).length := by omega
  obtain ⟨c, eC, hC⟩ := (isL_ofL 2 ((blkF b r ps ps.length).map ivD)).cut (dl := none) (dh := some (.v (.int .i64 (max 0 (min n ((blkF b r ps ps.length).length : Nat)))))) (dm := none) (l := 0) (hh := (m : Nat)) (m := ((blkF b r ps ps.length).length : Nat)) rfl (by rw [hmm]; rfl) (by rw [List.length_map]; rfl) (by omega) (by omega) (by omega) (by rw [List.length_map]; omega)
  refine ⟨c, eC, ?_⟩
  have e := blk_take hmm.symm
  rw [← e]
  simpa [List.map_take] using hC

theorem vc_rsame (x y : D) (a b : List Pt) (u v : Int) (s t : List Int) : Cond Try.prog (fun k => if k = 4 then some ⟨[5], [], [2, 3], []⟩ else none) Try.f34 [.agg [.v (.int .i64 u), str s, x], .agg [.v (.int .i64 v), str t, y]] [.v (.bool (sameS u v s t a b))] = (((∃ (cs : List D), D.agg [D.v (Value.int IntKind.i64 u), str s, x] = D.agg cs ∧ cs.length = 3) ∧ (∃ (cs : List D), D.agg [D.v (Value.int IntKind.i64 v), str t, y] = D.agg cs ∧ cs.length = 3) ∧ True) ∧ ∃ (r : D), D.lenT (TypeDesc.slice 66) x = some r ∧ ∃ (r_1 : D), D.lenT (TypeDesc.slice 66) y = some r_1 ∧ ∃ (r_2 : D), D.bin BinOp.neq r r_1 = some r_2 ∧ ∃ (b_1 : Bool), r_2 = D.v (Value.bool b_1) ∧ (b_1 = true → (True ∧ True) ∧ [D.v (Value.bool false)] = [D.v (Value.bool (sameS u v s t a b))]) ∧ (b_1 = false → ∃ (I : List D → Prop), ∃ (μ : List D → Nat), ((D.v (Value.int IntKind.i64 0) = D.v (Value.int IntKind.i64 0) ∧ (true = true ∧ true = true) ∧ (true = true ∧ true = true) ∧ True) ∧ ((D.v (Value.int IntKind.i64 u) = D.v (Value.int IntKind.i64 u) ∧ str s = str s ∧ x = x ∧ True) ∧ (D.v (Value.int IntKind.i64 v) = D.v (Value.int IntKind.i64 v) ∧ str t = str t ∧ y = y ∧ True) ∧ True) ∧ I [D.v (Value.int IntKind.i64 0)]) ∧ ∀ (r : D), I [r] → ∃ (r_3 : D), D.lenT (TypeDesc.slice 66) x = some r_3 ∧ ∃ (r_4 : D), D.bin BinOp.lss r r_3 = some r_4 ∧ ∃ (b_2 : Bool), r_4 = D.v (Value.bool b_2) ∧ (b_2 = true → D.inb 2 x r ∧ 0 + 2 ≤ (x.at_ r).cells.length ∧ D.inb 2 y r ∧ 0 + 2 ≤ (y.at_ r).cells.length ∧ ∃ (r_5 : Bool), eqs [EqK.i, EqK.s] [(x.at_ r).cell (0 + 0), (x.at_ r).cell (0 + 1)] [(y.at_ r).cell (0 + 0), (y.at_ r).cell (0 + 1)] = some r_5 ∧ ∃ (b_3 : Bool), D.v (Value.bool (match r_5 with | true => false | false => true)) = D.v (Value.bool b_3) ∧ (b_3 = true → (True ∧ True) ∧ [D.v (Value.bool false)] = [D.v (Value.bool (sameS u v s t a b))]) ∧ (b_3 = false → ∃ (r_6 : D), D.bin BinOp.add r (D.v (Value.int IntKind.i64 1)) = some r_6 ∧ (r_6 = r_6 ∧ (true = true ∧ true = true) ∧ (true = true ∧ true = true) ∧ True) ∧ ((D.v (Value.int IntKind.i64 u) = D.v (Value.int IntKind.i64 u) ∧ str s = str s ∧ x = x ∧ True) ∧ (D.v (Value.int IntKind.i64 v) = D.v (Value.int IntKind.i64 v) ∧ str t = str t ∧ y = y ∧ True) ∧ True) ∧ I [r_6] ∧ μ [r_6] < μ [r])) ∧ (b_2 = false → ∃ (r : D), D.bin BinOp.eql (D.v (Value.int IntKind.i64 u)) (D.v (Value.int IntKind.i64 v)) = some r ∧ ∃ (b_3 : Bool), r = D.v (Value.bool b_3) ∧ (b_3 = true → ∃ (r : D), D.bin BinOp.eql (str s) (str t) = some r ∧ ((∃ (y : Value), r = D.v y) ∧ True) ∧ [r] = [D.v (Value.bool (sameS u v s t a b))]) ∧ (b_3 = false → (True ∧ True) ∧ [D.v (Value.bool false)] = [D.v (Value.bool (sameS u v s t a b))])))) := by kernel_rfl
set_option maxHeartbeats 8000000 in
theorem rsame (x y : D) (a b : List Pt) (u v : Int) (s t : List Int) (hX : IsL 2 (a.map ptD) x) (hY : IsL 2 (b.map ptD) y) (ha : a.length ≤ 100000) (hb : b.length ≤ 100000) (hP : AllB a) (hQ : AllB b) (hs1 : Bytes s) (ht1 : Bytes t) : PureD Try.prog 34 [.agg [.v (.int .i64 u), str s, x], .agg [.v (.int .i64 v), str t, y]] [.v (.bool (sameS u v s t a b))] := by
  refine pure_cond (Lp := (fun k => if k = 4 then some ⟨[5], [], [2, 3], []⟩ else none)) (by kernel_rfl) Try.func34 (by kernel_rfl) (by kernel_rfl) ?_
  rw [vc_rsame x y a b u v s t]
  simp only [hX.lenT, hY.lenT, List.length_map, Option.some.injEq, exists_eq_left']
  have h1 : True := trivial
  have h2 : True := trivial
  have hs : True := trivial
  by_cases hl : a.length = b.length
  · have d1 : True := trivial
    have hq := bin_seql hs1 ht1
    repeat' (first
      | (refine ex_some (by simp (disch := omega) only [bin_shr, bin_shl, bin_and, bin_or, bin_xor, len_str, toStr_ofL, bin_add, bin_sub, bin_mul, bin_quo, bin_rem, bin_lss, bin_leq, bin_gtr, bin_geq, bin_eql, bin_neq, eqs_cn, eqs_ci, eqs_cb, eqs_cs, Option.map_some, lenT_ofL, lst_ofL, lstSz_ofL, chunk_one, lst_nil, lst_sl, lstSz_sl, lstSz_nil, Bool.and_true, Bool.true_and, Bool.and_false, Bool.false_and, beq_self_eq_true, beq_bb, bne_bb, un_not, un_neg, conv_int, min2_int, max2_int, w64, w32, wu8, wu16, wu32, wu64, tdiv_nn, tmod_nn, cell_zero, cell_succ, cell_v, cells_v, cells_agg, Bool.not_true, Bool.not_false, Int.reduceLT, Int.reduceLE, Int.reduceEq, Int.reduceNeg, Int.reduceAdd, Int.reduceSub, Int.reduceMul, intOf_v, decide_true, decide_false, h1, h2, hs, eqs_ct, hX.lenT, hY.lenT, List.length_map, hq]; rfl) ?_)
      | (refine ex_bool ?_)
      | (exact i1)
      | (exact i2)
      | (refine ⟨(fun r => ∃ k : Nat, k ≤ a.length ∧ a.take k = b.take k ∧ r = [.v (.int .i64 (k : Nat))]), leftG a.length, ?_⟩)
      | (refine fun (r4 : D) (hI : (fun r => ∃ k : Nat, k ≤ a.length ∧ a.take k = b.take k ∧ r = [.v (.int .i64 (k : Nat))]) [r4]) => ?_; obtain ⟨k, hk, hek, hl0⟩ := hI; simp only [List.cons.injEq, and_true] at hl0; subst hl0; by_cases hlt : k < a.length <;> first | (have hk1 : k < a.length := (by omega); have h1 := pt_get hX hk1; have h2 := pt_get hY (k := k) (by omega); have i1 := pt_inb hX hk1; have i2 := pt_inb hY (k := k) (by omega); have b1 := pt_in hP hk1; have b2 := pt_in hQ (k := k) (by omega); have hst := take_eqP hk1 hl hek; generalize a.getD k (0, []) = z at h1 hst b1; generalize b.getD k (0, []) = y at h2 hst b2; obtain ⟨p, q⟩ := z; obtain ⟨p2, q2⟩ := y; simp only at b1 b2; have hs := eq_str b1.1 b2.1; simp only [h1, h2, ptD, Nat.zero_add, cell_zero, cell_succ, cells_agg, List.length_cons, List.length_nil]; have n0 : (p == p2 && decide (q = q2)) = false → ptB a b = false := fun h => (by unfold ptB; rw [decide_eq_false_iff_not]; intro e; subst e; have e := hst.1 rfl; simp only [Prod.mk.injEq] at e; rw [e.1, e.2] at h; simp at h); have n1 : (p == p2 && decide (q = q2)) = true → a.take (k + 1) = b.take (k + 1) := fun h => (by simp only [Bool.and_eq_true, beq_iff_eq, decide_eq_true_eq] at h; exact hst.2 (by rw [h.1, h.2])); have inl1 : True := trivial) | (have hkk : k = a.length := (by omega); subst hkk; rw [List.take_length, hl, List.take_length] at hek; have hh : ptB a b = true := (by unfold ptB; rw [hek]; simp); rw [same_yes hh]; have h1 : True := trivial; have h2 : True := trivial; have hs : True := trivial; have out1 : True := trivial))
      | (have := inl1; refine ⟨k + 1, by omega, n1 ?_, rfl⟩)
      | (exact ⟨0, by omega, rfl, rfl⟩)
      | (refine And.intro ?_ ?_)
      | (intro hx; have hprop := (show ∀ (p : Prop), p → True from fun _ _ => True.intro) _ hx; clear hprop; first | (cases hx; done) | (exfalso; revert hx; simp (disch := omega) only [decide_eq_true_eq, decide_eq_false_iff_not, Bool.not_eq_true', Bool.not_eq_false', Bool.and_eq_true, Bool.and_eq_false_iff, Int.not_lt, Int.not_le, ne_eq, not_false_eq_true, not_true_eq_false, reduceCtorEq, Bool.true_eq_false, Bool.false_eq_true, beq_iff_eq, bne_iff_ne, beq_eq_false_iff_ne, false_or, or_false, true_and, and_true, h1, h2, hs, eqs_ct, hX.lenT, hY.lenT, List.length_map, hq]; done) | (simp (disch := omega) only [decide_eq_true_eq, decide_eq_false_iff_not, Bool.not_eq_true', Bool.not_eq_false', Bool.and_eq_true, Bool.and_eq_false_iff, Int.not_lt, Int.not_le, ne_eq, not_false_eq_true, not_true_eq_false, reduceCtorEq, Bool.true_eq_false, Bool.false_eq_true, beq_iff_eq, bne_iff_ne, beq_eq_false_iff_ne, false_or, or_false, true_and, and_true, h1, h2, hs, eqs_ct, hX.lenT, hY.lenT, List.length_map, hq] at hx; first | (exfalso; omega) | skip) | skip)
      | trivial
      | exact fit_ofL _ _
      | (simp (disch := omega) only [notAgg_v, notAgg_sl, plain_v, fits, fitsOne, fitsCells, xsOf, cell_zero, cell_succ, List.range, List.range.loop, List.map, cond_true, cond_false, D.v.injEq, exists_eq', exists_eq, and_self, and_true, true_and, D.agg.injEq, List.length, exists_eq_left', D.sl.injEq, reduceCtorEq, false_or, true_or, or_true, or_false, cell_zero, cell_succ, cell_v, cells_v, cells_agg, List.length_cons, List.length_nil, h1, h2, hs, eqs_ct, hX.lenT, hY.lenT, List.length_map, hq]; done))
    all_goals first
      | (exfalso; omega)
      | omega
      | rfl
      | exact hX.notAgg
      | exact hY.notAgg
      | exact ⟨_, rfl⟩
      | assumption
      | (simp only [leftG]; omega)
      | (rw [h1]; exact Nat.le_refl _)
      | (rw [h2]; exact Nat.le_refl _)
      | (refine cb ?_; rw [same_no (n0 ?_)]; revert hx; cases (p == p2 && decide (q = q2)) <;> simp; done)
      | (refine cb (same_no (n0 ?_)); revert hx; cases (p == p2 && decide (q = q2)) <;> simp; done)
      | (refine cb (n0 ?_); revert hx; cases (p == p2 && decide (q = q2)) <;> simp; done)
      | (revert hx; cases (p == p2 && decide (q = q2)) <;> simp; done)
      | (by_cases e1 : u = v <;> by_cases e2 : s = t <;> simp_all; done)
      | (simp; done)
      | fail
  · have hh : ptB a b = false := by unfold ptB; rw [decide_eq_false_iff_not]; intro e; exact hl (by rw [e])
    rw [same_no hh]
    repeat' (first
      | (refine ex_some (by simp (disch := omega) only [bin_shr, bin_shl, bin_and, bin_or, bin_xor, len_str, toStr_ofL, bin_add, bin_sub, bin_mul, bin_quo, bin_rem, bin_lss, bin_leq, bin_gtr, bin_geq, bin_eql, bin_neq, eqs_cn, eqs_ci, eqs_cb, eqs_cs, Option.map_some, lenT_ofL, lst_ofL, lstSz_ofL, chunk_one, lst_nil, lst_sl, lstSz_sl, lstSz_nil, Bool.and_true, Bool.true_and, Bool.and_false, Bool.false_and, beq_self_eq_true, beq_bb, bne_bb, un_not, un_neg, conv_int, min2_int, max2_int, w64, w32, wu8, wu16, wu32, wu64, tdiv_nn, tmod_nn, cell_zero, cell_succ, cell_v, cells_v, cells_agg, Bool.not_true, Bool.not_false, Int.reduceLT, Int.reduceLE, Int.reduceEq, Int.reduceNeg, Int.reduceAdd, Int.reduceSub, Int.reduceMul, intOf_v, decide_true, decide_false, hX.lenT, hY.lenT, List.length_map]; rfl) ?_)
      | (refine ex_bool ?_)
      | (refine And.intro ?_ ?_)
      | (intro hx; have hprop := (show ∀ (p : Prop), p → True from fun _ _ => True.intro) _ hx; clear hprop; first | (cases hx; done) | (exfalso; revert hx; simp (disch := omega) only [decide_eq_true_eq, decide_eq_false_iff_not, Bool.not_eq_true', Bool.not_eq_false', Bool.and_eq_true, Bool.and_eq_false_iff, Int.not_lt, Int.not_le, ne_eq, not_false_eq_true, not_true_eq_false, reduceCtorEq, Bool.true_eq_false, Bool.false_eq_true, beq_iff_eq, bne_iff_ne, beq_eq_false_iff_ne, false_or, or_false, true_and, and_true, hX.lenT, hY.lenT, List.length_map]; done) | (simp (disch := omega) only [decide_eq_true_eq, decide_eq_false_iff_not, Bool.not_eq_true', Bool.not_eq_false', Bool.and_eq_true, Bool.and_eq_false_iff, Int.not_lt, Int.not_le, ne_eq, not_false_eq_true, not_true_eq_false, reduceCtorEq, Bool.true_eq_false, Bool.false_eq_true, beq_iff_eq, bne_iff_ne, beq_eq_false_iff_ne, false_or, or_false, true_and, and_true, hX.lenT, hY.lenT, List.length_map] at hx; first | (exfalso; omega) | skip) | skip)
      | trivial
      | exact fit_ofL _ _
      | (simp (disch := omega) only [notAgg_v, notAgg_sl, plain_v, fits, fitsOne, fitsCells, xsOf, cell_zero, cell_succ, List.range, List.range.loop, List.map, cond_true, cond_false, D.v.injEq, exists_eq', exists_eq, and_self, and_true, true_and, D.agg.injEq, List.length, exists_eq_left', D.sl.injEq, reduceCtorEq, false_or, true_or, or_true, or_false, cell_zero, cell_succ, cell_v, cells_v, cells_agg, List.length_cons, List.length_nil, hX.lenT, hY.lenT, List.length_map]; done))
    all_goals first | (exfalso; omega) | exact hX.notAgg | exact hY.notAgg | exact ⟨_, rfl⟩ | rfl | (simp; done) | fail

end Go.Proofs.Ytjdemohgegldaaa