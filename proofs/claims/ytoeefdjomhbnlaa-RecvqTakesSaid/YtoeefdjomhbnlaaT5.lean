/-
  Layer 12: blocks.
-/
import Derived.Test.YtoeefdjomhbnlaaT1
import Derived.Test.YtoeefdjomhbnlaaT2
import Derived.Test.YtoeefdjomhbnlaaT3
import Derived.Test.YtoeefdjomhbnlaaT4
namespace Go.Proofs.Ytoeefdjomhbnlaa
open Go.RowKit
set_option linter.unusedSimpArgs false
set_option linter.unusedVariables false


theorem walk_pts {lim : Int} : ∀ {ps : List Pt} {last : Int}, walkF lim ps last = true → ∀ p ∈ ps, last < p.1 ∧ p.1 + p.2.length ≤ lim
  | [], _, _, p, hp => by cases hp
  | q :: l, last, h, p, hp => by
    simp only [walkF] at h
    split at h
    · rename_i hc
      rcases List.mem_cons.1 hp with rfl | hp
      · exact ⟨hc.2.1, hc.2.2.2⟩
      · have := walk_pts h p hp
        exact ⟨by omega, this.2⟩
    · cases h
theorem chk_pts {b : Int} {r : Nat} {ps : List Pt} (h : chkF b r ps = 0) {k : Nat} (hk : k < ps.length) : 0 ≤ (ps.getD k (0, [])).1 ∧ (ps.getD k (0, [])).1 + ((ps.getD k (0, [])).2.length : Nat) ≤ 1099511627776 := by
  cases hb : okS b r
  · rw [chk_no hb] at h; cases h
  · rw [chk_yes hb] at h
    simp only [okS, decide_eq_true_eq] at hb
    split at h
    · rename_i hw
      have := walk_pts hw (ps.getD k (0, [])) (by simp [List.getD, hk])
      have hl : limF b r ≤ 1099511627776 := by unfold limF; omega
      omega
    · cases h
theorem blk_no {b : Int} {r : Nat} {ps : List Pt} {n : Int} (h : chkF b r ps ≠ 0) : blkF b r ps n = [] := if_neg h
theorem blk_few {b : Int} {r : Nat} {ps : List Pt} {n : Int} (h : n < 1) : blkF b r ps n = [] := by
  unfold blkF
  rw [show n.toNat = 0 by omega]
  split <;> simp
theorem blk_yes {b : Int} {r : Nat} {ps : List Pt} {n : Int} {m : Nat} (h : chkF b r ps = 0) (hm : (m : Int) = min n ps.length) (hn : 1 ≤ n) : blkF b r ps n = (ps.take m).map blkI := by
  unfold blkF
  rw [if_pos h]
  rcases Nat.lt_or_ge n.toNat ps.length with h1 | h1
  · rw [show m = n.toNat by omega]
  · rw [show m = ps.length by omega, List.take_length, List.take_of_length_le h1]

theorem vc_blocks (x : D) (ps : List Pt) (b : Int) (r : List Int) (n : Int) : Cond Try.prog (fun k => if k = 5 then some ⟨[24], [5], [22, 23], []⟩ else none) Try.f24 [.agg [.v (.int .i64 b), str r, x], .v (.int .i64 n)] [ofL 2 ((blkF b r.length ps n).map ivD)] = (((∃ (cs : List D), D.agg [D.v (Value.int IntKind.i64 b), str r, x] = D.agg cs ∧ cs.length = 3) ∧ NotAgg (D.v (Value.int IntKind.i64 n)) ∧ True) ∧ ∃ (r_1 : D), D.bin BinOp.lss (D.v (Value.int IntKind.i64 n)) (D.v (Value.int IntKind.i64 1)) = some r_1 ∧ ∃ (b_1 : Bool), r_1 = D.v (Value.bool b_1) ∧ (b_1 = false → ∃ (r_2 : D), PureD Try.prog 17 [D.agg [D.v (Value.int IntKind.i64 b), str r, x]] [r_2] ∧ fits [(false, [none])] [r_2] ∧ ∃ (r_3 : D), D.bin BinOp.neq r_2 (D.v (Value.int IntKind.i64 0)) = some r_3 ∧ ∃ (b_2 : Bool), r_3 = D.v (Value.bool b_2) ∧ (b_2 = true → (PlainD (D.v nilS) ∧ True) ∧ [D.v nilS] = [ofL 2 (List.map ivD (blkF b r.length ps n))]) ∧ (b_2 = false → ∃ (r_4 : D), D.lenT (TypeDesc.slice 70) x = some r_4 ∧ ∃ (r_5 : D), (D.v (Value.int IntKind.i64 n)).min2 r_4 = some r_5 ∧ ∃ (r_6 : D), D.cutL 2 x none (some r_5) none = some r_6 ∧ ∃ (r_7 : D), D.lenT (TypeDesc.slice 70) r_6 = some r_7 ∧ ∃ (I : List D → Prop), ∃ (μ : List D → Nat), ((D.v (Value.int IntKind.i64 0) = D.v (Value.int IntKind.i64 0) ∧ true = true ∧ r_6 = r_6 ∧ r_7 = r_7 ∧ True) ∧ ((true = true ∧ D.v nilS = D.v nilS) ∧ True) ∧ I [D.v (Value.int IntKind.i64 0), D.v nilS]) ∧ ∀ (r_8 r_9 : D), I [r_8, r_9] → ∃ (r_10 : D), D.bin BinOp.lss r_8 r_7 = some r_10 ∧ ∃ (b_3 : Bool), r_10 = D.v (Value.bool b_3) ∧ (b_3 = true → D.inb 2 r_6 r_8 ∧ 0 + 2 ≤ (r_6.at_ r_8).cells.length ∧ ∃ (r : D), PureD Try.prog 32 [D.agg [(r_6.at_ r_8).cell (0 + 0), (r_6.at_ r_8).cell (0 + 1)]] [r] ∧ fits [(false, [none])] [r] ∧ ∃ (ls : List D), r_9.lst = some ls ∧ ∃ (lx : List D), D.lstSz 2 (D.sl 2 (chunks true 2 1 [(r_6.at_ r_8).cell (0 + 0), r])) = some lx ∧ (ls.length + lx.length) * 16 ≤ 1099511627776 ∧ ∃ (r : D), D.bin BinOp.add r_8 (D.v (Value.int IntKind.i64 1)) = some r ∧ (r = r ∧ true = true ∧ r_6 = r_6 ∧ r_7 = r_7 ∧ True) ∧ ((true = true ∧ D.app 2 r_9 lx = D.app 2 r_9 lx) ∧ True) ∧ I [r, D.app 2 r_9 lx] ∧ μ [r, D.app 2 r_9 lx] < μ [r_8, r_9]) ∧ (b_3 = false → (PlainD r_9 ∧ True) ∧ [r_9] = [ofL 2 (List.map ivD (blkF b r.length ps n))]))) ∧ (b_1 = true → (PlainD (D.v nilS) ∧ True) ∧ [D.v nilS] = [ofL 2 (List.map ivD (blkF b r.length ps n))])) := by kernel_rfl
set_option maxHeartbeats 8000000 in
theorem blocks (x : D) (ps : List Pt) (b : Int) (r : List Int) (n : Int) (hX : IsL 2 (ps.map ptD) x) (hP : AllB ps) (hm : ps.length ≤ 100000) (hr : r.length ≤ 100000) : PureD Try.prog 24 [.agg [.v (.int .i64 b), str r, x], .v (.int .i64 n)] [ofL 2 ((blkF b r.length ps n).map ivD)] := by
  refine pure_cond (Lp := (fun k => if k = 5 then some ⟨[24], [5], [22, 23], []⟩ else none)) (by kernel_rfl) Try.func24 (by kernel_rfl) (by kernel_rfl) ?_
  rw [vc_blocks x ps b r n]
  simp only [hX.lenT, List.length_map, Option.some.injEq, exists_eq_left']
  have CK := check x ps b r hX hP hm hr
  have h1 : True := trivial
  have hCl : True := trivial
  by_cases hn : n < 1
  · rw [blk_few hn]
    repeat' (first
      | (refine ex_some (by simp (disch := omega) only [bin_shr, bin_shl, bin_and, bin_or, bin_xor, len_str, toStr_ofL, bin_add, bin_sub, bin_mul, bin_quo, bin_rem, bin_lss, bin_leq, bin_gtr, bin_geq, bin_eql, bin_neq, eqs_cn, eqs_ci, eqs_cb, eqs_cs, Option.map_some, lenT_ofL, lst_ofL, lstSz_ofL, chunk_one, lst_nil, lst_sl, lstSz_sl, lstSz_nil, Bool.and_true, Bool.true_and, Bool.and_false, Bool.false_and, beq_self_eq_true, beq_bb, bne_bb, un_not, un_neg, conv_int, min2_int, max2_int, w64, w32, wu8, wu16, wu32, wu64, tdiv_nn, tmod_nn, cell_zero, cell_succ, cell_v, cells_v, cells_agg, Bool.not_true, Bool.not_false, Int.reduceLT, Int.reduceLE, Int.reduceEq, Int.reduceNeg, Int.reduceAdd, Int.reduceSub, Int.reduceMul, intOf_v, decide_true, decide_false, hX.lenT, List.length_map]; rfl) ?_)
      | (refine ex_bool ?_)
      | (refine ⟨_, CK, ?_⟩)
      | (refine And.intro ?_ ?_)
      | (intro hx; have hprop := (show ∀ (p : Prop), p → True from fun _ _ => True.intro) _ hx; clear hprop; first | (cases hx; done) | (exfalso; revert hx; simp (disch := omega) only [decide_eq_true_eq, decide_eq_false_iff_not, Bool.not_eq_true', Bool.not_eq_false', Bool.and_eq_true, Bool.and_eq_false_iff, Int.not_lt, Int.not_le, ne_eq, not_false_eq_true, not_true_eq_false, reduceCtorEq, Bool.true_eq_false, Bool.false_eq_true, beq_iff_eq, bne_iff_ne, beq_eq_false_iff_ne, false_or, or_false, true_and, and_true, hX.lenT, List.length_map]; done) | (simp (disch := omega) only [decide_eq_true_eq, decide_eq_false_iff_not, Bool.not_eq_true', Bool.not_eq_false', Bool.and_eq_true, Bool.and_eq_false_iff, Int.not_lt, Int.not_le, ne_eq, not_false_eq_true, not_true_eq_false, reduceCtorEq, Bool.true_eq_false, Bool.false_eq_true, beq_iff_eq, bne_iff_ne, beq_eq_false_iff_ne, false_or, or_false, true_and, and_true, hX.lenT, List.length_map] at hx; first | (exfalso; omega) | skip) | skip)
      | trivial
      | exact fit_ofL _ _
      | (simp (disch := omega) only [notAgg_v, notAgg_sl, plain_v, fits, fitsOne, fitsCells, xsOf, cell_zero, cell_succ, List.range, List.range.loop, List.map, cond_true, cond_false, D.v.injEq, exists_eq', exists_eq, and_self, and_true, true_and, D.agg.injEq, List.length, exists_eq_left', D.sl.injEq, reduceCtorEq, false_or, true_or, or_true, or_false, cell_zero, cell_succ, cell_v, cells_v, cells_agg, List.length_cons, List.length_nil, hX.lenT, List.length_map]; done))
    all_goals first
      | (exfalso; omega)
      | omega
      | rfl
      | exact hX.notAgg
      | exact ⟨_, rfl⟩
      | assumption
      | (simp only [leftG]; omega)
      | (rw [h1]; exact Nat.le_refl _)
      | exact plain_ofL (ivs_plain _)
      | exact plain_v _
      | exact fit_ofL _ _
      | exact .inl rfl
      | (simp only [List.length_map, List.length_take, List.length_cons, List.length_nil]; omega)
      | (simp; done)
      | fail
  · by_cases hc : chkF b r.length ps = 0
    · rw [hc] at CK
      obtain ⟨m, hmm⟩ := Int.eq_ofNat_of_zero_le (show 0 ≤ min n (ps.length : Nat) by omega)
      have hml : m ≤ ps.length := by omega
      rw [blk_yes hc hmm.symm (by omega)]
      obtain ⟨c, eC, hC⟩ := hX.cut (dl := none) (dh := some (.v (.int .i64 (min n (ps.length : Nat))))) (dm := none) (l := 0) (hh := (m : Nat)) (m := (ps.length : Nat)) rfl (by rw [hmm]; rfl) (by rw [List.length_map]; rfl) (by omega) (by omega) (by omega) (by rw [List.length_map]; omega)
      have hC : IsL 2 ((ps.take m).map ptD) c := by simpa [List.map_take] using hC
      have hlen : (ps.take m).length = m := by rw [List.length_take]; omega
      have hCl := fun e => hC.lenT e
      simp only [List.length_map, hlen] at hCl
      repeat' (first
        | (refine ex_some (by simp (disch := omega) only [bin_shr, bin_shl, bin_and, bin_or, bin_xor, len_str, toStr_ofL, bin_add, bin_sub, bin_mul, bin_quo, bin_rem, bin_lss, bin_leq, bin_gtr, bin_geq, bin_eql, bin_neq, eqs_cn, eqs_ci, eqs_cb, eqs_cs, Option.map_some, lenT_ofL, lst_ofL, lstSz_ofL, chunk_one, lst_nil, lst_sl, lstSz_sl, lstSz_nil, Bool.and_true, Bool.true_and, Bool.and_false, Bool.false_and, beq_self_eq_true, beq_bb, bne_bb, un_not, un_neg, conv_int, min2_int, max2_int, w64, w32, wu8, wu16, wu32, wu64, tdiv_nn, tmod_nn, cell_zero, cell_succ, cell_v, cells_v, cells_agg, Bool.not_true, Bool.not_false, Int.reduceLT, Int.reduceLE, Int.reduceEq, Int.reduceNeg, Int.reduceAdd, Int.reduceSub, Int.reduceMul, intOf_v, decide_true, decide_false, h1, ch2, hCl, hX.lenT, List.length_map]; rfl) ?_)
        | (refine ex_bool ?_)
        | (refine ⟨_, CK, ?_⟩)
        | (refine ⟨_, eC, ?_⟩)
        | (refine ⟨_, hE, ?_⟩)
        | (exact i1)
        | (refine ⟨(fun r3 => ∃ k : Nat, k ≤ m ∧ r3 = [.v (.int .i64 (k : Nat)), ofL 2 (((ps.take k).map blkI).map ivD)]), leftG m, ?_⟩)
        | (refine fun (r3 r4 : D) (hI : (fun r3 => ∃ k : Nat, k ≤ m ∧ r3 = [.v (.int .i64 (k : Nat)), ofL 2 (((ps.take k).map blkI).map ivD)]) [r3, r4]) => ?_; obtain ⟨k, hk, hl0⟩ := hI; simp only [List.cons.injEq, and_true] at hl0; obtain ⟨rfl, rfl⟩ := hl0; by_cases hlt : k < m <;> first | (have hk1 : k < m := (by omega); have hk2 : k < (ps.take m).length := (by omega); have hk3 : k < ps.length := (by omega); have h1 := pt_get hC hk2; have i1 := pt_inb hC hk2; have hg : (ps.take m).getD k (0, []) = ps.getD k (0, []) := (by simp [List.getD, List.getElem?_take, hk1]); rw [hg] at h1; have hb := chk_pts hc hk3; have hbb := pt_in hP hk3; have ht : ((ps.take (k + 1)).map blkI) = ((ps.take k).map blkI) ++ [blkI (ps.getD k (0, []))] := (by rw [take_sn (d := (0, [])) hk3, List.map_append]; rfl); generalize ps.getD k (0, []) = p at h1 hb hbb ht; obtain ⟨a, s⟩ := p; simp only [blkI] at hb hbb ht; have hE := ends1 a s (by omega) (by omega) hbb.2; have ha := appI ((ps.take k).map blkI) (a, a + s.length); simp only [h1, ptD, Nat.zero_add, cell_zero, cell_succ, cells_agg, List.length_cons, List.length_nil]; have inl1 : True := trivial) | (have hkk : k = m := (by omega); subst hkk; have h1 : True := trivial; have out1 : True := trivial))
        | (have := inl1; refine ⟨k + 1, by omega, ?_⟩)
        | (exact ⟨0, Nat.zero_le _, rfl⟩)
        | (refine And.intro ?_ ?_)
        | (intro hx; have hprop := (show ∀ (p : Prop), p → True from fun _ _ => True.intro) _ hx; clear hprop; first | (cases hx; done) | (exfalso; revert hx; simp (disch := omega) only [decide_eq_true_eq, decide_eq_false_iff_not, Bool.not_eq_true', Bool.not_eq_false', Bool.and_eq_true, Bool.and_eq_false_iff, Int.not_lt, Int.not_le, ne_eq, not_false_eq_true, not_true_eq_false, reduceCtorEq, Bool.true_eq_false, Bool.false_eq_true, beq_iff_eq, bne_iff_ne, beq_eq_false_iff_ne, false_or, or_false, true_and, and_true, h1, ch2, hCl, hX.lenT, List.length_map]; done) | (simp (disch := omega) only [decide_eq_true_eq, decide_eq_false_iff_not, Bool.not_eq_true', Bool.not_eq_false', Bool.and_eq_true, Bool.and_eq_false_iff, Int.not_lt, Int.not_le, ne_eq, not_false_eq_true, not_true_eq_false, reduceCtorEq, Bool.true_eq_false, Bool.false_eq_true, beq_iff_eq, bne_iff_ne, beq_eq_false_iff_ne, false_or, or_false, true_and, and_true, h1, ch2, hCl, hX.lenT, List.length_map] at hx; first | (exfalso; omega) | skip) | skip)
        | trivial
        | exact fit_ofL _ _
        | (simp (disch := omega) only [notAgg_v, notAgg_sl, plain_v, fits, fitsOne, fitsCells, xsOf, cell_zero, cell_succ, List.range, List.range.loop, List.map, cond_true, cond_false, D.v.injEq, exists_eq', exists_eq, and_self, and_true, true_and, D.agg.injEq, List.length, exists_eq_left', D.sl.injEq, reduceCtorEq, false_or, true_or, or_true, or_false, cell_zero, cell_succ, cell_v, cells_v, cells_agg, List.length_cons, List.length_nil, h1, ch2, hCl, hX.lenT, List.length_map]; done))
      all_goals first
        | (exfalso; omega)
        | omega
        | rfl
        | exact hX.notAgg
        | exact ⟨_, rfl⟩
        | assumption
        | (simp only [leftG]; omega)
        | (rw [h1]; exact Nat.le_refl _)
        | exact plain_ofL (ivs_plain _)
        | exact plain_v _
        | exact fit_ofL _ _
        | exact .inl rfl
        | (simp only [List.length_map, List.length_take, List.length_cons, List.length_nil]; omega)
        | (rw [ht, ← ha]; rfl)
        | (simp; done)
        | fail
    · rw [blk_no hc]
      repeat' (first
        | (refine ex_some (by simp (disch := omega) only [bin_shr, bin_shl, bin_and, bin_or, bin_xor, len_str, toStr_ofL, bin_add, bin_sub, bin_mul, bin_quo, bin_rem, bin_lss, bin_leq, bin_gtr, bin_geq, bin_eql, bin_neq, eqs_cn, eqs_ci, eqs_cb, eqs_cs, Option.map_some, lenT_ofL, lst_ofL, lstSz_ofL, chunk_one, lst_nil, lst_sl, lstSz_sl, lstSz_nil, Bool.and_true, Bool.true_and, Bool.and_false, Bool.false_and, beq_self_eq_true, beq_bb, bne_bb, un_not, un_neg, conv_int, min2_int, max2_int, w64, w32, wu8, wu16, wu32, wu64, tdiv_nn, tmod_nn, cell_zero, cell_succ, cell_v, cells_v, cells_agg, Bool.not_true, Bool.not_false, Int.reduceLT, Int.reduceLE, Int.reduceEq, Int.reduceNeg, Int.reduceAdd, Int.reduceSub, Int.reduceMul, intOf_v, decide_true, decide_false, hX.lenT, List.length_map]; rfl) ?_)
        | (refine ex_bool ?_)
        | (refine ⟨_, CK, ?_⟩)
        | (refine And.intro ?_ ?_)
        | (intro hx; have hprop := (show ∀ (p : Prop), p → True from fun _ _ => True.intro) _ hx; clear hprop; first | (cases hx; done) | (exfalso; revert hx; simp (disch := omega) only [decide_eq_true_eq, decide_eq_false_iff_not, Bool.not_eq_true', Bool.not_eq_false', Bool.and_eq_true, Bool.and_eq_false_iff, Int.not_lt, Int.not_le, ne_eq, not_false_eq_true, not_true_eq_false, reduceCtorEq, Bool.true_eq_false, Bool.false_eq_true, beq_iff_eq, bne_iff_ne, beq_eq_false_iff_ne, false_or, or_false, true_and, and_true, hX.lenT, List.length_map]; done) | (simp (disch := omega) only [decide_eq_true_eq, decide_eq_false_iff_not, Bool.not_eq_true', Bool.not_eq_false', Bool.and_eq_true, Bool.and_eq_false_iff, Int.not_lt, Int.not_le, ne_eq, not_false_eq_true, not_true_eq_false, reduceCtorEq, Bool.true_eq_false, Bool.false_eq_true, beq_iff_eq, bne_iff_ne, beq_eq_false_iff_ne, false_or, or_false, true_and, and_true, hX.lenT, List.length_map] at hx; first | (exfalso; omega) | skip) | skip)
        | trivial
        | exact fit_ofL _ _
        | (simp (disch := omega) only [notAgg_v, notAgg_sl, plain_v, fits, fitsOne, fitsCells, xsOf, cell_zero, cell_succ, List.range, List.range.loop, List.map, cond_true, cond_false, D.v.injEq, exists_eq', exists_eq, and_self, and_true, true_and, D.agg.injEq, List.length, exists_eq_left', D.sl.injEq, reduceCtorEq, false_or, true_or, or_true, or_false, cell_zero, cell_succ, cell_v, cells_v, cells_agg, List.length_cons, List.length_nil, hX.lenT, List.length_map]; done))
      all_goals first
        | (exfalso; omega)
        | omega
        | rfl
        | exact hX.notAgg
        | exact ⟨_, rfl⟩
        | assumption
        | (simp only [leftG]; omega)
        | (rw [h1]; exact Nat.le_refl _)
        | exact plain_ofL (ivs_plain _)
        | exact plain_v _
        | exact fit_ofL _ _
        | exact .inl rfl
        | (simp only [List.length_map, List.length_take, List.length_cons, List.length_nil]; omega)
        | (simp; done)
        | fail

theorem vc_came (x : D) (ps : List Pt) (b : Int) (r : List Int) : Cond Try.prog (fun _ => none) Try.f22 [.agg [.v (.int .i64 b), str r, x]] [ofL 2 ((blkF b r.length ps ps.length).map ivD)] = (((∃ (cs : List D), D.agg [D.v (Value.int IntKind.i64 b), str r, x] = D.agg cs ∧ cs.length = 3) ∧ True) ∧ ∃ (r_1 : D), D.lenT (TypeDesc.slice 70) x = some r_1 ∧ ∃ (r_2 : D), PureD Try.prog 24 [D.agg [D.v (Value.int IntKind.i64 b), str r, x], r_1] [r_2] ∧ fits [(false, [some 2])] [r_2] ∧ (PlainD r_2 ∧ True) ∧ [r_2] = [ofL 2 (List.map ivD (blkF b r.length ps ↑ps.length))]) := by kernel_rfl
set_option maxHeartbeats 4000000 in
theorem came (x : D) (ps : List Pt) (b : Int) (r : List Int) (hX : IsL 2 (ps.map ptD) x) (hP : AllB ps) (hm : ps.length ≤ 100000) (hr : r.length ≤ 100000) : PureD Try.prog 22 [.agg [.v (.int .i64 b), str r, x]] [ofL 2 ((blkF b r.length ps ps.length).map ivD)] := by
  refine pure_cond (Lp := (fun _ => none)) (by kernel_rfl) Try.func22 (by kernel_rfl) (by kernel_rfl) ?_
  rw [vc_came x ps b r]
  simp only [hX.lenT, List.length_map, Option.some.injEq, exists_eq_left']
  have K := blocks x ps b r ps.length hX hP hm hr
  have h1 : True := trivial
  repeat' (first
    | (refine ex_some (by simp (disch := omega) only [bin_shr, bin_shl, bin_and, bin_or, bin_xor, len_str, toStr_ofL, bin_add, bin_sub, bin_mul, bin_quo, bin_rem, bin_lss, bin_leq, bin_gtr, bin_geq, bin_eql, bin_neq, eqs_cn, eqs_ci, eqs_cb, eqs_cs, Option.map_some, lenT_ofL, lst_ofL, lstSz_ofL, chunk_one, lst_nil, lst_sl, lstSz_sl, lstSz_nil, Bool.and_true, Bool.true_and, Bool.and_false, Bool.false_and, beq_self_eq_true, beq_bb, bne_bb, un_not, un_neg, conv_int, min2_int, max2_int, w64, w32, wu8, wu16, wu32, wu64, tdiv_nn, tmod_nn, cell_zero, cell_succ, cell_v, cells_v, cells_agg, Bool.not_true, Bool.not_false, Int.reduceLT, Int.reduceLE, Int.reduceEq, Int.reduceNeg, Int.reduceAdd, Int.reduceSub, Int.reduceMul, intOf_v, decide_true, decide_false, hX.lenT, List.length_map]; rfl) ?_)
    | (refine ex_bool ?_)
    | (refine ⟨_, K, ?_⟩)
    | (refine And.intro ?_ ?_)
    | (intro hx; have hprop := (show ∀ (p : Prop), p → True from fun _ _ => True.intro) _ hx; clear hprop; first | (cases hx; done) | (exfalso; revert hx; simp (disch := omega) only [decide_eq_true_eq, decide_eq_false_iff_not, Bool.not_eq_true', Bool.not_eq_false', Bool.and_eq_true, Bool.and_eq_false_iff, Int.not_lt, Int.not_le, ne_eq, not_false_eq_true, not_true_eq_false, reduceCtorEq, Bool.true_eq_false, Bool.false_eq_true, beq_iff_eq, bne_iff_ne, beq_eq_false_iff_ne, false_or, or_false, true_and, and_true, hX.lenT, List.length_map]; done) | (simp (disch := omega) only [decide_eq_true_eq, decide_eq_false_iff_not, Bool.not_eq_true', Bool.not_eq_false', Bool.and_eq_true, Bool.and_eq_false_iff, Int.not_lt, Int.not_le, ne_eq, not_false_eq_true, not_true_eq_false, reduceCtorEq, Bool.true_eq_false, Bool.false_eq_true, beq_iff_eq, bne_iff_ne, beq_eq_false_iff_ne, false_or, or_false, true_and, and_true, hX.lenT, List.length_map] at hx; first | (exfalso; omega) | skip) | skip)
    | trivial
    | exact fit_ofL _ _
    | (simp (disch := omega) only [notAgg_v, notAgg_sl, plain_v, fits, fitsOne, fitsCells, xsOf, cell_zero, cell_succ, List.range, List.range.loop, List.map, cond_true, cond_false, D.v.injEq, exists_eq', exists_eq, and_self, and_true, true_and, D.agg.injEq, List.length, exists_eq_left', D.sl.injEq, reduceCtorEq, false_or, true_or, or_true, or_false, cell_zero, cell_succ, cell_v, cells_v, cells_agg, List.length_cons, List.length_nil, hX.lenT, List.length_map]; done))
  all_goals first
    | (exfalso; omega)
    | omega
    | rfl
    | exact hX.notAgg
    | exact ⟨_, rfl⟩
    | assumption
    | (simp only [leftG]; omega)
    | (rw [h1]; exact Nat.le_refl _)
    | exact plain_ofL (ivs_plain _)
    | exact plain_v _
    | exact fit_ofL _ _
    | exact .inl rfl
    | (simp only [List.length_map, List.length_take, List.length_cons, List.length_nil]; omega)
    | (simp; done)
    | fail

theorem vc_rcame (x : D) (ps : List Pt) (b : Int) (r : List Int) : Cond Try.prog (fun k => if k = 3 then some ⟨[4], [3], [1], []⟩ else none) Try.f23 [.agg [.v (.int .i64 b), str r, x]] [ofL 2 ((blkF b r.length ps ps.length).map ivD)] = (((∃ (cs : List D), D.agg [D.v (Value.int IntKind.i64 b), str r, x] = D.agg cs ∧ cs.length = 3) ∧ True) ∧ ∃ (I : List D → Prop), ∃ (μ : List D → Nat), ((D.v (Value.int IntKind.i64 0) = D.v (Value.int IntKind.i64 0) ∧ true = true ∧ (true = true ∧ true = true) ∧ True) ∧ ((true = true ∧ D.v nilS = D.v nilS) ∧ (D.v (Value.int IntKind.i64 b) = D.v (Value.int IntKind.i64 b) ∧ str r = str r ∧ x = x ∧ True) ∧ True) ∧ I [D.v (Value.int IntKind.i64 0), D.v nilS]) ∧ ∀ (r_1 r_2 : D), I [r_1, r_2] → ∃ (r_3 : D), D.lenT (TypeDesc.slice 69) x = some r_3 ∧ ∃ (r_4 : D), D.bin BinOp.lss r_1 r_3 = some r_4 ∧ ∃ (b_1 : Bool), r_4 = D.v (Value.bool b_1) ∧ (b_1 = true → ∃ (r_5 : D), PureD Try.prog 18 [D.agg [D.v (Value.int IntKind.i64 b), str r, x]] [r_5] ∧ fits [(false, [none])] [r_5] ∧ ∃ (r_6 : D), D.bin BinOp.eql r_5 (D.v (Value.int IntKind.i64 0)) = some r_6 ∧ ∃ (b_2 : Bool), r_6 = D.v (Value.bool b_2) ∧ (b_2 = true → D.inb 2 x r_1 ∧ 0 + 1 ≤ (x.at_ r_1).cells.length ∧ D.inb 2 x r_1 ∧ 0 + 1 ≤ (x.at_ r_1).cells.length ∧ D.inb 2 x r_1 ∧ 0 + 1 + 1 ≤ (x.at_ r_1).cells.length ∧ ∃ (r_7 : D), D.lenT TypeDesc.string ((x.at_ r_1).cell (0 + 1)) = some r_7 ∧ ∃ (r_8 : D), D.bin BinOp.add ((x.at_ r_1).cell 0) r_7 = some r_8 ∧ ∃ (ls : List D), r_2.lst = some ls ∧ ∃ (lx : List D), D.lstSz 2 (D.sl 2 (chunks true 2 1 [(x.at_ r_1).cell 0, r_8])) = some lx ∧ (ls.length + lx.length) * 16 ≤ 1099511627776 ∧ ∃ (r_9 : D), D.bin BinOp.add r_1 (D.v (Value.int IntKind.i64 1)) = some r_9 ∧ (r_9 = r_9 ∧ true = true ∧ (true = true ∧ true = true) ∧ True) ∧ ((true = true ∧ D.app 2 r_2 lx = D.app 2 r_2 lx) ∧ (D.v (Value.int IntKind.i64 b) = D.v (Value.int IntKind.i64 b) ∧ str r = str r ∧ x = x ∧ True) ∧ True) ∧ I [r_9, D.app 2 r_2 lx] ∧ μ [r_9, D.app 2 r_2 lx] < μ [r_1, r_2]) ∧ (b_2 = false → (PlainD r_2 ∧ True) ∧ [r_2] = [ofL 2 (List.map ivD (blkF b r.length ps ↑ps.length))])) ∧ (b_1 = false → (PlainD r_2 ∧ True) ∧ [r_2] = [ofL 2 (List.map ivD (blkF b r.length ps ↑ps.length))])) := by kernel_rfl
set_option maxHeartbeats 8000000 in
theorem rcame (x : D) (ps : List Pt) (b : Int) (r : List Int) (hX : IsL 2 (ps.map ptD) x) (hP : AllB ps) (hm : ps.length ≤ 100000) (hr : r.length ≤ 100000) : PureD Try.prog 23 [.agg [.v (.int .i64 b), str r, x]] [ofL 2 ((blkF b r.length ps ps.length).map ivD)] := by
  refine pure_cond (Lp := (fun k => if k = 3 then some ⟨[4], [3], [1], []⟩ else none)) (by kernel_rfl) Try.func23 (by kernel_rfl) (by kernel_rfl) ?_
  rw [vc_rcame x ps b r]
  simp only [hX.lenT, List.length_map, Option.some.injEq, exists_eq_left']
  have CK := rcheck x ps b r hX hP hm hr
  have h1 : True := trivial
  by_cases hc : chkF b r.length ps = 0
  · rw [hc] at CK
    have hB : blkF b r.length ps ps.length = ps.map blkI := by unfold blkF; rw [if_pos hc, Int.toNat_natCast, List.take_length]
    rw [hB]
    repeat' (first
      | (refine ex_some (by simp (disch := omega) only [bin_shr, bin_shl, bin_and, bin_or, bin_xor, len_str, toStr_ofL, bin_add, bin_sub, bin_mul, bin_quo, bin_rem, bin_lss, bin_leq, bin_gtr, bin_geq, bin_eql, bin_neq, eqs_cn, eqs_ci, eqs_cb, eqs_cs, Option.map_some, lenT_ofL, lst_ofL, lstSz_ofL, chunk_one, lst_nil, lst_sl, lstSz_sl, lstSz_nil, Bool.and_true, Bool.true_and, Bool.and_false, Bool.false_and, beq_self_eq_true, beq_bb, bne_bb, un_not, un_neg, conv_int, min2_int, max2_int, w64, w32, wu8, wu16, wu32, wu64, tdiv_nn, tmod_nn, cell_zero, cell_succ, cell_v, cells_v, cells_agg, Bool.not_true, Bool.not_false, Int.reduceLT, Int.reduceLE, Int.reduceEq, Int.reduceNeg, Int.reduceAdd, Int.reduceSub, Int.reduceMul, intOf_v, decide_true, decide_false, h1, ch2, hX.lenT, List.length_map]; rfl) ?_)
      | (refine ex_bool ?_)
      | (refine ⟨_, CK, ?_⟩)
      | (exact i1)
      | (refine ⟨(fun r3 => ∃ k : Nat, k ≤ ps.length ∧ r3 = [.v (.int .i64 (k : Nat)), ofL 2 (((ps.take k).map blkI).map ivD)]), leftG ps.length, ?_⟩)
      | (refine fun (r3 r4 : D) (hI : (fun r3 => ∃ k : Nat, k ≤ ps.length ∧ r3 = [.v (.int .i64 (k : Nat)), ofL 2 (((ps.take k).map blkI).map ivD)]) [r3, r4]) => ?_; obtain ⟨k, hk, hl0⟩ := hI; simp only [List.cons.injEq, and_true] at hl0; obtain ⟨rfl, rfl⟩ := hl0; by_cases hlt : k < ps.length <;> first | (have hk3 : k < ps.length := (by omega); have h1 := pt_get hX hk3; have i1 := pt_inb hX hk3; have hb := chk_pts hc hk3; have hbb := pt_in hP hk3; have ht : ((ps.take (k + 1)).map blkI) = ((ps.take k).map blkI) ++ [blkI (ps.getD k (0, []))] := (by rw [take_sn (d := (0, [])) hk3, List.map_append]; rfl); generalize ps.getD k (0, []) = p at h1 hb hbb ht; obtain ⟨a, s⟩ := p; simp only [blkI] at hb hbb ht; have hE := ends1 a s (by omega) (by omega) hbb.2; have ha := appI ((ps.take k).map blkI) (a, a + s.length); simp only [h1, ptD, Nat.zero_add, cell_zero, cell_succ, cells_agg, List.length_cons, List.length_nil]; have inl1 : True := trivial) | (have hkk : k = ps.length := (by omega); subst hkk; rw [List.take_length]; have h1 : True := trivial; have out1 : True := trivial))
      | (have := inl1; refine ⟨k + 1, by omega, ?_⟩)
      | (exact ⟨0, Nat.zero_le _, rfl⟩)
      | (refine And.intro ?_ ?_)
      | (intro hx; have hprop := (show ∀ (p : Prop), p → True from fun _ _ => True.intro) _ hx; clear hprop; first | (cases hx; done) | (exfalso; revert hx; simp (disch := omega) only [decide_eq_true_eq, decide_eq_false_iff_not, Bool.not_eq_true', Bool.not_eq_false', Bool.and_eq_true, Bool.and_eq_false_iff, Int.not_lt, Int.not_le, ne_eq, not_false_eq_true, not_true_eq_false, reduceCtorEq, Bool.true_eq_false, Bool.false_eq_true, beq_iff_eq, bne_iff_ne, beq_eq_false_iff_ne, false_or, or_false, true_and, and_true, h1, ch2, hX.lenT, List.length_map]; done) | (simp (disch := omega) only [decide_eq_true_eq, decide_eq_false_iff_not, Bool.not_eq_true', Bool.not_eq_false', Bool.and_eq_true, Bool.and_eq_false_iff, Int.not_lt, Int.not_le, ne_eq, not_false_eq_true, not_true_eq_false, reduceCtorEq, Bool.true_eq_false, Bool.false_eq_true, beq_iff_eq, bne_iff_ne, beq_eq_false_iff_ne, false_or, or_false, true_and, and_true, h1, ch2, hX.lenT, List.length_map] at hx; first | (exfalso; omega) | skip) | skip)
      | trivial
      | exact fit_ofL _ _
      | (simp (disch := omega) only [notAgg_v, notAgg_sl, plain_v, fits, fitsOne, fitsCells, xsOf, cell_zero, cell_succ, List.range, List.range.loop, List.map, cond_true, cond_false, D.v.injEq, exists_eq', exists_eq, and_self, and_true, true_and, D.agg.injEq, List.length, exists_eq_left', D.sl.injEq, reduceCtorEq, false_or, true_or, or_true, or_false, cell_zero, cell_succ, cell_v, cells_v, cells_agg, List.length_cons, List.length_nil, h1, ch2, hX.lenT, List.length_map]; done))
    all_goals first
      | (exfalso; omega)
      | omega
      | rfl
      | exact hX.notAgg
      | exact ⟨_, rfl⟩
      | assumption
      | (simp only [leftG]; omega)
      | (rw [h1]; exact Nat.le_refl _)
      | exact plain_ofL (ivs_plain _)
      | exact plain_v _
      | exact fit_ofL _ _
      | exact .inl rfl
      | (simp only [List.length_map, List.length_take, List.length_cons, List.length_nil]; omega)
      | (rw [ht, ← ha]; rfl)
      | (simp; done)
      | fail
  · rw [blk_no hc]
    repeat' (first
      | (refine ex_some (by simp (disch := omega) only [bin_shr, bin_shl, bin_and, bin_or, bin_xor, len_str, toStr_ofL, bin_add, bin_sub, bin_mul, bin_quo, bin_rem, bin_lss, bin_leq, bin_gtr, bin_geq, bin_eql, bin_neq, eqs_cn, eqs_ci, eqs_cb, eqs_cs, Option.map_some, lenT_ofL, lst_ofL, lstSz_ofL, chunk_one, lst_nil, lst_sl, lstSz_sl, lstSz_nil, Bool.and_true, Bool.true_and, Bool.and_false, Bool.false_and, beq_self_eq_true, beq_bb, bne_bb, un_not, un_neg, conv_int, min2_int, max2_int, w64, w32, wu8, wu16, wu32, wu64, tdiv_nn, tmod_nn, cell_zero, cell_succ, cell_v, cells_v, cells_agg, Bool.not_true, Bool.not_false, Int.reduceLT, Int.reduceLE, Int.reduceEq, Int.reduceNeg, Int.reduceAdd, Int.reduceSub, Int.reduceMul, intOf_v, decide_true, decide_false, hX.lenT, List.length_map]; rfl) ?_)
      | (refine ex_bool ?_)
      | (refine ⟨_, CK, ?_⟩)
      | (refine ⟨(fun r3 => r3 = [.v (.int .i64 0), .v nilS]), fun _ => 0, ?_⟩)
      | (refine fun (r3 r4 : D) (hI : (fun r3 => r3 = [.v (.int .i64 0), .v nilS]) [r3, r4]) => ?_; have hl0 := hI; simp only [List.cons.injEq, and_true] at hl0; obtain ⟨rfl, rfl⟩ := hl0)
      | (exact rfl)
      | (refine And.intro ?_ ?_)
      | (intro hx; have hprop := (show ∀ (p : Prop), p → True from fun _ _ => True.intro) _ hx; clear hprop; first | (cases hx; done) | (exfalso; revert hx; simp (disch := omega) only [decide_eq_true_eq, decide_eq_false_iff_not, Bool.not_eq_true', Bool.not_eq_false', Bool.and_eq_true, Bool.and_eq_false_iff, Int.not_lt, Int.not_le, ne_eq, not_false_eq_true, not_true_eq_false, reduceCtorEq, Bool.true_eq_false, Bool.false_eq_true, beq_iff_eq, bne_iff_ne, beq_eq_false_iff_ne, false_or, or_false, true_and, and_true, hX.lenT, List.length_map]; done) | (simp (disch := omega) only [decide_eq_true_eq, decide_eq_false_iff_not, Bool.not_eq_true', Bool.not_eq_false', Bool.and_eq_true, Bool.and_eq_false_iff, Int.not_lt, Int.not_le, ne_eq, not_false_eq_true, not_true_eq_false, reduceCtorEq, Bool.true_eq_false, Bool.false_eq_true, beq_iff_eq, bne_iff_ne, beq_eq_false_iff_ne, false_or, or_false, true_and, and_true, hX.lenT, List.length_map] at hx; first | (exfalso; omega) | skip) | skip)
      | trivial
      | exact fit_ofL _ _
      | (simp (disch := omega) only [notAgg_v, notAgg_sl, plain_v, fits, fitsOne, fitsCells, xsOf, cell_zero, cell_succ, List.range, List.range.loop, List.map, cond_true, cond_false, D.v.injEq, exists_eq', exists_eq, and_self, and_true, true_and, D.agg.injEq, List.length, exists_eq_left', D.sl.injEq, reduceCtorEq, false_or, true_or, or_true, or_false, cell_zero, cell_succ, cell_v, cells_v, cells_agg, List.length_cons, List.length_nil, hX.lenT, List.length_map]; done))
    all_goals first
      | (exfalso; omega)
      | omega
      | rfl
      | exact hX.notAgg
      | exact ⟨_, rfl⟩
      | assumption
      | (simp only [leftG]; omega)
      | (rw [h1]; exact Nat.le_refl _)
      | exact plain_ofL (ivs_plain _)
      | exact plain_v _
      | exact fit_ofL _ _
      | exact .inl rfl
      | (simp only [List.length_map, List.length_take, List.length_cons, List.length_nil]; omega)
      | (simp; done)
      | fail

end Go.Proofs.Ytoeefdjomhbnlaa