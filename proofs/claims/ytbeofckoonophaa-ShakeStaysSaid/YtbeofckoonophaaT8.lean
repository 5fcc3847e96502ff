/-
  Layer 13: the law ShakeStays.
-/
import Derived.Test.YtbeofckoonophaaT1
import Derived.Test.YtbeofckoonophaaT2
import Derived.Test.YtbeofckoonophaaT3
import Derived.Test.YtbeofckoonophaaT4
import Derived.Test.YtbeofckoonophaaT5
import Derived.Test.YtbeofckoonophaaT6
import Derived.Test.YtbeofckoonophaaT7
namespace Go.Proofs.Ytbeofckoonophaa
open Go.RowKit
set_option linter.unusedSimpArgs false
set_option linter.unusedVariables false


theorem on_stays {pt eo mi : Int} {p : Int × Int} {g : Sg} : (3 ≤ p.1 → p.1 ≤ (onG pt eo mi p g).1) ∧ (2 ≤ p.1 → (onG pt eo mi p g).2 = p.2 ∧ p.1 ≤ (onG pt eo mi p g).1) := by
  have hc : shChk p.1 pt eo p.2 = 0 → p.1 ≤ 4 := by unfold shChk; (repeat' split) <;> omega
  unfold onG onF
  split
  · exact ⟨fun _ => Int.le_refl _, fun _ => ⟨rfl, Int.le_refl _⟩⟩
  rename_i h1
  simp only [not_or, ne_eq, Decidable.not_not] at h1
  have h4 := hc h1.1
  split
  · refine ⟨fun _ => h4, fun _ => ⟨rfl, h4⟩⟩
  split
  · rename_i h; have h := h.1; refine ⟨fun _ => ?_, fun _ => ⟨?_, ?_⟩⟩ <;> (simp only <;> omega)
  split
  · rename_i h; split <;> (refine ⟨fun _ => ?_, fun _ => ⟨?_, ?_⟩⟩ <;> (simp only <;> omega))
  split
  · rename_i h; have h := h.1; refine ⟨fun _ => ?_, fun _ => ⟨?_, ?_⟩⟩ <;> first | rfl | (simp only <;> omega)
  · exact ⟨fun _ => Int.le_refl _, fun _ => ⟨rfl, Int.le_refl _⟩⟩
theorem mem_getD {l : List Sg} {k : Nat} (hk : k < l.length) : l.getD k default ∈ l := by simp [List.getD, hk]

theorem vc_staysS (p : Int × Int) (pt eo mi : Int) (y : D) (l : List Sg) : Cond Try.prog (fun k => if k = 5 then some ⟨[6], [], [1, 5], [(5, [0, 1, 2, 3, 4], [])]⟩ else none) Try.f4 [.agg [.v (.int .u8 p.1), .v (.int .i64 pt), .v (.int .i64 eo), .v (.int .u32 mi), .v (.int .u32 p.2)], y] [.v (.bool true)] = (((∃ (cs : List D), D.agg [D.v (Value.int IntKind.u8 p.fst), D.v (Value.int IntKind.i64 pt), D.v (Value.int IntKind.i64 eo), D.v (Value.int IntKind.u32 mi), D.v (Value.int IntKind.u32 p.snd)] = D.agg cs ∧ cs.length = 5) ∧ NotAgg y ∧ True) ∧ ∃ (r : D), PureD Try.prog 7 [y] [r] ∧ fits [(false, [none])] [r] ∧ ∃ (r_1 : D), D.un UnOp.not r = some r_1 ∧ ∃ (b : Bool), r_1 = D.v (Value.bool b) ∧ (b = true → ∃ (r : D), PureD Try.prog 8 [] [r] ∧ fits [(false, [none])] [r] ∧ ((∃ (y : Value), r = D.v y) ∧ True) ∧ [r] = [D.v (Value.bool true)]) ∧ (b = false → ∃ (I : List D → Prop), ∃ (μ : List D → Nat), ((D.v (Value.int IntKind.i64 0) = D.v (Value.int IntKind.i64 0) ∧ y = y ∧ (true = true ∧ true = true) ∧ True) ∧ ((D.v (Value.int IntKind.u8 p.fst) = D.v (Value.int IntKind.u8 p.fst) ∧ D.v (Value.int IntKind.i64 pt) = D.v (Value.int IntKind.i64 pt) ∧ D.v (Value.int IntKind.i64 eo) = D.v (Value.int IntKind.i64 eo) ∧ D.v (Value.int IntKind.u32 mi) = D.v (Value.int IntKind.u32 mi) ∧ D.v (Value.int IntKind.u32 p.snd) = D.v (Value.int IntKind.u32 p.snd) ∧ True) ∧ True) ∧ I [D.v (Value.int IntKind.i64 0), D.v (Value.int IntKind.u8 p.fst), D.v (Value.int IntKind.i64 pt), D.v (Value.int IntKind.i64 eo), D.v (Value.int IntKind.u32 mi), D.v (Value.int IntKind.u32 p.snd)]) ∧ ∀ (r r_2 r_3 r_4 r_5 r_6 : D), I [r, r_2, r_3, r_4, r_5, r_6] → ∃ (r_7 : D), D.lenT (TypeDesc.slice 37) y = some r_7 ∧ ∃ (r_8 : D), D.bin BinOp.lss r r_7 = some r_8 ∧ ∃ (b : Bool), r_8 = D.v (Value.bool b) ∧ (b = true → D.inb 8 y r ∧ 0 + 8 ≤ (y.at_ r).cells.length ∧ ∃ (r_9 : D), PureD Try.prog 19 [D.agg [(y.at_ r).cell (0 + 0), (y.at_ r).cell (0 + 1), (y.at_ r).cell (0 + 2), (y.at_ r).cell (0 + 3), (y.at_ r).cell (0 + 4), (y.at_ r).cell (0 + 5), (y.at_ r).cell (0 + 6), (y.at_ r).cell (0 + 7)]] [r_9] ∧ fits [(true, [none, none, none, none, none, none, some 2, none])] [r_9] ∧ ∃ (r_10 : D), PureD Try.prog 22 [D.agg [r_2, r_3, r_4, r_5, r_6], D.agg [r_9.cell 0, r_9.cell 1, r_9.cell 2, r_9.cell 3, r_9.cell 4, r_9.cell 5, r_9.cell 6, r_9.cell 7]] [r_10] ∧ fits [(true, [none, none, none, none, none])] [r_10] ∧ ∃ (r_11 : D), D.bin BinOp.neq (r_10.cell 3) r_5 = some r_11 ∧ ∃ (b : Bool), r_11 = D.v (Value.bool b) ∧ (b = false → ∃ (r_12 : D), D.bin BinOp.neq (r_10.cell 1) r_3 = some r_12 ∧ ∃ (b : Bool), r_12 = D.v (Value.bool b) ∧ (b = false → ∃ (r_13 : D), D.bin BinOp.neq (r_10.cell 2) r_4 = some r_13 ∧ ∃ (b : Bool), r_13 = D.v (Value.bool b) ∧ (b = false → ∃ (r_14 : D), D.bin BinOp.geq r_2 (D.v (Value.int IntKind.u8 3)) = some r_14 ∧ ∃ (b : Bool), r_14 = D.v (Value.bool b) ∧ (b = true → ∃ (r_15 : D), D.bin BinOp.lss (r_10.cell 0) r_2 = some r_15 ∧ ∃ (b : Bool), r_15 = D.v (Value.bool b) ∧ (b = false → ∃ (r_16 : D), D.bin BinOp.geq r_2 (D.v (Value.int IntKind.u8 2)) = some r_16 ∧ ∃ (b : Bool), r_16 = D.v (Value.bool b) ∧ (b = true → ∃ (r_17 : D), D.bin BinOp.neq (r_10.cell 4) r_6 = some r_17 ∧ ∃ (b : Bool), r_17 = D.v (Value.bool b) ∧ (b = false → ∃ (r_18 : D), D.bin BinOp.lss (r_10.cell 0) r_2 = some r_18 ∧ ∃ (b : Bool), r_18 = D.v (Value.bool b) ∧ (b = true → (True ∧ True) ∧ [D.v (Value.bool false)] = [D.v (Value.bool true)]) ∧ (b = false → ∃ (r_19 : D), D.bin BinOp.add r (D.v (Value.int IntKind.i64 1)) = some r_19 ∧ (r_19 = r_19 ∧ y = y ∧ (true = true ∧ true = true) ∧ True) ∧ ((r_10.cell 0 = r_10.cell 0 ∧ r_10.cell 1 = r_10.cell 1 ∧ r_10.cell 2 = r_10.cell 2 ∧ r_10.cell 3 = r_10.cell 3 ∧ r_10.cell 4 = r_10.cell 4 ∧ True) ∧ True) ∧ I [r_19, r_10.cell 0, r_10.cell 1, r_10.cell 2, r_10.cell 3, r_10.cell 4] ∧ μ [r_19, r_10.cell 0, r_10.cell 1, r_10.cell 2, r_10.cell 3, r_10.cell 4] < μ [r, r_2, r_3, r_4, r_5, r_6])) ∧ (b = true → (True ∧ True) ∧ [D.v (Value.bool false)] = [D.v (Value.bool true)])) ∧ (b = false → ∃ (r_17 : D), D.bin BinOp.add r (D.v (Value.int IntKind.i64 1)) = some r_17 ∧ (r_17 = r_17 ∧ y = y ∧ (true = true ∧ true = true) ∧ True) ∧ ((r_10.cell 0 = r_10.cell 0 ∧ r_10.cell 1 = r_10.cell 1 ∧ r_10.cell 2 = r_10.cell 2 ∧ r_10.cell 3 = r_10.cell 3 ∧ r_10.cell 4 = r_10.cell 4 ∧ True) ∧ True) ∧ I [r_17, r_10.cell 0, r_10.cell 1, r_10.cell 2, r_10.cell 3, r_10.cell 4] ∧ μ [r_17, r_10.cell 0, r_10.cell 1, r_10.cell 2, r_10.cell 3, r_10.cell 4] < μ [r, r_2, r_3, r_4, r_5, r_6])) ∧ (b = true → (True ∧ True) ∧ [D.v (Value.bool false)] = [D.v (Value.bool true)])) ∧ (b = false → ∃ (r_15 : D), D.bin BinOp.geq r_2 (D.v (Value.int IntKind.u8 2)) = some r_15 ∧ ∃ (b : Bool), r_15 = D.v (Value.bool b) ∧ (b = true → ∃ (r_16 : D), D.bin BinOp.neq (r_10.cell 4) r_6 = some r_16 ∧ ∃ (b : Bool), r_16 = D.v (Value.bool b) ∧ (b = false → ∃ (r_17 : D), D.bin BinOp.lss (r_10.cell 0) r_2 = some r_17 ∧ ∃ (b : Bool), r_17 = D.v (Value.bool b) ∧ (b = true → (True ∧ True) ∧ [D.v (Value.bool false)] = [D.v (Value.bool true)]) ∧ (b = false → ∃ (r_18 : D), D.bin BinOp.add r (D.v (Value.int IntKind.i64 1)) = some r_18 ∧ (r_18 = r_18 ∧ y = y ∧ (true = true ∧ true = true) ∧ True) ∧ ((r_10.cell 0 = r_10.cell 0 ∧ r_10.cell 1 = r_10.cell 1 ∧ r_10.cell 2 = r_10.cell 2 ∧ r_10.cell 3 = r_10.cell 3 ∧ r_10.cell 4 = r_10.cell 4 ∧ True) ∧ True) ∧ I [r_18, r_10.cell 0, r_10.cell 1, r_10.cell 2, r_10.cell 3, r_10.cell 4] ∧ μ [r_18, r_10.cell 0, r_10.cell 1, r_10.cell 2, r_10.cell 3, r_10.cell 4] < μ [r, r_2, r_3, r_4, r_5, r_6])) ∧ (b = true → (True ∧ True) ∧ [D.v (Value.bool false)] = [D.v (Value.bool true)])) ∧ (b = false → ∃ (r_16 : D), D.bin BinOp.add r (D.v (Value.int IntKind.i64 1)) = some r_16 ∧ (r_16 = r_16 ∧ y = y ∧ (true = true ∧ true = true) ∧ True) ∧ ((r_10.cell 0 = r_10.cell 0 ∧ r_10.cell 1 = r_10.cell 1 ∧ r_10.cell 2 = r_10.cell 2 ∧ r_10.cell 3 = r_10.cell 3 ∧ r_10.cell 4 = r_10.cell 4 ∧ True) ∧ True) ∧ I [r_16, r_10.cell 0, r_10.cell 1, r_10.cell 2, r_10.cell 3, r_10.cell 4] ∧ μ [r_16, r_10.cell 0, r_10.cell 1, r_10.cell 2, r_10.cell 3, r_10.cell 4] < μ [r, r_2, r_3, r_4, r_5, r_6]))) ∧ (b = true → (True ∧ True) ∧ [D.v (Value.bool false)] = [D.v (Value.bool true)])) ∧ (b = true → (True ∧ True) ∧ [D.v (Value.bool false)] = [D.v (Value.bool true)])) ∧ (b = true → (True ∧ True) ∧ [D.v (Value.bool false)] = [D.v (Value.bool true)])) ∧ (b = false → ∃ (r : D), PureD Try.prog 8 [] [r] ∧ fits [(false, [none])] [r] ∧ ((∃ (y : Value), r = D.v y) ∧ True) ∧ [r] = [D.v (Value.bool true)]))) := by kernel_rfl
set_option maxHeartbeats 8000000 in
theorem staysS (p : Int × Int) (pt eo mi : Int) (y : D) (l : List Sg) (hp : Bd p) (m0 : 0 ≤ mi) (m1 : mi < 4294967296) (hL : IsL 8 (l.map sgD) y) (hall : ∀ g ∈ l, SgOk g) (hlt : lightF l = true) : PureD Try.prog 4 [.agg [.v (.int .u8 p.1), .v (.int .i64 pt), .v (.int .i64 eo), .v (.int .u32 mi), .v (.int .u32 p.2)], y] [.v (.bool true)] := by
  refine pure_cond (Lp := (fun k => if k = 5 then some ⟨[6], [], [1, 5], [(5, [0, 1, 2, 3, 4], [])]⟩ else none)) (by kernel_rfl) Try.func4 (by kernel_rfl) (by kernel_rfl) ?_
  rw [vc_staysS p pt eo mi y l]
  obtain ⟨hll, hsm⟩ := light_all hlt
  have LT := lightS y l hL hall hll
  rw [hlt] at LT
  simp only [hL.lenT, hL.notAgg, List.length_map, Option.some.injEq, exists_eq_left']
  have e1 : True := trivial
  repeat' (first
    | (refine ex_some (by simp (disch := omega) only [bin_shr, bin_shl, bin_and, bin_or, bin_xor, len_str, toStr_ofL, bin_add, bin_sub, bin_mul, bin_quo, bin_rem, bin_lss, bin_leq, bin_gtr, bin_geq, bin_eql, bin_neq, eqs_cn, eqs_ci, eqs_cb, eqs_cs, Option.map_some, lenT_ofL, lst_ofL, lstSz_ofL, chunk_one, lst_nil, lst_sl, lstSz_sl, lstSz_nil, Bool.and_true, Bool.true_and, Bool.and_false, Bool.false_and, beq_self_eq_true, beq_bb, bne_bb, un_not, un_neg, conv_int, min2_int, max2_int, w64, w32, wu8, wu16, wu32, wu64, tdiv_nn, tmod_nn, cell_zero, cell_succ, cell_v, cells_v, cells_agg, Bool.not_true, Bool.not_false, Int.reduceLT, Int.reduceLE, Int.reduceEq, Int.reduceNeg, Int.reduceAdd, Int.reduceSub, Int.reduceMul, intOf_v, decide_true, decide_false, e1, hL.lenT, List.length_map]; rfl) ?_)
    | (refine ex_bool ?_)
    | (refine ⟨_, awake, ?_⟩)
    | (refine ⟨_, LT, ?_⟩)
    | (refine ⟨_, OWN, ?_⟩)
    | (refine ⟨_, ON, ?_⟩)
    | (refine ⟨(fun r => ∃ (k : Nat) (p : Int × Int), k ≤ l.length ∧ Bd p ∧ r = [.v (.int .i64 (k : Nat)), .v (.int .u8 p.1), .v (.int .i64 pt), .v (.int .i64 eo), .v (.int .u32 mi), .v (.int .u32 p.2)]), leftN l.length, ?_⟩)
    | (refine fun (r1 r2 r3 r4 r5 r6 : D) (hI : (fun r => ∃ (k : Nat) (p : Int × Int), k ≤ l.length ∧ Bd p ∧ r = [.v (.int .i64 (k : Nat)), .v (.int .u8 p.1), .v (.int .i64 pt), .v (.int .i64 eo), .v (.int .u32 mi), .v (.int .u32 p.2)]) [r1, r2, r3, r4, r5, r6]) => ?_; obtain ⟨k, p, hk, hbd, hl0⟩ := hI; simp only [List.cons.injEq, and_true] at hl0; obtain ⟨rfl, rfl, rfl, rfl, rfl, rfl⟩ := hl0; by_cases hlt : k < l.length <;> first | (have hk1 : k < l.length := (by omega); have e1 := sgs_at hL hk1; have i1 := sgs_inb hL hk1; have hg := hall _ (mem_getD hk1); have hgl := hsm _ (mem_getD hk1); generalize l.getD k default = g at e1 hg hgl; have hbd2 := onG_bd (pt := pt) (eo := eo) (mi := mi) hbd hg; have hst := on_stays (pt := pt) (eo := eo) (mi := mi) (p := p) (g := g); obtain ⟨q1, q2⟩ := p; have OWN := ownS g.fl g.pa g.ep g.sq g.ak g.wi g.x g.zs g.s hg.hX (by omega) hg.hs (by omega) hg.f0 hg.f1; have ON := on q1 pt eo mi q2 g.fl g.pa g.ep g.sq g.ak g.wi (ofL 2 (prs g.zs)) g.zs g.s hbd.1.1 hbd.1.2 m0 m1 hbd.2.1 hbd.2.2 (isL_ofL _ _) (by omega) hg.hs (by omega) hg.f0 hg.f1 hg.q0 hg.q1 hg.a0 hg.a1; obtain ⟨z, hz⟩ : ∃ z, z = onG pt eo mi (q1, q2) g := ⟨_, rfl⟩; rw [← hz] at hbd2 hst; rw [show onF q1 pt eo mi q2 g.fl g.pa g.ep g.sq g.ak g.wi g.zs.length g.s.length = z from hz.symm] at ON; clear hz; obtain ⟨z1, z2⟩ := z; simp only at hst ON; simp only [sgD, sgX] at e1; simp only [e1, Nat.zero_add, cell_zero, cell_succ, cells_agg, List.length_cons, List.length_nil]; have inl : True := trivial) | (have hkk : k = l.length := (by omega); have e1 : True := trivial; have inl2 : True := trivial))
    | (exact i1)
    | (refine ⟨(0 : Nat), p, Nat.zero_le _, hp, rfl⟩)
    | (have := inl; refine ⟨(k + 1 : Nat), (z1, z2), by omega, hbd2, ?_⟩)
    | (refine And.intro ?_ ?_)
    | (intro hx; have hprop := (show ∀ (p : Prop), p → True from fun _ _ => True.intro) _ hx; clear hprop; first | (cases hx; done) | (exfalso; revert hx; simp (disch := omega) only [decide_eq_true_eq, decide_eq_false_iff_not, Bool.not_eq_true', Bool.not_eq_false', Bool.and_eq_true, Bool.and_eq_false_iff, Int.not_lt, Int.not_le, ne_eq, not_false_eq_true, not_true_eq_false, reduceCtorEq, Bool.true_eq_false, Bool.false_eq_true, beq_iff_eq, bne_iff_ne, beq_eq_false_iff_ne, false_or, or_false, true_and, and_true, e1, hL.lenT, List.length_map]; done) | (simp (disch := omega) only [decide_eq_true_eq, decide_eq_false_iff_not, Bool.not_eq_true', Bool.not_eq_false', Bool.and_eq_true, Bool.and_eq_false_iff, Int.not_lt, Int.not_le, ne_eq, not_false_eq_true, not_true_eq_false, reduceCtorEq, Bool.true_eq_false, Bool.false_eq_true, beq_iff_eq, bne_iff_ne, beq_eq_false_iff_ne, false_or, or_false, true_and, and_true, e1, hL.lenT, List.length_map] at hx; first | (exfalso; omega) | skip) | skip)
    | trivial
    | exact fit_ofL _ _
    | (simp (disch := omega) only [notAgg_v, notAgg_sl, plain_v, fits, fitsOne, fitsCells, xsOf, cell_zero, cell_succ, List.range, List.range.loop, List.map, cond_true, cond_false, D.v.injEq, exists_eq', exists_eq, and_self, and_true, true_and, D.agg.injEq, List.length, exists_eq_left', D.sl.injEq, reduceCtorEq, false_or, true_or, or_true, or_false, cell_zero, cell_succ, cell_v, cells_v, cells_agg, List.length_cons, List.length_nil, e1, hL.lenT, List.length_map]; done))
  all_goals first
    | (exfalso; omega)
    | omega
    | rfl
    | exact fit_ofL _ _
    | exact str_v _
    | exact ⟨_, rfl⟩
    | exact plainP _
    | exact plain_v _
    | (simp only [leftN]; omega)
    | (simp only [prs_len, List.length_cons, List.length_nil, List.length_take]; omega)
    | (simp; done)
    | fail

set_option maxHeartbeats 4000000 in
theorem staysM (p : Int × Int) (pt eo mi : Int) (y : D) (l : List Sg) (hp : Bd p) (m0 : 0 ≤ mi) (m1 : mi < 4294967296) (hL : IsL 8 (l.map sgD) y) (hall : ∀ g ∈ l, SgOk g) (hlt : lightF l = false) : PureD Try.prog 4 [.agg [.v (.int .u8 p.1), .v (.int .i64 pt), .v (.int .i64 eo), .v (.int .u32 mi), .v (.int .u32 p.2)], y] [.v (.bool true)] := by
  refine pure_cond (Lp := (fun k => if k = 5 then some ⟨[6], [], [1, 5], [(5, [0, 1, 2, 3, 4], [])]⟩ else none)) (by kernel_rfl) Try.func4 (by kernel_rfl) (by kernel_rfl) ?_
  rw [vc_staysS p pt eo mi y l]
  have LT : PureD Try.prog 7 [y] [.v (.bool false)] := by
    rw [← hlt]
    by_cases h : l.length ≤ 40
    · exact lightS y l hL hall h
    · exact lightM y l hL hall h
  simp only [hL.lenT, hL.notAgg, List.length_map, Option.some.injEq, exists_eq_left']
  have e1 : True := trivial
  repeat' (first
    | (refine ex_some (by simp (disch := omega) only [bin_shr, bin_shl, bin_and, bin_or, bin_xor, len_str, toStr_ofL, bin_add, bin_sub, bin_mul, bin_quo, bin_rem, bin_lss, bin_leq, bin_gtr, bin_geq, bin_eql, bin_neq, eqs_cn, eqs_ci, eqs_cb, eqs_cs, Option.map_some, lenT_ofL, lst_ofL, lstSz_ofL, chunk_one, lst_nil, lst_sl, lstSz_sl, lstSz_nil, Bool.and_true, Bool.true_and, Bool.and_false, Bool.false_and, beq_self_eq_true, beq_bb, bne_bb, un_not, un_neg, conv_int, min2_int, max2_int, w64, w32, wu8, wu16, wu32, wu64, tdiv_nn, tmod_nn, cell_zero, cell_succ, cell_v, cells_v, cells_agg, Bool.not_true, Bool.not_false, Int.reduceLT, Int.reduceLE, Int.reduceEq, Int.reduceNeg, Int.reduceAdd, Int.reduceSub, Int.reduceMul, intOf_v, decide_true, decide_false, e1, hL.lenT, List.length_map]; rfl) ?_)
    | (refine ex_bool ?_)
    | (refine ⟨_, awake, ?_⟩)
    | (refine ⟨_, LT, ?_⟩)
    | (refine And.intro ?_ ?_)
    | (intro hx; have hprop := (show ∀ (p : Prop), p → True from fun _ _ => True.intro) _ hx; clear hprop; first | (cases hx; done) | (exfalso; revert hx; simp (disch := omega) only [decide_eq_true_eq, decide_eq_false_iff_not, Bool.not_eq_true', Bool.not_eq_false', Bool.and_eq_true, Bool.and_eq_false_iff, Int.not_lt, Int.not_le, ne_eq, not_false_eq_true, not_true_eq_false, reduceCtorEq, Bool.true_eq_false, Bool.false_eq_true, beq_iff_eq, bne_iff_ne, beq_eq_false_iff_ne, false_or, or_false, true_and, and_true, e1, hL.lenT, List.length_map]; done) | (simp (disch := omega) only [decide_eq_true_eq, decide_eq_false_iff_not, Bool.not_eq_true', Bool.not_eq_false', Bool.and_eq_true, Bool.and_eq_false_iff, Int.not_lt, Int.not_le, ne_eq, not_false_eq_true, not_true_eq_false, reduceCtorEq, Bool.true_eq_false, Bool.false_eq_true, beq_iff_eq, bne_iff_ne, beq_eq_false_iff_ne, false_or, or_false, true_and, and_true, e1, hL.lenT, List.length_map] at hx; first | (exfalso; omega) | skip) | skip)
    | trivial
    | exact fit_ofL _ _
    | (simp (disch := omega) only [notAgg_v, notAgg_sl, plain_v, fits, fitsOne, fitsCells, xsOf, cell_zero, cell_succ, List.range, List.range.loop, List.map, cond_true, cond_false, D.v.injEq, exists_eq', exists_eq, and_self, and_true, true_and, D.agg.injEq, List.length, exists_eq_left', D.sl.injEq, reduceCtorEq, false_or, true_or, or_true, or_false, cell_zero, cell_succ, cell_v, cells_v, cells_agg, List.length_cons, List.length_nil, e1, hL.lenT, List.length_map]; done))
  all_goals first
    | (exfalso; omega)
    | omega
    | rfl
    | exact fit_ofL _ _
    | exact str_v _
    | exact ⟨_, rfl⟩
    | exact plainP _
    | exact plain_v _
    | (simp only [leftN]; omega)
    | (simp only [prs_len, List.length_cons, List.length_nil, List.length_take]; omega)
    | (simp; done)
    | fail


theorem typed_sgs {y : D} (h : Typed (.sl true [.int .u8, .int .i64, .int .i64, .int .u32, .int .u32, .int .i64, .sl true [.int .u32, .int .u32], .str]) y) : ∃ l : List Sg, IsL 8 (l.map sgD) y ∧ ∀ g ∈ l, SgOk g := by
  obtain ⟨es, h1, _, h3⟩ := h.row
  obtain ⟨l, rfl, hl⟩ := map_of (f := sgD) (p := SgOk) (es := es) (fun e he => by
    obtain ⟨ha, hc⟩ := h3 e he
    cases e with
    | agg ds => exact sg_cells hc
    | v x => cases ha
    | sl sz l => cases ha)
  exact ⟨l, h1, hl⟩
theorem law_ShakeStays (xs : List D) (h : All2 TypedA [(true, [.int .u8, .int .i64, .int .i64, .int .u32, .int .u32]), (false, [.sl true [.int .u8, .int .i64, .int .i64, .int .u32, .int .u32, .int .i64, .sl true [.int .u32, .int .u32], .str]])] xs) : PureD Try.prog 4 xs [.v (.bool true)] := by
  obtain ⟨x, xs, rfl, hx, h⟩ := h.cons_
  obtain ⟨y, xs, rfl, hy, h⟩ := h.cons_
  obtain rfl := h.nil_
  obtain ⟨st, pt, eo, mi, he, rfl, hs, ⟨m0, m1⟩, hh⟩ := typed_sh hx
  obtain ⟨l, hL, hall⟩ := typed_sgs hy.one
  cases hlt : lightF l
  · exact staysM (st, he) pt eo mi y l ⟨hs, hh⟩ m0 m1 hL hall hlt
  · exact staysS (st, he) pt eo mi y l ⟨hs, hh⟩ m0 m1 hL hall hlt

end Go.Proofs.Ytbeofckoonophaa