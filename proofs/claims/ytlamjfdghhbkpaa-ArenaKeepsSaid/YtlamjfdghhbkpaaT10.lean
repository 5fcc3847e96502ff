/-
  Layer 18: the same numbers; cells of the program, of the document; what every right program does.
-/
import Derived.Test.YtlamjfdghhbkpaaT1
import Derived.Test.YtlamjfdghhbkpaaT2
import Derived.Test.YtlamjfdghhbkpaaT3
import Derived.Test.YtlamjfdghhbkpaaT4
import Derived.Test.YtlamjfdghhbkpaaT5
import Derived.Test.YtlamjfdghhbkpaaT6
import Derived.Test.YtlamjfdghhbkpaaT7
import Derived.Test.YtlamjfdghhbkpaaT8
import Derived.Test.YtlamjfdghhbkpaaT9
namespace Go.Proofs.Ytlamjfdghhbkpaa
open Go.RowKit
set_option linter.unusedSimpArgs false
set_option linter.unusedVariables false


def sameIF (a b : List Int) : Bool := decide (a = b)
theorem ints_isO (l : List Int) : IsL 1 (ints .i64 l) (ofL 1 (ints .i64 l)) := isL_ofL _ _
theorem take_eqI {a b : List Int} {k : Nat} (hk : k < a.length) (hl : a.length = b.length) (h : a.take k = b.take k) : a.take (k + 1) = b.take (k + 1) ↔ a.getD k 0 = b.getD k 0 := by
  rw [List.take_succ_eq_append_getElem hk, List.take_succ_eq_append_getElem (l := b) (by omega), h]
  have hk2 : k < b.length := by omega
  rw [List.append_right_inj]
  simp [List.getD, hk, hk2]
theorem app_takeC {cs : List Cl} {k : Nat} (hk : k < cs.length) : (ofL 3 (cls (cs.take k))).app 3 [clD (cs.getD k c0)] = ofL 3 (cls (cs.take (k + 1))) := by
  rw [app_ofL]
  congr 1
  rw [List.take_succ_eq_append_getElem hk, List.getD_eq_getElem?_getD, List.getElem?_eq_getElem hk]
  simp only [cls, List.map_append, List.map_cons, List.map_nil, Option.getD_some]

theorem vc_sameI (x y : D) (a b : List Int) : Cond Try.prog (fun k => if k = 4 then some ⟨[5], [], [0, 1], []⟩ else none) Try.f21 [x, y] [.v (.bool (sameIF a b))] = ((NotAgg x ∧ NotAgg y ∧ True) ∧ ∃ (r : D), D.lenT (TypeDesc.slice 3) x = some r ∧ ∃ (r_1 : D), D.lenT (TypeDesc.slice 3) y = some r_1 ∧ ∃ (r_2 : D), D.bin BinOp.neq r r_1 = some r_2 ∧ ∃ (b_1 : Bool), r_2 = D.v (Value.bool b_1) ∧ (b_1 = true → (True ∧ True) ∧ [D.v (Value.bool false)] = [D.v (Value.bool (sameIF a b))]) ∧ (b_1 = false → ∃ (I : List D → Prop), ∃ (μ : List D → Nat), ((D.v (Value.int IntKind.i64 0) = D.v (Value.int IntKind.i64 0) ∧ x = x ∧ y = y ∧ True) ∧ True ∧ I [D.v (Value.int IntKind.i64 0)]) ∧ ∀ (r : D), I [r] → ∃ (r_3 : D), D.lenT (TypeDesc.slice 3) x = some r_3 ∧ ∃ (r_4 : D), D.bin BinOp.lss r r_3 = some r_4 ∧ ∃ (b_2 : Bool), r_4 = D.v (Value.bool b_2) ∧ (b_2 = true → D.inb 1 x r ∧ 0 + 1 ≤ (x.at_ r).cells.length ∧ D.inb 1 y r ∧ 0 + 1 ≤ (y.at_ r).cells.length ∧ ∃ (r_5 : D), D.bin BinOp.neq ((x.at_ r).cell 0) ((y.at_ r).cell 0) = some r_5 ∧ ∃ (b_3 : Bool), r_5 = D.v (Value.bool b_3) ∧ (b_3 = true → (True ∧ True) ∧ [D.v (Value.bool false)] = [D.v (Value.bool (sameIF a b))]) ∧ (b_3 = false → ∃ (r_6 : D), D.bin BinOp.add r (D.v (Value.int IntKind.i64 1)) = some r_6 ∧ (r_6 = r_6 ∧ x = x ∧ y = y ∧ True) ∧ True ∧ I [r_6] ∧ μ [r_6] < μ [r])) ∧ (b_2 = false → (True ∧ True) ∧ [D.v (Value.bool true)] = [D.v (Value.bool (sameIF a b))]))) := by kernel_rfl
set_option maxHeartbeats 4000000 in
theorem sameI (x y : D) (a b : List Int) (hX : IsL 1 (ints .i64 a) x) (hY : IsL 1 (ints .i64 b) y) (ha : a.length ≤ 100000) (hb : b.length ≤ 100000) : PureD Try.prog 21 [x, y] [.v (.bool (sameIF a b))] := by
  refine pure_cond (Lp := (fun k => if k = 4 then some ⟨[5], [], [0, 1], []⟩ else none)) (by kernel_rfl) Try.func21 (by kernel_rfl) (by kernel_rfl) ?_
  rw [vc_sameI x y a b]
  simp only [hX.notAgg, hY.notAgg, hX.lenT, hY.lenT, ints_length, Option.some.injEq, exists_eq_left']
  by_cases hab : a.length = b.length
  · have hab2 : True := trivial
    repeat' (first
      | (refine ex_some (by simp (disch := omega) only [bin_shr, bin_shl, bin_and, bin_or, bin_xor, len_str, toStr_ofL, bin_add, bin_sub, bin_mul, bin_quo, bin_rem, bin_lss, bin_leq, bin_gtr, bin_geq, bin_eql, bin_neq, eqs_cn, eqs_ci, eqs_cb, eqs_cs, Option.map_some, lenT_ofL, lst_ofL, lstSz_ofL, chunk_one, lst_nil, lst_sl, lstSz_sl, lstSz_nil, Bool.and_true, Bool.true_and, Bool.and_false, Bool.false_and, beq_self_eq_true, beq_bb, bne_bb, un_not, un_neg, conv_int, min2_int, max2_int, w64, w32, wu8, wu16, wu32, wu64, tdiv_nn, tmod_nn, cell_zero, cell_succ, cell_v, cells_v, cells_agg, Bool.not_true, Bool.not_false, Int.reduceLT, Int.reduceLE, Int.reduceEq, Int.reduceNeg, Int.reduceAdd, Int.reduceSub, Int.reduceMul, intOf_v, decide_true, decide_false]; rfl) ?_)
      | (refine ex_bool ?_)
      | (refine ⟨(fun r => ∃ k : Nat, k ≤ a.length ∧ a.take k = b.take k ∧ r = [.v (.int .i64 (k : Nat))]), leftG a.length, ?_⟩)
      | (refine fun (r2 : D) (hI : (fun r => ∃ k : Nat, k ≤ a.length ∧ a.take k = b.take k ∧ r = [.v (.int .i64 (k : Nat))]) [r2]) => ?_; obtain ⟨k, hk, hek, hl0⟩ := hI; simp only [List.cons.injEq, and_true] at hl0; subst hl0; by_cases hlt : k < a.length <;> first | (have hk1 : k < a.length := (by omega); have h1 := hX.at_ints (k := k) (by omega); have h2 := hY.at_ints (k := k) (by omega); have i1 := hX.inb_ints (k := k) (by omega); have i2 := hY.inb_ints (k := k) (by omega); have hst := take_eqI hk1 hab hek; simp only [h1, h2, cell_v, cells_v, List.length_cons, List.length_nil]; have inl : True := trivial) | (have hkk : k = a.length := (by omega); subst hkk; rw [List.take_length, hab, List.take_length] at hek; have inl2 : True := trivial))
      | (exact i1)
      | (exact i2)
      | (refine ⟨(0 : Nat), Nat.zero_le _, rfl, rfl⟩)
      | (have := inl; refine ⟨(k + 1 : Nat), by omega, ?_, rfl⟩)
      | (refine And.intro ?_ ?_)
      | (intro hx; have hprop := (show ∀ (p : Prop), p → True from fun _ _ => True.intro) _ hx; clear hprop; first | (cases hx; done) | (exfalso; revert hx; simp (disch := omega) only [decide_eq_true_eq, decide_eq_false_iff_not, Bool.not_eq_true', Bool.not_eq_false', Bool.and_eq_true, Bool.and_eq_false_iff, Int.not_lt, Int.not_le, ne_eq, not_false_eq_true, not_true_eq_false, reduceCtorEq, Bool.true_eq_false, Bool.false_eq_true, beq_iff_eq, bne_iff_ne, beq_eq_false_iff_ne, false_or, or_false, true_and, and_true]; done) | (simp (disch := omega) only [decide_eq_true_eq, decide_eq_false_iff_not, Bool.not_eq_true', Bool.not_eq_false', Bool.and_eq_true, Bool.and_eq_false_iff, Int.not_lt, Int.not_le, ne_eq, not_false_eq_true, not_true_eq_false, reduceCtorEq, Bool.true_eq_false, Bool.false_eq_true, beq_iff_eq, bne_iff_ne, beq_eq_false_iff_ne, false_or, or_false, true_and, and_true] at hx; first | (exfalso; omega) | skip) | skip)
      | trivial
      | exact fit_ofL _ _
      | (simp (disch := omega) only [notAgg_v, notAgg_sl, plain_v, fits, fitsOne, fitsCells, xsOf, cell_zero, cell_succ, List.range, List.range.loop, List.map, cond_true, cond_false, D.v.injEq, exists_eq', exists_eq, and_self, and_true, true_and, D.agg.injEq, List.length, exists_eq_left', D.sl.injEq, reduceCtorEq, false_or, true_or, or_true, or_false, cell_zero, cell_succ, cell_v, cells_v, cells_agg, List.length_cons, List.length_nil]; done))
    all_goals first
      | (exfalso; omega)
      | omega
      | (simp only [leftG]; omega)
      | (simp [sameIF, hek]; done)
      | (refine hst.2 ?_; first | omega | (simp_all; done))
      | (have hne : a ≠ b := fun h => by subst h; have := hst.1 rfl; first | omega | (simp_all; done)
         simp [sameIF, hne]; done)
      | (simp; done)
      | fail
  · have hsm : sameIF a b = false := by unfold sameIF; rw [decide_eq_false_iff_not]; intro h; exact hab (by rw [h])
    repeat' (first
      | (refine ex_some (by simp (disch := omega) only [bin_shr, bin_shl, bin_and, bin_or, bin_xor, len_str, toStr_ofL, bin_add, bin_sub, bin_mul, bin_quo, bin_rem, bin_lss, bin_leq, bin_gtr, bin_geq, bin_eql, bin_neq, eqs_cn, eqs_ci, eqs_cb, eqs_cs, Option.map_some, lenT_ofL, lst_ofL, lstSz_ofL, chunk_one, lst_nil, lst_sl, lstSz_sl, lstSz_nil, Bool.and_true, Bool.true_and, Bool.and_false, Bool.false_and, beq_self_eq_true, beq_bb, bne_bb, un_not, un_neg, conv_int, min2_int, max2_int, w64, w32, wu8, wu16, wu32, wu64, tdiv_nn, tmod_nn, cell_zero, cell_succ, cell_v, cells_v, cells_agg, Bool.not_true, Bool.not_false, Int.reduceLT, Int.reduceLE, Int.reduceEq, Int.reduceNeg, Int.reduceAdd, Int.reduceSub, Int.reduceMul, intOf_v, decide_true, decide_false]; rfl) ?_)
      | (refine ex_bool ?_)
      | (refine And.intro ?_ ?_)
      | (intro hx; have hprop := (show ∀ (p : Prop), p → True from fun _ _ => True.intro) _ hx; clear hprop; first | (cases hx; done) | (exfalso; revert hx; simp (disch := omega) only [decide_eq_true_eq, decide_eq_false_iff_not, Bool.not_eq_true', Bool.not_eq_false', Bool.and_eq_true, Bool.and_eq_false_iff, Int.not_lt, Int.not_le, ne_eq, not_false_eq_true, not_true_eq_false, reduceCtorEq, Bool.true_eq_false, Bool.false_eq_true, beq_iff_eq, bne_iff_ne, beq_eq_false_iff_ne, false_or, or_false, true_and, and_true]; done) | (simp (disch := omega) only [decide_eq_true_eq, decide_eq_false_iff_not, Bool.not_eq_true', Bool.not_eq_false', Bool.and_eq_true, Bool.and_eq_false_iff, Int.not_lt, Int.not_le, ne_eq, not_false_eq_true, not_true_eq_false, reduceCtorEq, Bool.true_eq_false, Bool.false_eq_true, beq_iff_eq, bne_iff_ne, beq_eq_false_iff_ne, false_or, or_false, true_and, and_true] at hx; first | (exfalso; omega) | skip) | skip)
      | trivial
      | exact fit_ofL _ _
      | (simp (disch := omega) only [notAgg_v, notAgg_sl, plain_v, fits, fitsOne, fitsCells, xsOf, cell_zero, cell_succ, List.range, List.range.loop, List.map, cond_true, cond_false, D.v.injEq, exists_eq', exists_eq, and_self, and_true, true_and, D.agg.injEq, List.length, exists_eq_left', D.sl.injEq, reduceCtorEq, false_or, true_or, or_true, or_false, cell_zero, cell_succ, cell_v, cells_v, cells_agg, List.length_cons, List.length_nil]; done))
    all_goals first | (exfalso; omega) | (rw [hsm]; done) | (simp_all; done) | fail

theorem vc_ownC (x : D) (cs : List Cl) (f u : Int) : Cond Try.prog (fun k => if k = 3 then some ⟨[4], [], [1, 2, 3], [(3, [1, 2], [0])]⟩ else none) Try.f8 [.agg [x, .v (.int .i64 f), .v (.int .i64 u)]] [.agg [ofL 3 (cls cs), .v (.int .i64 f), .v (.int .i64 u)]] = (((∃ (cs : List D), D.agg [x, D.v (Value.int IntKind.i64 f), D.v (Value.int IntKind.i64 u)] = D.agg cs ∧ cs.length = 3) ∧ True) ∧ ∃ (I : List D → Prop), ∃ (μ : List D → Nat), ((D.v (Value.int IntKind.i64 0) = D.v (Value.int IntKind.i64 0) ∧ (true = true ∧ true = true) ∧ (true = true ∧ true = true) ∧ (true = true ∧ true = true) ∧ True) ∧ ((true = true ∧ D.v nilS = D.v nilS) ∧ (true = true ∧ D.v (Value.int IntKind.i64 f) = D.v (Value.int IntKind.i64 f) ∧ D.v (Value.int IntKind.i64 u) = D.v (Value.int IntKind.i64 u) ∧ True) ∧ (x = x ∧ D.v (Value.int IntKind.i64 f) = D.v (Value.int IntKind.i64 f) ∧ D.v (Value.int IntKind.i64 u) = D.v (Value.int IntKind.i64 u) ∧ True) ∧ (true = true ∧ D.v (Value.int IntKind.i64 0) = D.v (Value.int IntKind.i64 0) ∧ D.v (Value.int IntKind.i64 0) = D.v (Value.int IntKind.i64 0) ∧ True) ∧ (true = true ∧ D.v (Value.slice none 0 0) = D.v (Value.slice none 0 0)) ∧ True) ∧ I [D.v (Value.int IntKind.i64 0), D.v (Value.int IntKind.i64 f), D.v (Value.int IntKind.i64 u), D.v nilS]) ∧ ∀ (r r_1 r_2 r_3 : D), I [r, r_1, r_2, r_3] → ∃ (r_4 : D), D.lenT (TypeDesc.slice 63) x = some r_4 ∧ ∃ (r_5 : D), D.bin BinOp.lss r r_4 = some r_5 ∧ ∃ (b : Bool), r_5 = D.v (Value.bool b) ∧ (b = true → D.inb 3 x r ∧ 0 + 3 ≤ (x.at_ r).cells.length ∧ ∃ (ls : List D), r_3.lst = some ls ∧ ∃ (lx : List D), D.lstSz 3 (D.sl 3 (chunks true 3 1 [(x.at_ r).cell (0 + 0), (x.at_ r).cell (0 + 1), (x.at_ r).cell (0 + 2)])) = some lx ∧ (ls.length + lx.length) * 24 ≤ 1099511627776 ∧ ∃ (r_6 : D), D.bin BinOp.add r (D.v (Value.int IntKind.i64 1)) = some r_6 ∧ (r_6 = r_6 ∧ (true = true ∧ true = true) ∧ (true = true ∧ true = true) ∧ (true = true ∧ true = true) ∧ True) ∧ ((true = true ∧ D.app 3 r_3 lx = D.app 3 r_3 lx) ∧ (true = true ∧ r_1 = r_1 ∧ r_2 = r_2 ∧ True) ∧ (x = x ∧ D.v (Value.int IntKind.i64 f) = D.v (Value.int IntKind.i64 f) ∧ D.v (Value.int IntKind.i64 u) = D.v (Value.int IntKind.i64 u) ∧ True) ∧ (true = true ∧ D.v (Value.int IntKind.i64 0) = D.v (Value.int IntKind.i64 0) ∧ D.v (Value.int IntKind.i64 0) = D.v (Value.int IntKind.i64 0) ∧ True) ∧ (true = true ∧ D.v (Value.slice none 0 0) = D.v (Value.slice none 0 0)) ∧ True) ∧ I [r_6, r_1, r_2, D.app 3 r_3 lx] ∧ μ [r_6, r_1, r_2, D.app 3 r_3 lx] < μ [r, r_1, r_2, r_3]) ∧ (b = false → (PlainD r_3 ∧ (∃ (y : Value), r_1 = D.v y) ∧ (∃ (y : Value), r_2 = D.v y) ∧ True) ∧ [D.agg [r_3, r_1, r_2]] = [D.agg [ofL 3 (cls cs), D.v (Value.int IntKind.i64 f), D.v (Value.int IntKind.i64 u)]])) := by kernel_rfl
set_option maxHeartbeats 4000000 in
theorem ownC (x : D) (cs : List Cl) (f u : Int) (hX : IsL 3 (cls cs) x) (hl : cs.length ≤ 100000) : PureD Try.prog 8 [.agg [x, .v (.int .i64 f), .v (.int .i64 u)]] [.agg [ofL 3 (cls cs), .v (.int .i64 f), .v (.int .i64 u)]] := by
  refine pure_cond (Lp := (fun k => if k = 3 then some ⟨[4], [], [1, 2, 3], [(3, [1, 2], [0])]⟩ else none)) (by kernel_rfl) Try.func8 (by kernel_rfl) (by kernel_rfl) ?_
  rw [vc_ownC x cs f u]
  simp only [hX.lenT, hX.notAgg, cls_len, Option.some.injEq, exists_eq_left']
  have h1 : True := trivial
  have s1 : True := trivial
  repeat' (first
    | (refine ex_some (by simp (disch := omega) only [bin_shr, bin_shl, bin_and, bin_or, bin_xor, len_str, toStr_ofL, bin_add, bin_sub, bin_mul, bin_quo, bin_rem, bin_lss, bin_leq, bin_gtr, bin_geq, bin_eql, bin_neq, eqs_cn, eqs_ci, eqs_cb, eqs_cs, Option.map_some, lenT_ofL, lst_ofL, lstSz_ofL, chunk_one, lst_nil, lst_sl, lstSz_sl, lstSz_nil, Bool.and_true, Bool.true_and, Bool.and_false, Bool.false_and, beq_self_eq_true, beq_bb, bne_bb, un_not, un_neg, conv_int, min2_int, max2_int, w64, w32, wu8, wu16, wu32, wu64, tdiv_nn, tmod_nn, cell_zero, cell_succ, cell_v, cells_v, cells_agg, Bool.not_true, Bool.not_false, Int.reduceLT, Int.reduceLE, Int.reduceEq, Int.reduceNeg, Int.reduceAdd, Int.reduceSub, Int.reduceMul, intOf_v, decide_true, decide_false, h1, s1, app_ofL, lst_ofL, cls_len, ch3, hX.lenT]; rfl) ?_)
    | (refine ex_bool ?_)
    | (refine ⟨(fun r => ∃ k : Nat, k ≤ cs.length ∧ r = [.v (.int .i64 (k : Nat)), .v (.int .i64 f), .v (.int .i64 u), ofL 3 (cls (cs.take k))]), leftG cs.length, ?_⟩)
    | (refine fun (r1 r2 r3 r4 : D) (hI : (fun r => ∃ k : Nat, k ≤ cs.length ∧ r = [.v (.int .i64 (k : Nat)), .v (.int .i64 f), .v (.int .i64 u), ofL 3 (cls (cs.take k))]) [r1, r2, r3, r4]) => ?_; obtain ⟨k, hk, hl0⟩ := hI; simp only [List.cons.injEq, and_true] at hl0; obtain ⟨rfl, rfl, rfl, rfl⟩ := hl0; by_cases hlt : k < cs.length <;> first | (have hk1 : k < cs.length := (by omega); have h1 := cls_at hX (z := (k : Nat)) (by omega) (by omega); rw [Int.toNat_natCast] at h1; have i1 := cls_inb hX (z := (k : Nat)) (by omega) (by omega); have s1 := app_takeC hk1; generalize cs.getD k c0 = p at h1 s1; obtain ⟨p1, p2, p3⟩ := p; simp only [clD] at h1 s1; simp only [h1, Nat.zero_add, cell_zero, cell_succ, cells_agg, List.length_cons, List.length_nil]; have inl : True := trivial) | (have hkk : k = cs.length := (by omega); subst hkk; rw [List.take_length]; have h1 : True := trivial; have s1 : True := trivial; have inl2 : True := trivial))
    | (exact i1)
    | (refine ⟨(0 : Nat), Nat.zero_le _, rfl⟩)
    | (have := inl; refine ⟨(k + 1 : Nat), by omega, ?_⟩)
    | (refine And.intro ?_ ?_)
    | (intro hx; have hprop := (show ∀ (p : Prop), p → True from fun _ _ => True.intro) _ hx; clear hprop; first | (cases hx; done) | (exfalso; revert hx; simp (disch := omega) only [decide_eq_true_eq, decide_eq_false_iff_not, Bool.not_eq_true', Bool.not_eq_false', Bool.and_eq_true, Bool.and_eq_false_iff, Int.not_lt, Int.not_le, ne_eq, not_false_eq_true, not_true_eq_false, reduceCtorEq, Bool.true_eq_false, Bool.false_eq_true, beq_iff_eq, bne_iff_ne, beq_eq_false_iff_ne, false_or, or_false, true_and, and_true, h1, s1, app_ofL, lst_ofL, cls_len, ch3, hX.lenT]; done) | (simp (disch := omega) only [decide_eq_true_eq, decide_eq_false_iff_not, Bool.not_eq_true', Bool.not_eq_false', Bool.and_eq_true, Bool.and_eq_false_iff, Int.not_lt, Int.not_le, ne_eq, not_false_eq_true, not_true_eq_false, reduceCtorEq, Bool.true_eq_false, Bool.false_eq_true, beq_iff_eq, bne_iff_ne, beq_eq_false_iff_ne, false_or, or_false, true_and, and_true, h1, s1, app_ofL, lst_ofL, cls_len, ch3, hX.lenT] at hx; first | (exfalso; omega) | skip) | skip)
    | trivial
    | exact fit_ofL _ _
    | (simp (disch := omega) only [notAgg_v, notAgg_sl, plain_v, fits, fitsOne, fitsCells, xsOf, cell_zero, cell_succ, List.range, List.range.loop, List.map, cond_true, cond_false, D.v.injEq, exists_eq', exists_eq, and_self, and_true, true_and, D.agg.injEq, List.length, exists_eq_left', D.sl.injEq, reduceCtorEq, false_or, true_or, or_true, or_false, cell_zero, cell_succ, cell_v, cells_v, cells_agg, List.length_cons, List.length_nil, h1, s1, app_ofL, lst_ofL, cls_len, ch3, hX.lenT]; done))
  all_goals first
    | (exfalso; omega)
    | omega
    | exact fit_ofL _ _
    | exact ⟨_, rfl⟩
    | exact fitC hX
    | exact plainC hX
    | exact plainO
    | (simp only [leftG]; omega)
    | (simp only [List.length_cons, List.length_nil, cls_len, List.length_take]; omega)
    | (rw [s1]; first | done | rfl)
    | (rw [← s1, app_ofL]; done)
    | rfl
    | (simp; done)
    | fail

theorem vc_backC (x : D) (cs : List Cl) (f u : Int) : Cond Try.prog (fun k => if k = 3 then some ⟨[4], [], [1, 2, 3], [(3, [1, 2], [0])]⟩ else none) Try.f16 [.agg [x, .v (.int .i64 f), .v (.int .i64 u)]] [.agg [ofL 3 (cls cs), .v (.int .i64 f), .v (.int .i64 u)]] = (((∃ (cs : List D), D.agg [x, D.v (Value.int IntKind.i64 f), D.v (Value.int IntKind.i64 u)] = D.agg cs ∧ cs.length = 3) ∧ True) ∧ ∃ (I : List D → Prop), ∃ (μ : List D → Nat), ((D.v (Value.int IntKind.i64 0) = D.v (Value.int IntKind.i64 0) ∧ (true = true ∧ true = true) ∧ (true = true ∧ true = true) ∧ (true = true ∧ true = true) ∧ True) ∧ ((true = true ∧ D.v nilS = D.v nilS) ∧ (true = true ∧ D.v (Value.int IntKind.i64 f) = D.v (Value.int IntKind.i64 f) ∧ D.v (Value.int IntKind.i64 u) = D.v (Value.int IntKind.i64 u) ∧ True) ∧ (x = x ∧ D.v (Value.int IntKind.i64 f) = D.v (Value.int IntKind.i64 f) ∧ D.v (Value.int IntKind.i64 u) = D.v (Value.int IntKind.i64 u) ∧ True) ∧ (true = true ∧ D.v (Value.int IntKind.i64 0) = D.v (Value.int IntKind.i64 0) ∧ D.v (Value.int IntKind.i64 0) = D.v (Value.int IntKind.i64 0) ∧ True) ∧ (true = true ∧ D.v (Value.slice none 0 0) = D.v (Value.slice none 0 0)) ∧ True) ∧ I [D.v (Value.int IntKind.i64 0), D.v (Value.int IntKind.i64 f), D.v (Value.int IntKind.i64 u), D.v nilS]) ∧ ∀ (r r_1 r_2 r_3 : D), I [r, r_1, r_2, r_3] → ∃ (r_4 : D), D.lenT (TypeDesc.slice 62) x = some r_4 ∧ ∃ (r_5 : D), D.bin BinOp.lss r r_4 = some r_5 ∧ ∃ (b : Bool), r_5 = D.v (Value.bool b) ∧ (b = true → D.inb 3 x r ∧ 0 + 3 ≤ (x.at_ r).cells.length ∧ ∃ (ls : List D), r_3.lst = some ls ∧ ∃ (lx : List D), D.lstSz 3 (D.sl 3 (chunks true 3 1 [(x.at_ r).cell (0 + 0), (x.at_ r).cell (0 + 1), (x.at_ r).cell (0 + 2)])) = some lx ∧ (ls.length + lx.length) * 24 ≤ 1099511627776 ∧ ∃ (r_6 : D), D.bin BinOp.add r (D.v (Value.int IntKind.i64 1)) = some r_6 ∧ (r_6 = r_6 ∧ (true = true ∧ true = true) ∧ (true = true ∧ true = true) ∧ (true = true ∧ true = true) ∧ True) ∧ ((true = true ∧ D.app 3 r_3 lx = D.app 3 r_3 lx) ∧ (true = true ∧ r_1 = r_1 ∧ r_2 = r_2 ∧ True) ∧ (x = x ∧ D.v (Value.int IntKind.i64 f) = D.v (Value.int IntKind.i64 f) ∧ D.v (Value.int IntKind.i64 u) = D.v (Value.int IntKind.i64 u) ∧ True) ∧ (true = true ∧ D.v (Value.int IntKind.i64 0) = D.v (Value.int IntKind.i64 0) ∧ D.v (Value.int IntKind.i64 0) = D.v (Value.int IntKind.i64 0) ∧ True) ∧ (true = true ∧ D.v (Value.slice none 0 0) = D.v (Value.slice none 0 0)) ∧ True) ∧ I [r_6, r_1, r_2, D.app 3 r_3 lx] ∧ μ [r_6, r_1, r_2, D.app 3 r_3 lx] < μ [r, r_1, r_2, r_3]) ∧ (b = false → (PlainD r_3 ∧ (∃ (y : Value), r_1 = D.v y) ∧ (∃ (y : Value), r_2 = D.v y) ∧ True) ∧ [D.agg [r_3, r_1, r_2]] = [D.agg [ofL 3 (cls cs), D.v (Value.int IntKind.i64 f), D.v (Value.int IntKind.i64 u)]])) := by kernel_rfl
set_option maxHeartbeats 4000000 in
theorem backC (x : D) (cs : List Cl) (f u : Int) (hX : IsL 3 (cls cs) x) (hl : cs.length ≤ 100000) : PureD Try.prog 16 [.agg [x, .v (.int .i64 f), .v (.int .i64 u)]] [.agg [ofL 3 (cls cs), .v (.int .i64 f), .v (.int .i64 u)]] := by
  refine pure_cond (Lp := (fun k => if k = 3 then some ⟨[4], [], [1, 2, 3], [(3, [1, 2], [0])]⟩ else none)) (by kernel_rfl) Try.func16 (by kernel_rfl) (by kernel_rfl) ?_
  rw [vc_backC x cs f u]
  simp only [hX.lenT, hX.notAgg, cls_len, Option.some.injEq, exists_eq_left']
  have h1 : True := trivial
  have s1 : True := trivial
  repeat' (first
    | (refine ex_some (by simp (disch := omega) only [bin_shr, bin_shl, bin_and, bin_or, bin_xor, len_str, toStr_ofL, bin_add, bin_sub, bin_mul, bin_quo, bin_rem, bin_lss, bin_leq, bin_gtr, bin_geq, bin_eql, bin_neq, eqs_cn, eqs_ci, eqs_cb, eqs_cs, Option.map_some, lenT_ofL, lst_ofL, lstSz_ofL, chunk_one, lst_nil, lst_sl, lstSz_sl, lstSz_nil, Bool.and_true, Bool.true_and, Bool.and_false, Bool.false_and, beq_self_eq_true, beq_bb, bne_bb, un_not, un_neg, conv_int, min2_int, max2_int, w64, w32, wu8, wu16, wu32, wu64, tdiv_nn, tmod_nn, cell_zero, cell_succ, cell_v, cells_v, cells_agg, Bool.not_true, Bool.not_false, Int.reduceLT, Int.reduceLE, Int.reduceEq, Int.reduceNeg, Int.reduceAdd, Int.reduceSub, Int.reduceMul, intOf_v, decide_true, decide_false, h1, s1, app_ofL, lst_ofL, cls_len, ch3, hX.lenT]; rfl) ?_)
    | (refine ex_bool ?_)
    | (refine ⟨(fun r => ∃ k : Nat, k ≤ cs.length ∧ r = [.v (.int .i64 (k : Nat)), .v (.int .i64 f), .v (.int .i64 u), ofL 3 (cls (cs.take k))]), leftG cs.length, ?_⟩)
    | (refine fun (r1 r2 r3 r4 : D) (hI : (fun r => ∃ k : Nat, k ≤ cs.length ∧ r = [.v (.int .i64 (k : Nat)), .v (.int .i64 f), .v (.int .i64 u), ofL 3 (cls (cs.take k))]) [r1, r2, r3, r4]) => ?_; obtain ⟨k, hk, hl0⟩ := hI; simp only [List.cons.injEq, and_true] at hl0; obtain ⟨rfl, rfl, rfl, rfl⟩ := hl0; by_cases hlt : k < cs.length <;> first | (have hk1 : k < cs.length := (by omega); have h1 := cls_at hX (z := (k : Nat)) (by omega) (by omega); rw [Int.toNat_natCast] at h1; have i1 := cls_inb hX (z := (k : Nat)) (by omega) (by omega); have s1 := app_takeC hk1; generalize cs.getD k c0 = p at h1 s1; obtain ⟨p1, p2, p3⟩ := p; simp only [clD] at h1 s1; simp only [h1, Nat.zero_add, cell_zero, cell_succ, cells_agg, List.length_cons, List.length_nil]; have inl : True := trivial) | (have hkk : k = cs.length := (by omega); subst hkk; rw [List.take_length]; have h1 : True := trivial; have s1 : True := trivial; have inl2 : True := trivial))
    | (exact i1)
    | (refine ⟨(0 : Nat), Nat.zero_le _, rfl⟩)
    | (have := inl; refine ⟨(k + 1 : Nat), by omega, ?_⟩)
    | (refine And.intro ?_ ?_)
    | (intro hx; have hprop := (show ∀ (p : Prop), p → True from fun _ _ => True.intro) _ hx; clear hprop; first | (cases hx; done) | (exfalso; revert hx; simp (disch := omega) only [decide_eq_true_eq, decide_eq_false_iff_not, Bool.not_eq_true', Bool.not_eq_false', Bool.and_eq_true, Bool.and_eq_false_iff, Int.not_lt, Int.not_le, ne_eq, not_false_eq_true, not_true_eq_false, reduceCtorEq, Bool.true_eq_false, Bool.false_eq_true, beq_iff_eq, bne_iff_ne, beq_eq_false_iff_ne, false_or, or_false, true_and, and_true, h1, s1, app_ofL, lst_ofL, cls_len, ch3, hX.lenT]; done) | (simp (disch := omega) only [decide_eq_true_eq, decide_eq_false_iff_not, Bool.not_eq_true', Bool.not_eq_false', Bool.and_eq_true, Bool.and_eq_false_iff, Int.not_lt, Int.not_le, ne_eq, not_false_eq_true, not_true_eq_false, reduceCtorEq, Bool.true_eq_false, Bool.false_eq_true, beq_iff_eq, bne_iff_ne, beq_eq_false_iff_ne, false_or, or_false, true_and, and_true, h1, s1, app_ofL, lst_ofL, cls_len, ch3, hX.lenT] at hx; first | (exfalso; omega) | skip) | skip)
    | trivial
    | exact fit_ofL _ _
    | (simp (disch := omega) only [notAgg_v, notAgg_sl, plain_v, fits, fitsOne, fitsCells, xsOf, cell_zero, cell_succ, List.range, List.range.loop, List.map, cond_true, cond_false, D.v.injEq, exists_eq', exists_eq, and_self, and_true, true_and, D.agg.injEq, List.length, exists_eq_left', D.sl.injEq, reduceCtorEq, false_or, true_or, or_true, or_false, cell_zero, cell_succ, cell_v, cells_v, cells_agg, List.length_cons, List.length_nil, h1, s1, app_ofL, lst_ofL, cls_len, ch3, hX.lenT]; done))
  all_goals first
    | (exfalso; omega)
    | omega
    | exact fit_ofL _ _
    | exact ⟨_, rfl⟩
    | exact fitC hX
    | exact plainC hX
    | exact plainO
    | (simp only [leftG]; omega)
    | (simp only [List.length_cons, List.length_nil, cls_len, List.length_take]; omega)
    | (rw [s1]; first | done | rfl)
    | (rw [← s1, app_ofL]; done)
    | rfl
    | (simp; done)
    | fail

end Go.Proofs.Ytlamjfdghhbkpaa