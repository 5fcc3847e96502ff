/-
  Layer 12: the reference compares; blocks.
-/
import Derived.Test.YtjdemohgegldaaaT1
import Derived.Test.YtjdemohgegldaaaT2
import Derived.Test.YtjdemohgegldaaaT3
namespace Go.Proofs.Ytjdemohgegldaaa
open Go.RowKit
set_option linter.unusedSimpArgs false
set_option linter.unusedVariables false


def ivD (z : Int × Int) : D := .agg [.v (.int .i64 z.1), .v (.int .i64 z.2)]
def blkI (p : Pt) : Int × Int := (p.1, p.1 + p.2.length)
def blkF (b : Int) (r : Nat) (ps : List Pt) (n : Int) : List (Int × Int) := if chkF b r ps = 0 then (ps.take n.toNat).map blkI else []
theorem ivs_plain (l : List (Int × Int)) : ∀ c ∈ flat (l.map ivD), ∃ y, c = .v y := by
  intro c hc
  induction l with
  | nil => simp [flat] at hc
  | cons z l ih =>
    simp only [List.map_cons, flat, List.flatMap_cons, ivD, D.cells, List.mem_append, List.mem_cons, List.not_mem_nil, or_false] at hc ih
    rcases hc with (rfl | rfl) | hc
    · exact ⟨_, rfl⟩
    · exact ⟨_, rfl⟩
    · exact ih hc
theorem iv_get {zs : List (Int × Int)} {x : D} (h : IsL 2 (zs.map ivD) x) {k : Nat} (hk : k < zs.length) : x.at_ (.v (.int .i64 (k : Nat))) = ivD (zs.getD k (0, 0)) := by
  rw [h.at_]; simp [List.getD, hk]
theorem iv_inb {zs : List (Int × Int)} {x : D} (h : IsL 2 (zs.map ivD) x) {k : Nat} (hk : k < zs.length) : D.inb 2 x (.v (.int .i64 (k : Nat))) := h.inb (by omega) (by rw [List.length_map]; omega)
theorem ch2 (a b : D) : chunks true 2 1 [a, b] = [.agg [a, b]] := rfl
theorem appI (l : List (Int × Int)) (z : Int × Int) : D.app 2 (ofL 2 (l.map ivD)) [.agg [.v (.int .i64 z.1), .v (.int .i64 z.2)]] = ofL 2 ((l ++ [z]).map ivD) := by rw [app_ofL, List.map_append]; rfl
theorem appP (l : List Pt) (p : Pt) : D.app 2 (ofL 2 (l.map ptD)) [.agg [.v (.int .i64 p.1), str p.2]] = ofL 2 ((l ++ [p]).map ptD) := by rw [app_ofL, List.map_append]; rfl
theorem take_sn {α : Type} {l : List α} {d : α} {k : Nat} (h : k < l.length) : l.take (k + 1) = l.take k ++ [l.getD k d] := by
  rw [List.take_succ_eq_append_getElem h]; simp [List.getD, h]
def ivB (a b : List (Int × Int)) : Bool := decide (a = b)

theorem vc_ownS (x : D) (ps : List Pt) (b : Int) (r : List Int) : Cond Try.prog (fun k => if k = 3 then some ⟨[4], [], [1, 2, 3], [(3, [], [2])]⟩ else none) Try.f8 [.agg [.v (.int .i64 b), str r, x]] [.agg [.v (.int .i64 b), str r, ofL 2 (ps.map ptD)]] = (((∃ (cs : List D), D.agg [D.v (Value.int IntKind.i64 b), str r, x] = D.agg cs ∧ cs.length = 3) ∧ True) ∧ ∃ (I : List D → Prop), ∃ (μ : List D → Nat), ((D.v (Value.int IntKind.i64 0) = D.v (Value.int IntKind.i64 0) ∧ (true = true ∧ true = true) ∧ (true = true ∧ true = true) ∧ (true = true ∧ true = true) ∧ True) ∧ ((true = true ∧ D.v nilS = D.v nilS) ∧ (D.v (Value.int IntKind.i64 b) = D.v (Value.int IntKind.i64 b) ∧ str r = str r ∧ true = true ∧ True) ∧ (D.v (Value.int IntKind.i64 b) = D.v (Value.int IntKind.i64 b) ∧ str r = str r ∧ x = x ∧ True) ∧ (D.v (Value.int IntKind.i64 0) = D.v (Value.int IntKind.i64 0) ∧ D.v (Value.string { data := { toList := [] } }) = D.v (Value.string { data := { toList := [] } }) ∧ true = true ∧ True) ∧ (true = true ∧ D.v (Value.slice none 0 0) = D.v (Value.slice none 0 0)) ∧ True) ∧ I [D.v (Value.int IntKind.i64 0), D.v nilS]) ∧ ∀ (r_1 r_2 : D), I [r_1, r_2] → ∃ (r_3 : D), D.lenT (TypeDesc.slice 66) x = some r_3 ∧ ∃ (r_4 : D), D.bin BinOp.lss r_1 r_3 = some r_4 ∧ ∃ (b_1 : Bool), r_4 = D.v (Value.bool b_1) ∧ (b_1 = true → D.inb 2 x r_1 ∧ 0 + 2 ≤ (x.at_ r_1).cells.length ∧ ∃ (ls : List D), r_2.lst = some ls ∧ ∃ (lx : List D), D.lstSz 2 (D.sl 2 (chunks true 2 1 [(x.at_ r_1).cell (0 + 0), (x.at_ r_1).cell (0 + 1)])) = some lx ∧ (ls.length + lx.length) * 24 ≤ 1099511627776 ∧ ∃ (r_5 : D), D.bin BinOp.add r_1 (D.v (Value.int IntKind.i64 1)) = some r_5 ∧ (r_5 = r_5 ∧ (true = true ∧ true = true) ∧ (true = true ∧ true = true) ∧ (true = true ∧ true = true) ∧ True) ∧ ((true = true ∧ D.app 2 r_2 lx = D.app 2 r_2 lx) ∧ (D.v (Value.int IntKind.i64 b) = D.v (Value.int IntKind.i64 b) ∧ str r = str r ∧ true = true ∧ True) ∧ (D.v (Value.int IntKind.i64 b) = D.v (Value.int IntKind.i64 b) ∧ str r = str r ∧ x = x ∧ True) ∧ (D.v (Value.int IntKind.i64 0) = D.v (Value.int IntKind.i64 0) ∧ D.v (Value.string { data := { toList := [] } }) = D.v (Value.string { data := { toList := [] } }) ∧ true = true ∧ True) ∧ (true = true ∧ D.v (Value.slice none 0 0) = D.v (Value.slice none 0 0)) ∧ True) ∧ I [r_5, D.app 2 r_2 lx] ∧ μ [r_5, D.app 2 r_2 lx] < μ [r_1, r_2]) ∧ (b_1 = false → ((∃ (y : Value), D.v (Value.int IntKind.i64 b) = D.v y) ∧ (∃ (y : Value), str r = D.v y) ∧ PlainD r_2 ∧ True) ∧ [D.agg [D.v (Value.int IntKind.i64 b), str r, r_2]] = [D.agg [D.v (Value.int IntKind.i64 b), str r, ofL 2 (List.map ptD ps)]])) := by kernel_rfl
set_option maxHeartbeats 4000000 in
theorem ownS (x : D) (ps : List Pt) (b : Int) (r : List Int) (hX : IsL 2 (ps.map ptD) x) (hm : ps.length ≤ 100000) : PureD Try.prog 8 [.agg [.v (.int .i64 b), str r, x]] [.agg [.v (.int .i64 b), str r, ofL 2 (ps.map ptD)]] := by
  refine pure_cond (Lp := (fun k => if k = 3 then some ⟨[4], [], [1, 2, 3], [(3, [], [2])]⟩ else none)) (by kernel_rfl) Try.func8 (by kernel_rfl) (by kernel_rfl) ?_
  rw [vc_ownS x ps b r]
  simp only [hX.lenT, List.length_map, Option.some.injEq, exists_eq_left']
  have h1 : True := trivial
  repeat' (first
    | (refine ex_some (by simp (disch := omega) only [bin_shr, bin_shl, bin_and, bin_or, bin_xor, len_str, toStr_ofL, bin_add, bin_sub, bin_mul, bin_quo, bin_rem, bin_lss, bin_leq, bin_gtr, bin_geq, bin_eql, bin_neq, eqs_cn, eqs_ci, eqs_cb, eqs_cs, Option.map_some, lenT_ofL, lst_ofL, lstSz_ofL, chunk_one, lst_nil, lst_sl, lstSz_sl, lstSz_nil, Bool.and_true, Bool.true_and, Bool.and_false, Bool.false_and, beq_self_eq_true, beq_bb, bne_bb, un_not, un_neg, conv_int, min2_int, max2_int, w64, w32, wu8, wu16, wu32, wu64, tdiv_nn, tmod_nn, cell_zero, cell_succ, cell_v, cells_v, cells_agg, Bool.not_true, Bool.not_false, Int.reduceLT, Int.reduceLE, Int.reduceEq, Int.reduceNeg, Int.reduceAdd, Int.reduceSub, Int.reduceMul, intOf_v, decide_true, decide_false, h1, ch2, hX.lenT, List.length_map]; rfl) ?_)
    | (refine ex_bool ?_)
    | (exact i1)
    | (refine ⟨(fun r3 => ∃ k : Nat, k ≤ ps.length ∧ r3 = [.v (.int .i64 (k : Nat)), ofL 2 ((ps.take k).map ptD)]), leftG ps.length, ?_⟩)
    | (refine fun (r3 r4 : D) (hI : (fun r3 => ∃ k : Nat, k ≤ ps.length ∧ r3 = [.v (.int .i64 (k : Nat)), ofL 2 ((ps.take k).map ptD)]) [r3, r4]) => ?_; obtain ⟨k, hk, hl0⟩ := hI; simp only [List.cons.injEq, and_true] at hl0; obtain ⟨rfl, rfl⟩ := hl0; by_cases hlt : k < ps.length <;> first | (have hk1 : k < ps.length := (by omega); have h1 := pt_get hX hk1; have i1 := pt_inb hX hk1; have ht := take_sn (d := (0, [])) hk1; generalize ps.getD k (0, []) = p at h1 ht; obtain ⟨a, s⟩ := p; simp only [h1, ptD, Nat.zero_add, cell_zero, cell_succ, cells_agg, List.length_cons, List.length_nil]; have ha := appP (ps.take k) (a, s); have inl1 : True := trivial) | (have hkk : k = ps.length := (by omega); subst hkk; rw [List.take_length]; have h1 : True := trivial; have out1 : True := trivial))
    | (have := inl1; refine ⟨k + 1, by omega, ?_⟩)
    | (exact ⟨0, Nat.zero_le _, rfl⟩)
    | (refine And.intro ?_ ?_)
    | (intro hx; have hprop := (show ∀ (p : Prop), p → True from fun _ _ => True.intro) _ hx; clear hprop; first | (cases hx; done) | (exfalso; revert hx; simp (disch := omega) only [decide_eq_true_eq, decide_eq_false_iff_not, Bool.not_eq_true', Bool.not_eq_false', Bool.and_eq_true, Bool.and_eq_false_iff, Int.not_lt, Int.not_le, ne_eq, not_false_eq_true, not_true_eq_false, reduceCtorEq, Bool.true_eq_false, Bool.false_eq_true, beq_iff_eq, bne_iff_ne, beq_eq_false_iff_ne, false_or, or_false, true_and, and_true, h1, ch2, hX.lenT, List.length_map]; done) | (simp (disch := omega) only [decide_eq_true_eq, decide_eq_false_iff_not, Bool.not_eq_true', Bool.not_eq_false', Bool.and_eq_true, Bool.and_eq_false_iff, Int.not_lt, Int.not_le, ne_eq, not_false_eq_true, not_true_eq_false, reduceCtorEq, Bool.true_eq_false, Bool.false_eq_true, beq_iff_eq, bne_iff_ne, beq_eq_false_iff_ne, false_or, or_false, true_and, and_true, h1, ch2, hX.lenT, List.length_map] at hx; first | (exfalso; omega) | skip) | skip)
    | trivial
    | exact fit_ofL _ _
    | (simp (disch := omega) only [notAgg_v, notAgg_sl, plain_v, fits, fitsOne, fitsCells, xsOf, cell_zero, cell_succ, List.range, List.range.loop, List.map, cond_true, cond_false, D.v.injEq, exists_eq', exists_eq, and_self, and_true, true_and, D.agg.injEq, List.length, exists_eq_left', D.sl.injEq, reduceCtorEq, false_or, true_or, or_true, or_false, cell_zero, cell_succ, cell_v, cells_v, cells_agg, List.length_cons, List.length_nil, h1, ch2, hX.lenT, List.length_map]; done))
  all_goals first
    | (exfalso; omega)
    | omega
    | rfl
    | exact hX.notAgg
    | exact ⟨_, rfl⟩
    | assumption
    | (simp only [leftG]; omega)
    | (rw [h1]; exact Nat.le_refl _)
    | exact plain_ofL (ivs_plain _)
    | exact plain_ofL (pts_plain _)
    | exact fit_ofL _ _
    | (simp only [List.length_map, List.length_take, List.length_cons, List.length_nil]; omega)
    | (rw [ht, ← ha]; rfl)
    | (simp; done)
    | fail

theorem vc_backS (x : D) (ps : List Pt) (b : Int) (r : List Int) : Cond Try.prog (fun k => if k = 3 then some ⟨[4], [], [1, 2, 3], [(3, [], [2])]⟩ else none) Try.f35 [.agg [.v (.int .i64 b), str r, x]] [.agg [.v (.int .i64 b), str r, ofL 2 (ps.map ptD)]] = (((∃ (cs : List D), D.agg [D.v (Value.int IntKind.i64 b), str r, x] = D.agg cs ∧ cs.length = 3) ∧ True) ∧ ∃ (I : List D → Prop), ∃ (μ : List D → Nat), ((D.v (Value.int IntKind.i64 0) = D.v (Value.int IntKind.i64 0) ∧ (true = true ∧ true = true) ∧ (true = true ∧ true = true) ∧ (true = true ∧ true = true) ∧ True) ∧ ((true = true ∧ D.v nilS = D.v nilS) ∧ (D.v (Value.int IntKind.i64 b) = D.v (Value.int IntKind.i64 b) ∧ str r = str r ∧ true = true ∧ True) ∧ (D.v (Value.int IntKind.i64 b) = D.v (Value.int IntKind.i64 b) ∧ str r = str r ∧ x = x ∧ True) ∧ (D.v (Value.int IntKind.i64 0) = D.v (Value.int IntKind.i64 0) ∧ D.v (Value.string { data := { toList := [] } }) = D.v (Value.string { data := { toList := [] } }) ∧ true = true ∧ True) ∧ (true = true ∧ D.v (Value.slice none 0 0) = D.v (Value.slice none 0 0)) ∧ True) ∧ I [D.v (Value.int IntKind.i64 0), D.v nilS]) ∧ ∀ (r_1 r_2 : D), I [r_1, r_2] → ∃ (r_3 : D), D.lenT (TypeDesc.slice 67) x = some r_3 ∧ ∃ (r_4 : D), D.bin BinOp.lss r_1 r_3 = some r_4 ∧ ∃ (b_1 : Bool), r_4 = D.v (Value.bool b_1) ∧ (b_1 = true → D.inb 2 x r_1 ∧ 0 + 2 ≤ (x.at_ r_1).cells.length ∧ ∃ (ls : List D), r_2.lst = some ls ∧ ∃ (lx : List D), D.lstSz 2 (D.sl 2 (chunks true 2 1 [(x.at_ r_1).cell (0 + 0), (x.at_ r_1).cell (0 + 1)])) = some lx ∧ (ls.length + lx.length) * 24 ≤ 1099511627776 ∧ ∃ (r_5 : D), D.bin BinOp.add r_1 (D.v (Value.int IntKind.i64 1)) = some r_5 ∧ (r_5 = r_5 ∧ (true = true ∧ true = true) ∧ (true = true ∧ true = true) ∧ (true = true ∧ true = true) ∧ True) ∧ ((true = true ∧ D.app 2 r_2 lx = D.app 2 r_2 lx) ∧ (D.v (Value.int IntKind.i64 b) = D.v (Value.int IntKind.i64 b) ∧ str r = str r ∧ true = true ∧ True) ∧ (D.v (Value.int IntKind.i64 b) = D.v (Value.int IntKind.i64 b) ∧ str r = str r ∧ x = x ∧ True) ∧ (D.v (Value.int IntKind.i64 0) = D.v (Value.int IntKind.i64 0) ∧ D.v (Value.string { data := { toList := [] } }) = D.v (Value.string { data := { toList := [] } }) ∧ true = true ∧ True) ∧ (true = true ∧ D.v (Value.slice none 0 0) = D.v (Value.slice none 0 0)) ∧ True) ∧ I [r_5, D.app 2 r_2 lx] ∧ μ [r_5, D.app 2 r_2 lx] < μ [r_1, r_2]) ∧ (b_1 = false → ((∃ (y : Value), D.v (Value.int IntKind.i64 b) = D.v y) ∧ (∃ (y : Value), str r = D.v y) ∧ PlainD r_2 ∧ True) ∧ [D.agg [D.v (Value.int IntKind.i64 b), str r, r_2]] = [D.agg [D.v (Value.int IntKind.i64 b), str r, ofL 2 (List.map ptD ps)]])) := by kernel_rfl
set_option maxHeartbeats 4000000 in
theorem backS (x : D) (ps : List Pt) (b : Int) (r : List Int) (hX : IsL 2 (ps.map ptD) x) (hm : ps.length ≤ 100000) : PureD Try.prog 35 [.agg [.v (.int .i64 b), str r, x]] [.agg [.v (.int .i64 b), str r, ofL 2 (ps.map ptD)]] := by
  refine pure_cond (Lp := (fun k => if k = 3 then some ⟨[4], [], [1, 2, 3], [(3, [], [2])]⟩ else none)) (by kernel_rfl) Try.func35 (by kernel_rfl) (by kernel_rfl) ?_
  rw [vc_backS x ps b r]
  simp only [hX.lenT, List.length_map, Option.some.injEq, exists_eq_left']
  have h1 : True := trivial
  repeat' (first
    | (refine ex_some (by simp (disch := omega) only [bin_shr, bin_shl, bin_and, bin_or, bin_xor, len_str, toStr_ofL, bin_add, bin_sub, bin_mul, bin_quo, bin_rem, bin_lss, bin_leq, bin_gtr, bin_geq, bin_eql, bin_neq, eqs_cn, eqs_ci, eqs_cb, eqs_cs, Option.map_some, lenT_ofL, lst_ofL, lstSz_ofL, chunk_one, lst_nil, lst_sl, lstSz_sl, lstSz_nil, Bool.and_true, Bool.true_and, Bool.and_false, Bool.false_and, beq_self_eq_true, beq_bb, bne_bb, un_not, un_neg, conv_int, min2_int, max2_int, w64, w32, wu8, wu16, wu32, wu64, tdiv_nn, tmod_nn, cell_zero, cell_succ, cell_v, cells_v, cells_agg, Bool.not_true, Bool.not_false, Int.reduceLT, Int.reduceLE, Int.reduceEq, Int.reduceNeg, Int.reduceAdd, Int.reduceSub, Int.reduceMul, intOf_v, decide_true, decide_false, h1, ch2, hX.lenT, List.length_map]; rfl) ?_)
    | (refine ex_bool ?_)
    | (exact i1)
    | (refine ⟨(fun r3 => ∃ k : Nat, k ≤ ps.length ∧ r3 = [.v (.int .i64 (k : Nat)), ofL 2 ((ps.take k).map ptD)]), leftG ps.length, ?_⟩)
    | (refine fun (r3 r4 : D) (hI : (fun r3 => ∃ k : Nat, k ≤ ps.length ∧ r3 = [.v (.int .i64 (k : Nat)), ofL 2 ((ps.take k).map ptD)]) [r3, r4]) => ?_; obtain ⟨k, hk, hl0⟩ := hI; simp only [List.cons.injEq, and_true] at hl0; obtain ⟨rfl, rfl⟩ := hl0; by_cases hlt : k < ps.length <;> first | (have hk1 : k < ps.length := (by omega); have h1 := pt_get hX hk1; have i1 := pt_inb hX hk1; have ht := take_sn (d := (0, [])) hk1; generalize ps.getD k (0, []) = p at h1 ht; obtain ⟨a, s⟩ := p; simp only [h1, ptD, Nat.zero_add, cell_zero, cell_succ, cells_agg, List.length_cons, List.length_nil]; have ha := appP (ps.take k) (a, s); have inl1 : True := trivial) | (have hkk : k = ps.length := (by omega); subst hkk; rw [List.take_length]; have h1 : True := trivial; have out1 : True := trivial))
    | (have := inl1; refine ⟨k + 1, by omega, ?_⟩)
    | (exact ⟨0, Nat.zero_le _, rfl⟩)
    | (refine And.intro ?_ ?_)
    | (intro hx; have hprop := (show ∀ (p : Prop), p → True from fun _ _ => True.intro) _ hx; clear hprop; first | (cases hx; done) | (exfalso; revert hx; simp (disch := omega) only [decide_eq_true_eq, decide_eq_false_iff_not, Bool.not_eq_true', Bool.not_eq_false', Bool.and_eq_true, Bool.and_eq_false_iff, Int.not_lt, Int.not_le, ne_eq, not_false_eq_true, not_true_eq_false, reduceCtorEq, Bool.true_eq_false, Bool.false_eq_true, beq_iff_eq, bne_iff_ne, beq_eq_false_iff_ne, false_or, or_false, true_and, and_true, h1, ch2, hX.lenT, List.length_map]; done) | (simp (disch := omega) only [decide_eq_true_eq, decide_eq_false_iff_not, Bool.not_eq_true', Bool.not_eq_false', Bool.and_eq_true, Bool.and_eq_false_iff, Int.not_lt, Int.not_le, ne_eq, not_false_eq_true, not_true_eq_false, reduceCtorEq, Bool.true_eq_false, Bool.false_eq_true, beq_iff_eq, bne_iff_ne, beq_eq_false_iff_ne, false_or, or_false, true_and, and_true, h1, ch2, hX.lenT, List.length_map] at hx; first | (exfalso; omega) | skip) | skip)
    | trivial
    | exact fit_ofL _ _
    | (simp (disch := omega) only [notAgg_v, notAgg_sl, plain_v, fits, fitsOne, fitsCells, xsOf, cell_zero, cell_succ, List.range, List.range.loop, List.map, cond_true, cond_false, D.v.injEq, exists_eq', exists_eq, and_self, and_true, true_and, D.agg.injEq, List.length, exists_eq_left', D.sl.injEq, reduceCtorEq, false_or, true_or, or_true, or_false, cell_zero, cell_succ, cell_v, cells_v, cells_agg, List.length_cons, List.length_nil, h1, ch2, hX.lenT, List.length_map]; done))
  all_goals first
    | (exfalso; omega)
    | omega
    | rfl
    | exact hX.notAgg
    | exact ⟨_, rfl⟩
    | assumption
    | (simp only [leftG]; omega)
    | (rw [h1]; exact Nat.le_refl _)
    | exact plain_ofL (ivs_plain _)
    | exact plain_ofL (pts_plain _)
    | exact fit_ofL _ _
    | (simp only [List.length_map, List.length_take, List.length_cons, List.length_nil]; omega)
    | (rw [ht, ← ha]; rfl)
    | (simp; done)
    | fail

end Go.Proofs.Ytjdemohgegldaaa