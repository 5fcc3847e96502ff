/-
  Layer 12: whether a part holds a place.
-/
import Derived.Test.YtjdemohgegldaaaT1
import Derived.Test.YtjdemohgegldaaaT2
import Derived.Test.YtjdemohgegldaaaT3
import Derived.Test.YtjdemohgegldaaaT4
import Derived.Test.YtjdemohgegldaaaT6
import Derived.Test.YtjdemohgegldaaaT7
import Derived.Test.YtjdemohgegldaaaT8
namespace Go.Proofs.Ytjdemohgegldaaa
open Go.RowKit
set_option linter.unusedSimpArgs false
set_option linter.unusedVariables false


theorem cut1 {ps : List Pt} {x : D} (h : IsL 2 (ps.map ptD) x) (hn : 0 < ps.length) : ∃ c, D.cutL 2 x (some (.v (.int .i64 1))) none none = some c ∧ IsL 2 ((ps.drop 1).map ptD) c := by
  obtain ⟨c, eC, hC⟩ := h.cut (dl := some (.v (.int .i64 1))) (dh := none) (dm := none) (l := 1) (hh := (ps.length : Nat)) (m := (ps.length : Nat)) rfl (by rw [List.length_map]; rfl) (by rw [List.length_map]; rfl) (by omega) (by omega) (by omega) (by rw [List.length_map]; omega)
  refine ⟨c, eC, ?_⟩
  have e : ((ps.map ptD).drop (1 : Int).toNat).take (((ps.length : Nat) : Int) - 1).toNat = (ps.drop 1).map ptD := by
    rw [List.take_of_length_le (by rw [List.length_drop, List.length_map]; show ps.length - 1 ≤ _; omega), List.map_drop]; rfl
  rw [e] at hC
  exact hC

theorem vc_settled0 (x : D) (ps : List Pt) (b : Int) (r : List Int) : CondR Try.prog (fun _ => none) Try.f42 [.agg [.v (.int .i64 b), str r, x]] [.agg [.v (.int .i64 b), str r, x]] = (((∃ (cs : List D), D.agg [D.v (Value.int IntKind.i64 b), str r, x] = D.agg cs ∧ cs.length = 3) ∧ True) ∧ D.inb 2 x (D.v (Value.int IntKind.i64 0)) ∧ 0 + 1 ≤ (x.at_ (D.v (Value.int IntKind.i64 0))).cells.length ∧ ∃ (r_1 : D), D.bin BinOp.eql ((x.at_ (D.v (Value.int IntKind.i64 0))).cell 0) (D.v (Value.int IntKind.i64 b)) = some r_1 ∧ ∃ (b_1 : Bool), r_1 = D.v (Value.bool b_1) ∧ (b_1 = true → D.inb 2 x (D.v (Value.int IntKind.i64 0)) ∧ 0 + 1 + 1 ≤ (x.at_ (D.v (Value.int IntKind.i64 0))).cells.length ∧ ∃ (r_2 : D), D.bin BinOp.add (str r) ((x.at_ (D.v (Value.int IntKind.i64 0))).cell (0 + 1)) = some r_2 ∧ D.inb 2 x (D.v (Value.int IntKind.i64 0)) ∧ 0 + 2 ≤ (x.at_ (D.v (Value.int IntKind.i64 0))).cells.length ∧ ∃ (r_3 : D), PureD Try.prog 40 [D.agg [(x.at_ (D.v (Value.int IntKind.i64 0))).cell (0 + 0), (x.at_ (D.v (Value.int IntKind.i64 0))).cell (0 + 1)]] [r_3] ∧ fits [(false, [none])] [r_3] ∧ ∃ (r_4 : D), D.cutL 2 x (some (D.v (Value.int IntKind.i64 1))) none none = some r_4 ∧ [D.agg [r_3, r_2, r_4]] = [D.agg [D.v (Value.int IntKind.i64 b), str r, x]]) ∧ (b_1 = false → [D.agg [D.v (Value.int IntKind.i64 b), str r, x]] = [D.agg [D.v (Value.int IntKind.i64 b), str r, x]])) := by kernel_rfl
set_option maxHeartbeats 4000000 in
theorem settled0 (x : D) (ps : List Pt) (b : Int) (r : List Int) (hX : IsL 2 (ps.map ptD) x) (hn : 0 < ps.length) (b0 : 0 ≤ b) (b1 : b ≤ 1099511627776) (hr : r.length ≤ 100000) (hl : (ps.getD 0 (0, [])).2.length ≤ 100000) (h0 : (ps.getD 0 (0, [])).1 ≠ b) : ReadD Try.prog 42 [.agg [.v (.int .i64 b), str r, x]] [.agg [.v (.int .i64 b), str r, x]] := by
  refine read_cond (Lp := (fun _ => none)) (by kernel_rfl) Try.func42 (by kernel_rfl) (by kernel_rfl) ?_
  rw [vc_settled0 x ps b r]
  have h1 := pt_get hX (k := 0) hn
  have i1 := pt_inb hX (k := 0) hn
  generalize ps.getD 0 (0, []) = p at h1 h0 hl
  obtain ⟨a, s⟩ := p
  simp only at h0 hl
  simp only [Int.natCast_zero] at h1 i1
  simp only [ptD] at h1
  repeat' (first
    | (refine ex_some (by simp (disch := omega) only [bin_shr, bin_shl, bin_and, bin_or, bin_xor, len_str, toStr_ofL, bin_add, bin_sub, bin_mul, bin_quo, bin_rem, bin_lss, bin_leq, bin_gtr, bin_geq, bin_eql, bin_neq, eqs_cn, eqs_ci, eqs_cb, eqs_cs, Option.map_some, lenT_ofL, lst_ofL, lstSz_ofL, chunk_one, lst_nil, lst_sl, lstSz_sl, lstSz_nil, Bool.and_true, Bool.true_and, Bool.and_false, Bool.false_and, beq_self_eq_true, beq_bb, bne_bb, un_not, un_neg, conv_int, min2_int, max2_int, w64, w32, wu8, wu16, wu32, wu64, tdiv_nn, tmod_nn, cell_zero, cell_succ, cell_v, cells_v, cells_agg, Bool.not_true, Bool.not_false, Int.reduceLT, Int.reduceLE, Int.reduceEq, Int.reduceNeg, Int.reduceAdd, Int.reduceSub, Int.reduceMul, intOf_v, decide_true, decide_false, h1]; rfl) ?_)
    | (refine ex_bool ?_)
    | (exact i1)
    | (refine And.intro ?_ ?_)
    | (intro hx; have hprop := (show ∀ (p : Prop), p → True from fun _ _ => True.intro) _ hx; clear hprop; first | (cases hx; done) | (exfalso; revert hx; simp (disch := omega) only [decide_eq_true_eq, decide_eq_false_iff_not, Bool.not_eq_true', Bool.not_eq_false', Bool.and_eq_true, Bool.and_eq_false_iff, Int.not_lt, Int.not_le, ne_eq, not_false_eq_true, not_true_eq_false, reduceCtorEq, Bool.true_eq_false, Bool.false_eq_true, beq_iff_eq, bne_iff_ne, beq_eq_false_iff_ne, false_or, or_false, true_and, and_true, h1]; done) | (simp (disch := omega) only [decide_eq_true_eq, decide_eq_false_iff_not, Bool.not_eq_true', Bool.not_eq_false', Bool.and_eq_true, Bool.and_eq_false_iff, Int.not_lt, Int.not_le, ne_eq, not_false_eq_true, not_true_eq_false, reduceCtorEq, Bool.true_eq_false, Bool.false_eq_true, beq_iff_eq, bne_iff_ne, beq_eq_false_iff_ne, false_or, or_false, true_and, and_true, h1] at hx; first | (exfalso; omega) | skip) | skip)
    | trivial
    | exact fit_ofL _ _
    | (simp (disch := omega) only [notAgg_v, notAgg_sl, plain_v, fits, fitsOne, fitsCells, xsOf, cell_zero, cell_succ, List.range, List.range.loop, List.map, cond_true, cond_false, D.v.injEq, exists_eq', exists_eq, and_self, and_true, true_and, D.agg.injEq, List.length, exists_eq_left', D.sl.injEq, reduceCtorEq, false_or, true_or, or_true, or_false, cell_zero, cell_succ, cell_v, cells_v, cells_agg, List.length_cons, List.length_nil, h1]; done))
  all_goals first
    | (exfalso; omega)
    | omega
    | exact fitP hX
    | exact plainP hX
    | exact ⟨_, rfl⟩
    | rfl
    | assumption
    | (rw [h1]; show _ ≤ 2; omega)
    | (simp; done)
    | fail

theorem vc_settled1 (x : D) (ps : List Pt) (b : Int) (r : List Int) (c : D) : CondR Try.prog (fun _ => none) Try.f42 [.agg [.v (.int .i64 b), str r, x]] [.agg [.v (.int .i64 (b + (ps.getD 0 (0, [])).2.length)), str (r ++ (ps.getD 0 (0, [])).2), c]] = (((∃ (cs : List D), D.agg [D.v (Value.int IntKind.i64 b), str r, x] = D.agg cs ∧ cs.length = 3) ∧ True) ∧ D.inb 2 x (D.v (Value.int IntKind.i64 0)) ∧ 0 + 1 ≤ (x.at_ (D.v (Value.int IntKind.i64 0))).cells.length ∧ ∃ (r_1 : D), D.bin BinOp.eql ((x.at_ (D.v (Value.int IntKind.i64 0))).cell 0) (D.v (Value.int IntKind.i64 b)) = some r_1 ∧ ∃ (b_1 : Bool), r_1 = D.v (Value.bool b_1) ∧ (b_1 = true → D.inb 2 x (D.v (Value.int IntKind.i64 0)) ∧ 0 + 1 + 1 ≤ (x.at_ (D.v (Value.int IntKind.i64 0))).cells.length ∧ ∃ (r_2 : D), D.bin BinOp.add (str r) ((x.at_ (D.v (Value.int IntKind.i64 0))).cell (0 + 1)) = some r_2 ∧ D.inb 2 x (D.v (Value.int IntKind.i64 0)) ∧ 0 + 2 ≤ (x.at_ (D.v (Value.int IntKind.i64 0))).cells.length ∧ ∃ (r_3 : D), PureD Try.prog 40 [D.agg [(x.at_ (D.v (Value.int IntKind.i64 0))).cell (0 + 0), (x.at_ (D.v (Value.int IntKind.i64 0))).cell (0 + 1)]] [r_3] ∧ fits [(false, [none])] [r_3] ∧ ∃ (r_4 : D), D.cutL 2 x (some (D.v (Value.int IntKind.i64 1))) none none = some r_4 ∧ [D.agg [r_3, r_2, r_4]] = [D.agg [D.v (Value.int IntKind.i64 (b + ↑(ps.getD 0 (0, [])).snd.length)), str (r.append (ps.getD 0 (0, [])).snd), c]]) ∧ (b_1 = false → [D.agg [D.v (Value.int IntKind.i64 b), str r, x]] = [D.agg [D.v (Value.int IntKind.i64 (b + ↑(ps.getD 0 (0, [])).snd.length)), str (r.append (ps.getD 0 (0, [])).snd), c]])) := by kernel_rfl
set_option maxHeartbeats 4000000 in
theorem settled1 (x : D) (ps : List Pt) (b : Int) (r : List Int) (c : D) (hX : IsL 2 (ps.map ptD) x) (hn : 0 < ps.length) (b0 : 0 ≤ b) (b1 : b ≤ 1099511627776) (hr : r.length ≤ 100000) (hl : (ps.getD 0 (0, [])).2.length ≤ 100000) (h0 : (ps.getD 0 (0, [])).1 = b) (eC : D.cutL 2 x (some (.v (.int .i64 1))) none none = some c) (hC : IsL 2 ((ps.drop 1).map ptD) c) : ReadD Try.prog 42 [.agg [.v (.int .i64 b), str r, x]] [.agg [.v (.int .i64 (b + (ps.getD 0 (0, [])).2.length)), str (r ++ (ps.getD 0 (0, [])).2), c]] := by
  refine read_cond (Lp := (fun _ => none)) (by kernel_rfl) Try.func42 (by kernel_rfl) (by kernel_rfl) ?_
  rw [vc_settled1 x ps b r c]
  have h1 := pt_get hX (k := 0) hn
  have i1 := pt_inb hX (k := 0) hn
  generalize ps.getD 0 (0, []) = p at h1 h0 hl ⊢
  obtain ⟨a, s⟩ := p
  simp only at h0 hl ⊢
  subst h0
  simp only [Int.natCast_zero] at h1 i1
  simp only [ptD] at h1
  have E1 := ends1 a s b0 b1 hl
  have hc1 : (x.at_ (.v (.int .i64 0))).cell (0 + 0) = .v (.int .i64 a) := by rw [h1]; rfl
  have hc2 : (x.at_ (.v (.int .i64 0))).cell (0 + 1) = str s := by rw [h1]; rfl
  rw [← hc1, ← hc2] at E1
  have k2 := bin_sadd (a := r) (b := s) (by omega)
  repeat' (first
    | (refine ex_some (by simp (disch := omega) only [bin_shr, bin_shl, bin_and, bin_or, bin_xor, len_str, toStr_ofL, bin_add, bin_sub, bin_mul, bin_quo, bin_rem, bin_lss, bin_leq, bin_gtr, bin_geq, bin_eql, bin_neq, eqs_cn, eqs_ci, eqs_cb, eqs_cs, Option.map_some, lenT_ofL, lst_ofL, lstSz_ofL, chunk_one, lst_nil, lst_sl, lstSz_sl, lstSz_nil, Bool.and_true, Bool.true_and, Bool.and_false, Bool.false_and, beq_self_eq_true, beq_bb, bne_bb, un_not, un_neg, conv_int, min2_int, max2_int, w64, w32, wu8, wu16, wu32, wu64, tdiv_nn, tmod_nn, cell_zero, cell_succ, cell_v, cells_v, cells_agg, Bool.not_true, Bool.not_false, Int.reduceLT, Int.reduceLE, Int.reduceEq, Int.reduceNeg, Int.reduceAdd, Int.reduceSub, Int.reduceMul, intOf_v, decide_true, decide_false, h1, k2]; rfl) ?_)
    | (refine ex_bool ?_)
    | (refine ⟨_, E1, ?_⟩)
    | (refine ⟨_, eC, ?_⟩)
    | (exact i1)
    | (refine And.intro ?_ ?_)
    | (intro hx; have hprop := (show ∀ (p : Prop), p → True from fun _ _ => True.intro) _ hx; clear hprop; first | (cases hx; done) | (exfalso; revert hx; simp (disch := omega) only [decide_eq_true_eq, decide_eq_false_iff_not, Bool.not_eq_true', Bool.not_eq_false', Bool.and_eq_true, Bool.and_eq_false_iff, Int.not_lt, Int.not_le, ne_eq, not_false_eq_true, not_true_eq_false, reduceCtorEq, Bool.true_eq_false, Bool.false_eq_true, beq_iff_eq, bne_iff_ne, beq_eq_false_iff_ne, false_or, or_false, true_and, and_true, h1, k2]; done) | (simp (disch := omega) only [decide_eq_true_eq, decide_eq_false_iff_not, Bool.not_eq_true', Bool.not_eq_false', Bool.and_eq_true, Bool.and_eq_false_iff, Int.not_lt, Int.not_le, ne_eq, not_false_eq_true, not_true_eq_false, reduceCtorEq, Bool.true_eq_false, Bool.false_eq_true, beq_iff_eq, bne_iff_ne, beq_eq_false_iff_ne, false_or, or_false, true_and, and_true, h1, k2] at hx; first | (exfalso; omega) | skip) | skip)
    | trivial
    | exact fit_ofL _ _
    | (simp (disch := omega) only [notAgg_v, notAgg_sl, plain_v, fits, fitsOne, fitsCells, xsOf, cell_zero, cell_succ, List.range, List.range.loop, List.map, cond_true, cond_false, D.v.injEq, exists_eq', exists_eq, and_self, and_true, true_and, D.agg.injEq, List.length, exists_eq_left', D.sl.injEq, reduceCtorEq, false_or, true_or, or_true, or_false, cell_zero, cell_succ, cell_v, cells_v, cells_agg, List.length_cons, List.length_nil, h1, k2]; done))
  all_goals first
    | (exfalso; omega)
    | omega
    | exact fitP hX
    | exact fitP hC
    | exact plainP hX
    | exact plainP hC
    | exact ⟨_, rfl⟩
    | rfl
    | assumption
    | (rw [h1]; show _ ≤ 2; omega)
    | (simp; done)
    | fail

end Go.Proofs.Ytjdemohgegldaaa
namespace Go.Proofs.Ytjdemohgegldaaa
open Go.RowKit
set_option linter.unusedSimpArgs false
set_option linter.unusedVariables false


def inP (n : Int) (p : Pt) : Bool := decide (p.1 ≤ n) && decide (n < p.1 + p.2.length)
def haveF (ps : List Pt) (n : Int) : Bool := ps.any (inP n)
theorem any_succ {α : Type} {l : List α} {k : Nat} {d : α} (h : k < l.length) (p : α → Bool) : (l.take (k + 1)).any p = ((l.take k).any p || p (l.getD k d)) := by
  rw [List.take_succ_eq_append_getElem h, List.any_append, List.getD_eq_getElem?_getD, List.getElem?_eq_getElem h]; simp
theorem any_at {α : Type} {l : List α} {k : Nat} {d : α} (h : k < l.length) {p : α → Bool} (hp : p (l.getD k d) = true) : l.any p = true := by
  rw [List.any_eq_true]; exact ⟨l.getD k d, by simp [List.getD, h], hp⟩

theorem vc_haveP (x : D) (ps : List Pt) (b : Int) (r : List Int) (n : Int) : Cond Try.prog (fun k => if k = 2 then some ⟨[5], [], [1, 2], []⟩ else none) Try.f49 [.agg [.v (.int .i64 b), str r, x], .v (.int .i64 n)] [.v (.bool (haveF ps n))] = (((∃ (cs : List D), D.agg [D.v (Value.int IntKind.i64 b), str r, x] = D.agg cs ∧ cs.length = 3) ∧ NotAgg (D.v (Value.int IntKind.i64 n)) ∧ True) ∧ ∃ (I : List D → Prop), ∃ (μ : List D → Nat), ((D.v (Value.int IntKind.i64 0) = D.v (Value.int IntKind.i64 0) ∧ D.v (Value.int IntKind.i64 n) = D.v (Value.int IntKind.i64 n) ∧ (true = true ∧ true = true) ∧ True) ∧ ((D.v (Value.int IntKind.i64 b) = D.v (Value.int IntKind.i64 b) ∧ str r = str r ∧ x = x ∧ True) ∧ True) ∧ I [D.v (Value.int IntKind.i64 0)]) ∧ ∀ (r_1 : D), I [r_1] → ∃ (r_2 : D), D.lenT (TypeDesc.slice 66) x = some r_2 ∧ ∃ (r_3 : D), D.bin BinOp.lss r_1 r_2 = some r_3 ∧ ∃ (b_1 : Bool), r_3 = D.v (Value.bool b_1) ∧ (b_1 = true → D.inb 2 x r_1 ∧ 0 + 1 ≤ (x.at_ r_1).cells.length ∧ ∃ (r_4 : D), D.bin BinOp.geq (D.v (Value.int IntKind.i64 n)) ((x.at_ r_1).cell 0) = some r_4 ∧ ∃ (b_2 : Bool), r_4 = D.v (Value.bool b_2) ∧ (b_2 = true → D.inb 2 x r_1 ∧ 0 + 1 ≤ (x.at_ r_1).cells.length ∧ D.inb 2 x r_1 ∧ 0 + 1 + 1 ≤ (x.at_ r_1).cells.length ∧ ∃ (r_5 : D), D.lenT TypeDesc.string ((x.at_ r_1).cell (0 + 1)) = some r_5 ∧ ∃ (r_6 : D), D.bin BinOp.add ((x.at_ r_1).cell 0) r_5 = some r_6 ∧ ∃ (r_7 : D), D.bin BinOp.lss (D.v (Value.int IntKind.i64 n)) r_6 = some r_7 ∧ ∃ (b_3 : Bool), r_7 = D.v (Value.bool b_3) ∧ (b_3 = true → (True ∧ True) ∧ [D.v (Value.bool true)] = [D.v (Value.bool (haveF ps n))]) ∧ (b_3 = false → ∃ (r_8 : D), D.bin BinOp.add r_1 (D.v (Value.int IntKind.i64 1)) = some r_8 ∧ (r_8 = r_8 ∧ D.v (Value.int IntKind.i64 n) = D.v (Value.int IntKind.i64 n) ∧ (true = true ∧ true = true) ∧ True) ∧ ((D.v (Value.int IntKind.i64 b) = D.v (Value.int IntKind.i64 b) ∧ str r = str r ∧ x = x ∧ True) ∧ True) ∧ I [r_8] ∧ μ [r_8] < μ [r_1])) ∧ (b_2 = false → ∃ (r_5 : D), D.bin BinOp.add r_1 (D.v (Value.int IntKind.i64 1)) = some r_5 ∧ (r_5 = r_5 ∧ D.v (Value.int IntKind.i64 n) = D.v (Value.int IntKind.i64 n) ∧ (true = true ∧ true = true) ∧ True) ∧ ((D.v (Value.int IntKind.i64 b) = D.v (Value.int IntKind.i64 b) ∧ str r = str r ∧ x = x ∧ True) ∧ True) ∧ I [r_5] ∧ μ [r_5] < μ [r_1])) ∧ (b_1 = false → (True ∧ True) ∧ [D.v (Value.bool false)] = [D.v (Value.bool (haveF ps n))])) := by kernel_rfl
set_option maxHeartbeats 4000000 in
theorem haveP (x : D) (ps : List Pt) (b : Int) (r : List Int) (n : Int) (hX : IsL 2 (ps.map ptD) x) (hm : ps.length ≤ 100000) (hB : ∀ k, k < ps.length → 0 ≤ (ps.getD k (0, [])).1 ∧ (ps.getD k (0, [])).1 + ((ps.getD k (0, [])).2.length : Nat) ≤ 1099511627776) : PureD Try.prog 49 [.agg [.v (.int .i64 b), str r, x], .v (.int .i64 n)] [.v (.bool (haveF ps n))] := by
  refine pure_cond (Lp := (fun k => if k = 2 then some ⟨[5], [], [1, 2], []⟩ else none)) (by kernel_rfl) Try.func49 (by kernel_rfl) (by kernel_rfl) ?_
  rw [vc_haveP x ps b r n]
  simp only [hX.lenT, List.length_map, Option.some.injEq, exists_eq_left']
  have h1 : True := trivial
  repeat' (first
    | (refine ex_some (by simp (disch := omega) only [bin_shr, bin_shl, bin_and, bin_or, bin_xor, len_str, toStr_ofL, bin_add, bin_sub, bin_mul, bin_quo, bin_rem, bin_lss, bin_leq, bin_gtr, bin_geq, bin_eql, bin_neq, eqs_cn, eqs_ci, eqs_cb, eqs_cs, Option.map_some, lenT_ofL, lst_ofL, lstSz_ofL, chunk_one, lst_nil, lst_sl, lstSz_sl, lstSz_nil, Bool.and_true, Bool.true_and, Bool.and_false, Bool.false_and, beq_self_eq_true, beq_bb, bne_bb, un_not, un_neg, conv_int, min2_int, max2_int, w64, w32, wu8, wu16, wu32, wu64, tdiv_nn, tmod_nn, cell_zero, cell_succ, cell_v, cells_v, cells_agg, Bool.not_true, Bool.not_false, Int.reduceLT, Int.reduceLE, Int.reduceEq, Int.reduceNeg, Int.reduceAdd, Int.reduceSub, Int.reduceMul, intOf_v, decide_true, decide_false, h1, hX.lenT, List.length_map]; rfl) ?_)
    | (refine ex_bool ?_)
    | (exact i1)
    | (refine ⟨(fun r2 => ∃ i : Nat, i ≤ ps.length ∧ (ps.take i).any (inP n) = false ∧ r2 = [.v (.int .i64 (i : Nat))]), leftG ps.length, ?_⟩)
    | (refine fun (r2 : D) (hI : (fun r2 => ∃ i : Nat, i ≤ ps.length ∧ (ps.take i).any (inP n) = false ∧ r2 = [.v (.int .i64 (i : Nat))]) [r2]) => ?_; obtain ⟨i, hi, hA, hl0⟩ := hI; simp only [List.cons.injEq, and_true] at hl0; subst hl0; by_cases hlt : i < ps.length <;> first | (have hk1 : i < ps.length := (by omega); have h1 := pt_get hX hk1; have i1 := pt_inb hX hk1; have hb := hB i hk1; have ht := any_succ (d := (0, [])) hk1 (inP n); have hc := any_at (d := (0, [])) hk1 (p := inP n); generalize ps.getD i (0, []) = z at h1 ht hc hb; obtain ⟨p, q⟩ := z; simp only at hb; simp only [h1, ptD, Nat.zero_add, cell_zero, cell_succ, cells_agg, List.length_cons, List.length_nil]; have hy : p ≤ n → n < p + q.length → haveF ps n = true := fun h1 h2 => hc (by simp [inP, h1, h2]); have nh : (n < p ∨ p + q.length ≤ n) → (ps.take (i + 1)).any (inP n) = false := fun h => (by rw [ht, hA, Bool.false_or]; simp [inP]; omega); have inl1 : True := trivial) | (have hkk : i = ps.length := (by omega); subst hkk; rw [List.take_length] at hA; have hh : haveF ps n = false := hA; have h1 : True := trivial; have out1 : True := trivial))
    | (have := inl1; refine ⟨i + 1, by omega, ?_, rfl⟩)
    | (exact ⟨0, Nat.zero_le _, rfl, rfl⟩)
    | (refine And.intro ?_ ?_)
    | (intro hx; have hprop := (show ∀ (p : Prop), p → True from fun _ _ => True.intro) _ hx; clear hprop; first | (cases hx; done) | (exfalso; revert hx; simp (disch := omega) only [decide_eq_true_eq, decide_eq_false_iff_not, Bool.not_eq_true', Bool.not_eq_false', Bool.and_eq_true, Bool.and_eq_false_iff, Int.not_lt, Int.not_le, ne_eq, not_false_eq_true, not_true_eq_false, reduceCtorEq, Bool.true_eq_false, Bool.false_eq_true, beq_iff_eq, bne_iff_ne, beq_eq_false_iff_ne, false_or, or_false, true_and, and_true, h1, hX.lenT, List.length_map]; done) | (simp (disch := omega) only [decide_eq_true_eq, decide_eq_false_iff_not, Bool.not_eq_true', Bool.not_eq_false', Bool.and_eq_true, Bool.and_eq_false_iff, Int.not_lt, Int.not_le, ne_eq, not_false_eq_true, not_true_eq_false, reduceCtorEq, Bool.true_eq_false, Bool.false_eq_true, beq_iff_eq, bne_iff_ne, beq_eq_false_iff_ne, false_or, or_false, true_and, and_true, h1, hX.lenT, List.length_map] at hx; first | (exfalso; omega) | skip) | skip)
    | trivial
    | exact fit_ofL _ _
    | (simp (disch := omega) only [notAgg_v, notAgg_sl, plain_v, fits, fitsOne, fitsCells, xsOf, cell_zero, cell_succ, List.range, List.range.loop, List.map, cond_true, cond_false, D.v.injEq, exists_eq', exists_eq, and_self, and_true, true_and, D.agg.injEq, List.length, exists_eq_left', D.sl.injEq, reduceCtorEq, false_or, true_or, or_true, or_false, cell_zero, cell_succ, cell_v, cells_v, cells_agg, List.length_cons, List.length_nil, h1, hX.lenT, List.length_map]; done))
  all_goals first
    | (exfalso; omega)
    | omega
    | exact hX.notAgg
    | exact ⟨_, rfl⟩
    | rfl
    | assumption
    | (simp only [leftG]; omega)
    | (rw [h1]; show _ ≤ 2; omega)
    | (refine cb (hy ?_ ?_); all_goals omega)
    | (refine cb ?_; assumption)
    | (refine nh (.inl ?_); omega)
    | (refine nh (.inr ?_); omega)
    | (simp; done)
    | fail

end Go.Proofs.Ytjdemohgegldaaa