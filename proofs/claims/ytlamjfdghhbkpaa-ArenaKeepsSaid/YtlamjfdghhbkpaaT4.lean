/-
  Layer 18: taken, given, set, told.
-/
import Derived.Test.YtlamjfdghhbkpaaT1
import Derived.Test.YtlamjfdghhbkpaaT2
import Derived.Test.YtlamjfdghhbkpaaT3
namespace Go.Proofs.Ytlamjfdghhbkpaa
open Go.RowKit
set_option linter.unusedSimpArgs false
set_option linter.unusedVariables false


/-- Cells in place of what x holds. -/
def reD (x : D) (l : List Cl) : D := match l with | [] => x | c :: l => .sl 3 (cls (c :: l))
theorem reD_self {x : D} {cs : List Cl} (h : IsL 3 (cls cs) x) : reD x cs = x := by
  cases cs with
  | nil => rfl
  | cons c l => rcases h with rfl | ⟨rfl, h0⟩; rfl; simp [cls] at h0
theorem reD_isL {x : D} {cs l : List Cl} (h : IsL 3 (cls cs) x) (hl : l = [] → cs = []) : IsL 3 (cls l) (reD x l) := by
  cases l with
  | nil => rw [hl rfl] at h; exact h
  | cons c l => exact .inl rfl
theorem reD_ne {x : D} {l : List Cl} (h : l ≠ []) : reD x l = .sl 3 (cls l) := by cases l; exact absurd rfl h; rfl
theorem set_ne {cs : List Cl} {k : Nat} {c : Cl} (h : k < cs.length) : cs.set k c ≠ [] := by intro e; have := congrArg List.length e; simp at this; subst this; simp at h
theorem cls_set {cs : List Cl} {x : D} (h : IsL 3 (cls cs) x) {z : Int} (h0 : 0 ≤ z) (h1 : z < cs.length) (c : Cl) : x.setAt (.v (.int .i64 z)) 0 [.v (.bool c.live), .v (.int .i64 c.val), .v (.int .i64 c.link)] = reD x (cs.set z.toNat c) := by
  have hz : z.toNat < cs.length := by omega
  rw [reD_ne (set_ne hz)]
  rcases h with rfl | ⟨rfl, h3⟩
  · simp only [D.setAt]
    have : (cls cs).getD z.toNat default = clD (cs.getD z.toNat c0) := by simp [cls, List.getD, hz]
    rw [this]
    simp [D.splice, clD, cls, List.map_set]
  · have := congrArg List.length h3; simp [cls_len] at this; simp [this] at hz
theorem cls_set1 {cs : List Cl} {x : D} (h : IsL 3 (cls cs) x) {z : Int} (h0 : 0 ≤ z) (h1 : z < cs.length) (v : Int) {c : Cl} (hc : cs.getD z.toNat c0 = c) : x.setAt (.v (.int .i64 z)) 1 [.v (.int .i64 v)] = reD x (cs.set z.toNat ⟨c.live, v, c.link⟩) := by
  have hz : z.toNat < cs.length := by omega
  rw [reD_ne (set_ne hz)]
  rcases h with rfl | ⟨rfl, h3⟩
  · simp only [D.setAt]
    have : (cls cs).getD z.toNat default = clD c := by rw [← hc]; simp [cls, List.getD, hz]
    rw [this]
    simp [D.splice, clD, cls, List.map_set]
  · have := congrArg List.length h3; simp [cls_len] at this; simp [this] at hz
theorem chk_ok {cs : List Cl} {f u : Int} (h : chkF cs f u = 0) : cs.length ≤ 64 ∧ linkB cs f = true ∧ cs.any (bl1 cs) = false ∧ cs.any bl2 = false ∧ u = (cntL cs : Nat) ∧ chF cs (cs.length - cntL cs) f = true := by
  unfold chkF at h
  split at h; · omega
  rename_i h1; split at h; · omega
  rename_i h2; split at h; · omega
  rename_i h3; split at h; · omega
  rename_i h4; split at h; · omega
  rename_i h5
  refine ⟨by omega, by simpa using h2, by simpa using h3, by simpa using h4, ?_, ?_⟩
  · by_cases e : u = (cntL cs : Nat)
    · exact e
    · exact absurd (.inl e) h5
  · cases e : chF cs (cs.length - cntL cs) f
    · exact absurd (.inr e) h5
    · rfl
theorem cnt_pos {cs : List Cl} {k : Nat} (h : k < cs.length) (hl : (cs.getD k c0).live = true) : 0 < cntL cs := by
  unfold cntL
  rw [List.countP_pos_iff]
  exact ⟨cs.getD k c0, by simp [List.getD, h], hl⟩
/-- A live cell of cells that may be. -/
theorem find_ok {cs : List Cl} {f u z : Int} (h : findF cs f u z = 0) : chkF cs f u = 0 ∧ 0 ≤ z ∧ z < (cs.length : Nat) ∧ ∃ v, cs.getD z.toNat c0 = ⟨true, v, 0⟩ := by
  unfold findF at h
  split at h; · omega
  rename_i h1
  have h1 : chkF cs f u = 0 := by omega
  split at h
  · rename_i h2
    simp only [liveB, Bool.and_eq_true, decide_eq_true_eq] at h2
    obtain ⟨⟨h3, h4⟩, h5⟩ := h2
    refine ⟨h1, h3, h4, ?_⟩
    obtain ⟨_, _, _, hb, _⟩ := chk_ok h1
    have : bl2 (cs.getD z.toNat c0) = false := by
      cases e : bl2 (cs.getD z.toNat c0)
      · rfl
      · rw [any_at (by omega) e] at hb; cases hb
    generalize cs.getD z.toNat c0 = c at h5 this
    obtain ⟨lv, vl, lk⟩ := c
    simp only at h5; subst h5
    simp [bl2] at this; subst this
    exact ⟨vl, rfl⟩
  · omega
theorem find_cases (cs : List Cl) (f u z : Int) : 0 ≤ findF cs f u z ∧ findF cs f u z ≤ 10 := by have := chk_cases cs f u; unfold findF; (repeat' split) <;> omega
def setF (cs : List Cl) (f u z v : Int) : List Cl := if findF cs f u z = 0 then cs.set z.toNat ⟨true, v, 0⟩ else cs
def getV (cs : List Cl) (f u z : Int) : Int := if findF cs f u z = 0 then (cs.getD z.toNat c0).val else 0
def findB (cs : List Cl) (f u z : Int) : Bool := decide (findF cs f u z = 0)
theorem plainS {x : D} {cs l : List Cl} (h : IsL 3 (cls cs) x) : PlainD (reD x l) := by
  cases l with
  | nil => exact plainC h
  | cons c l => exact plain_sl (cls_plain _)
def sameS (a b : List Cl) (f g u v : Int) : Bool := decide (f = g) && decide (u = v) && sameC a b
def giveF (cs : List Cl) (f u z : Int) : List Cl × Int × Int := if findF cs f u z = 0 then (cs.set z.toNat ⟨false, 0, f⟩, z, u - 1) else (cs, f, u)

theorem vc_same (x y : D) (a b : List Cl) (f u g v : Int) : Cond Try.prog (fun _ => none) Try.f26 [.agg [x, .v (.int .i64 f), .v (.int .i64 u)], .agg [y, .v (.int .i64 g), .v (.int .i64 v)]] [.v (.bool (sameS a b f g u v))] = (((∃ (cs : List D), D.agg [x, D.v (Value.int IntKind.i64 f), D.v (Value.int IntKind.i64 u)] = D.agg cs ∧ cs.length = 3) ∧ (∃ (cs : List D), D.agg [y, D.v (Value.int IntKind.i64 g), D.v (Value.int IntKind.i64 v)] = D.agg cs ∧ cs.length = 3) ∧ True) ∧ ∃ (r : D), D.bin BinOp.eql (D.v (Value.int IntKind.i64 f)) (D.v (Value.int IntKind.i64 g)) = some r ∧ ∃ (b_1 : Bool), r = D.v (Value.bool b_1) ∧ (b_1 = true → ∃ (r : D), D.bin BinOp.eql (D.v (Value.int IntKind.i64 u)) (D.v (Value.int IntKind.i64 v)) = some r ∧ ∃ (b_2 : Bool), r = D.v (Value.bool b_2) ∧ (b_2 = true → ∃ (r : D), PureD Try.prog 38 [x, y] [r] ∧ fits [(false, [none])] [r] ∧ ((∃ (y : Value), r = D.v y) ∧ True) ∧ [r] = [D.v (Value.bool (sameS a b f g u v))]) ∧ (b_2 = false → (True ∧ True) ∧ [D.v (Value.bool false)] = [D.v (Value.bool (sameS a b f g u v))])) ∧ (b_1 = false → (True ∧ True) ∧ [D.v (Value.bool false)] = [D.v (Value.bool (sameS a b f g u v))])) := by kernel_rfl
theorem same (x y : D) (a b : List Cl) (f u g v : Int) (hX : IsL 3 (cls a) x) (hY : IsL 3 (cls b) y) (ha : a.length ≤ 100000) (hb : b.length ≤ 100000) : PureD Try.prog 26 [.agg [x, .v (.int .i64 f), .v (.int .i64 u)], .agg [y, .v (.int .i64 g), .v (.int .i64 v)]] [.v (.bool (sameS a b f g u v))] := by
  refine pure_cond (Lp := (fun _ => none)) (by kernel_rfl) Try.func26 (by kernel_rfl) (by kernel_rfl) ?_
  rw [vc_same x y a b f u g v]
  have E := equal x y a b hX hY ha hb
  repeat' (first
    | (refine ex_some (by simp (disch := omega) only [bin_shr, bin_shl, bin_and, bin_or, bin_xor, len_str, toStr_ofL, bin_add, bin_sub, bin_mul, bin_quo, bin_rem, bin_lss, bin_leq, bin_gtr, bin_geq, bin_eql, bin_neq, eqs_cn, eqs_ci, eqs_cb, eqs_cs, Option.map_some, lenT_ofL, lst_ofL, lstSz_ofL, chunk_one, lst_nil, lst_sl, lstSz_sl, lstSz_nil, Bool.and_true, Bool.true_and, Bool.and_false, Bool.false_and, beq_self_eq_true, beq_bb, bne_bb, un_not, un_neg, conv_int, min2_int, max2_int, w64, w32, wu8, wu16, wu32, wu64, tdiv_nn, tmod_nn, cell_zero, cell_succ, cell_v, cells_v, cells_agg, Bool.not_true, Bool.not_false, Int.reduceLT, Int.reduceLE, Int.reduceEq, Int.reduceNeg, Int.reduceAdd, Int.reduceSub, Int.reduceMul, intOf_v, decide_true, decide_false]; rfl) ?_)
    | (refine ex_bool ?_)
    | (refine ⟨_, E, ?_⟩)
    | (refine And.intro ?_ ?_)
    | (intro hx; have hprop := (show ∀ (p : Prop), p → True from fun _ _ => True.intro) _ hx; clear hprop; first | (cases hx; done) | (exfalso; revert hx; simp (disch := omega) only [decide_eq_true_eq, decide_eq_false_iff_not, Bool.not_eq_true', Bool.not_eq_false', Bool.and_eq_true, Bool.and_eq_false_iff, Int.not_lt, Int.not_le, ne_eq, not_false_eq_true, not_true_eq_false, reduceCtorEq, Bool.true_eq_false, Bool.false_eq_true, beq_iff_eq, bne_iff_ne, beq_eq_false_iff_ne, false_or, or_false, true_and, and_true]; done) | (simp (disch := omega) only [decide_eq_true_eq, decide_eq_false_iff_not, Bool.not_eq_true', Bool.not_eq_false', Bool.and_eq_true, Bool.and_eq_false_iff, Int.not_lt, Int.not_le, ne_eq, not_false_eq_true, not_true_eq_false, reduceCtorEq, Bool.true_eq_false, Bool.false_eq_true, beq_iff_eq, bne_iff_ne, beq_eq_false_iff_ne, false_or, or_false, true_and, and_true] at hx; first | (exfalso; omega) | skip) | skip)
    | trivial
    | exact fit_ofL _ _
    | (simp (disch := omega) only [notAgg_v, notAgg_sl, plain_v, fits, fitsOne, fitsCells, xsOf, cell_zero, cell_succ, List.range, List.range.loop, List.map, cond_true, cond_false, D.v.injEq, exists_eq', exists_eq, and_self, and_true, true_and, D.agg.injEq, List.length, exists_eq_left', D.sl.injEq, reduceCtorEq, false_or, true_or, or_true, or_false, cell_zero, cell_succ, cell_v, cells_v, cells_agg, List.length_cons, List.length_nil]; done))
  all_goals first
    | (exfalso; omega)
    | exact fit_ofL _ _
    | exact fitC hX
    | exact plainC hX
    | exact ⟨_, rfl⟩
    | omega
    | rfl
    | (simp_all [sameS]; done)
    | (simp_all [sameS]; omega)
    | (simp; done)
    | (simp only [cell_zero, cell_succ, h1]; simp [D.cells, D.isAgg']; done)
    | (simp only [cell_zero, cell_succ, Nat.zero_add, h1]; done)
    | fail

theorem vc_get (x : D) (cs : List Cl) (f u : Int) (z : Int) : Cond Try.prog (fun _ => none) Try.f17 [.agg [x, .v (.int .i64 f), .v (.int .i64 u)], .v (.int .i64 z)] [.v (.int .i64 (getV cs f u z)), .v (.bool (findB cs f u z))] = (((∃ (cs : List D), D.agg [x, D.v (Value.int IntKind.i64 f), D.v (Value.int IntKind.i64 u)] = D.agg cs ∧ cs.length = 3) ∧ NotAgg (D.v (Value.int IntKind.i64 z)) ∧ True) ∧ ∃ (r : D), PureD Try.prog 31 [D.agg [x, D.v (Value.int IntKind.i64 f), D.v (Value.int IntKind.i64 u)], D.v (Value.int IntKind.i64 z)] [r] ∧ fits [(false, [none])] [r] ∧ ∃ (r_1 : D), D.bin BinOp.neq r (D.v (Value.int IntKind.i64 0)) = some r_1 ∧ ∃ (b : Bool), r_1 = D.v (Value.bool b) ∧ (b = true → (True ∧ True ∧ True) ∧ [D.v (Value.int IntKind.i64 0), D.v (Value.bool false)] = [D.v (Value.int IntKind.i64 (getV cs f u z)), D.v (Value.bool (findB cs f u z))]) ∧ (b = false → D.inb 3 x (D.v (Value.int IntKind.i64 z)) ∧ 0 + 1 + 1 ≤ (x.at_ (D.v (Value.int IntKind.i64 z))).cells.length ∧ ((∃ (y : Value), (x.at_ (D.v (Value.int IntKind.i64 z))).cell (0 + 1) = D.v y) ∧ True ∧ True) ∧ [(x.at_ (D.v (Value.int IntKind.i64 z))).cell (0 + 1), D.v (Value.bool true)] = [D.v (Value.int IntKind.i64 (getV cs f u z)), D.v (Value.bool (findB cs f u z))])) := by kernel_rfl
theorem get (x : D) (cs : List Cl) (f u : Int) (z : Int) (hX : IsL 3 (cls cs) x) (hl : cs.length ≤ 100000) : PureD Try.prog 17 [.agg [x, .v (.int .i64 f), .v (.int .i64 u)], .v (.int .i64 z)] [.v (.int .i64 (getV cs f u z)), .v (.bool (findB cs f u z))] := by
  refine pure_cond (Lp := (fun _ => none)) (by kernel_rfl) Try.func17 (by kernel_rfl) (by kernel_rfl) ?_
  rw [vc_get x cs f u z]
  have C := find x cs f u z hX hl
  have hk := find_cases cs f u z
  by_cases h0 : findF cs f u z = 0
  · rw [h0] at C
    have hG : getV cs f u z = (cs.getD z.toNat c0).val := by unfold getV; rw [if_pos h0]
    obtain ⟨hck, hz0, hz1, vl, hc⟩ := find_ok h0
    have h1 := cls_at hX hz0 hz1
    rw [hc] at h1
    simp only [clD] at h1
    have i1 := cls_inb hX hz0 hz1
    rw [hG, hc, show findB cs f u z = true from decide_eq_true h0]
    repeat' (first
      | (refine ex_some (by simp (disch := omega) only [bin_shr, bin_shl, bin_and, bin_or, bin_xor, len_str, toStr_ofL, bin_add, bin_sub, bin_mul, bin_quo, bin_rem, bin_lss, bin_leq, bin_gtr, bin_geq, bin_eql, bin_neq, eqs_cn, eqs_ci, eqs_cb, eqs_cs, Option.map_some, lenT_ofL, lst_ofL, lstSz_ofL, chunk_one, lst_nil, lst_sl, lstSz_sl, lstSz_nil, Bool.and_true, Bool.true_and, Bool.and_false, Bool.false_and, beq_self_eq_true, beq_bb, bne_bb, un_not, un_neg, conv_int, min2_int, max2_int, w64, w32, wu8, wu16, wu32, wu64, tdiv_nn, tmod_nn, cell_zero, cell_succ, cell_v, cells_v, cells_agg, Bool.not_true, Bool.not_false, Int.reduceLT, Int.reduceLE, Int.reduceEq, Int.reduceNeg, Int.reduceAdd, Int.reduceSub, Int.reduceMul, intOf_v, decide_true, decide_false, h1]; rfl) ?_)
      | (refine ex_bool ?_)
      | (refine ⟨_, C, ?_⟩)
      | (exact i1)
      | (refine And.intro ?_ ?_)
      | (intro hx; have hprop := (show ∀ (p : Prop), p → True from fun _ _ => True.intro) _ hx; clear hprop; first | (cases hx; done) | (exfalso; revert hx; simp (disch := omega) only [decide_eq_true_eq, decide_eq_false_iff_not, Bool.not_eq_true', Bool.not_eq_false', Bool.and_eq_true, Bool.and_eq_false_iff, Int.not_lt, Int.not_le, ne_eq, not_false_eq_true, not_true_eq_false, reduceCtorEq, Bool.true_eq_false, Bool.false_eq_true, beq_iff_eq, bne_iff_ne, beq_eq_false_iff_ne, false_or, or_false, true_and, and_true, h1]; done) | (simp (disch := omega) only [decide_eq_true_eq, decide_eq_false_iff_not, Bool.not_eq_true', Bool.not_eq_false', Bool.and_eq_true, Bool.and_eq_false_iff, Int.not_lt, Int.not_le, ne_eq, not_false_eq_true, not_true_eq_false, reduceCtorEq, Bool.true_eq_false, Bool.false_eq_true, beq_iff_eq, bne_iff_ne, beq_eq_false_iff_ne, false_or, or_false, true_and, and_true, h1] at hx; first | (exfalso; omega) | skip) | skip)
      | trivial
      | exact fit_ofL _ _
      | (simp (disch := omega) only [notAgg_v, notAgg_sl, plain_v, fits, fitsOne, fitsCells, xsOf, cell_zero, cell_succ, List.range, List.range.loop, List.map, cond_true, cond_false, D.v.injEq, exists_eq', exists_eq, and_self, and_true, true_and, D.agg.injEq, List.length, exists_eq_left', D.sl.injEq, reduceCtorEq, false_or, true_or, or_true, or_false, cell_zero, cell_succ, cell_v, cells_v, cells_agg, List.length_cons, List.length_nil, h1]; done))
    all_goals first
      | (exfalso; omega)
      | exact fit_ofL _ _
      | exact fitC hX
      | exact plainC hX
      | exact ⟨_, rfl⟩
      | omega
      | rfl
      | (simp; done)
      | (simp only [cell_zero, cell_succ, h1]; simp [D.cells, D.isAgg']; done)
      | (simp only [cell_zero, cell_succ, Nat.zero_add, h1]; done)
      | fail
  · have hG : getV cs f u z = 0 := by unfold getV; rw [if_neg h0]
    have h1 : True := trivial
    rw [hG, show findB cs f u z = false from decide_eq_false h0]
    repeat' (first
      | (refine ex_some (by simp (disch := omega) only [bin_shr, bin_shl, bin_and, bin_or, bin_xor, len_str, toStr_ofL, bin_add, bin_sub, bin_mul, bin_quo, bin_rem, bin_lss, bin_leq, bin_gtr, bin_geq, bin_eql, bin_neq, eqs_cn, eqs_ci, eqs_cb, eqs_cs, Option.map_some, lenT_ofL, lst_ofL, lstSz_ofL, chunk_one, lst_nil, lst_sl, lstSz_sl, lstSz_nil, Bool.and_true, Bool.true_and, Bool.and_false, Bool.false_and, beq_self_eq_true, beq_bb, bne_bb, un_not, un_neg, conv_int, min2_int, max2_int, w64, w32, wu8, wu16, wu32, wu64, tdiv_nn, tmod_nn, cell_zero, cell_succ, cell_v, cells_v, cells_agg, Bool.not_true, Bool.not_false, Int.reduceLT, Int.reduceLE, Int.reduceEq, Int.reduceNeg, Int.reduceAdd, Int.reduceSub, Int.reduceMul, intOf_v, decide_true, decide_false, h1]; rfl) ?_)
      | (refine ex_bool ?_)
      | (refine ⟨_, C, ?_⟩)
      | (exact i1)
      | (refine And.intro ?_ ?_)
      | (intro hx; have hprop := (show ∀ (p : Prop), p → True from fun _ _ => True.intro) _ hx; clear hprop; first | (cases hx; done) | (exfalso; revert hx; simp (disch := omega) only [decide_eq_true_eq, decide_eq_false_iff_not, Bool.not_eq_true', Bool.not_eq_false', Bool.and_eq_true, Bool.and_eq_false_iff, Int.not_lt, Int.not_le, ne_eq, not_false_eq_true, not_true_eq_false, reduceCtorEq, Bool.true_eq_false, Bool.false_eq_true, beq_iff_eq, bne_iff_ne, beq_eq_false_iff_ne, false_or, or_false, true_and, and_true, h1]; done) | (simp (disch := omega) only [decide_eq_true_eq, decide_eq_false_iff_not, Bool.not_eq_true', Bool.not_eq_false', Bool.and_eq_true, Bool.and_eq_false_iff, Int.not_lt, Int.not_le, ne_eq, not_false_eq_true, not_true_eq_false, reduceCtorEq, Bool.true_eq_false, Bool.false_eq_true, beq_iff_eq, bne_iff_ne, beq_eq_false_iff_ne, false_or, or_false, true_and, and_true, h1] at hx; first | (exfalso; omega) | skip) | skip)
      | trivial
      | exact fit_ofL _ _
      | (simp (disch := omega) only [notAgg_v, notAgg_sl, plain_v, fits, fitsOne, fitsCells, xsOf, cell_zero, cell_succ, List.range, List.range.loop, List.map, cond_true, cond_false, D.v.injEq, exists_eq', exists_eq, and_self, and_true, true_and, D.agg.injEq, List.length, exists_eq_left', D.sl.injEq, reduceCtorEq, false_or, true_or, or_true, or_false, cell_zero, cell_succ, cell_v, cells_v, cells_agg, List.length_cons, List.length_nil, h1]; done))
    all_goals first
      | (exfalso; omega)
      | exact fit_ofL _ _
      | exact fitC hX
      | exact plainC hX
      | exact ⟨_, rfl⟩
      | omega
      | rfl
      | (simp; done)
      | (simp only [cell_zero, cell_succ, h1]; simp [D.cells, D.isAgg']; done)
      | (simp only [cell_zero, cell_succ, Nat.zero_add, h1]; done)
      | fail

theorem vc_set (x : D) (cs : List Cl) (f u : Int) (z v : Int) : Cond Try.prog (fun _ => none) Try.f13 [.agg [x, .v (.int .i64 f), .v (.int .i64 u)], .v (.int .i64 z), .v (.int .i64 v)] [.agg [reD x (setF cs f u z v), .v (.int .i64 f), .v (.int .i64 u)], .v (.int .i64 (findF cs f u z))] = (((∃ (cs : List D), D.agg [x, D.v (Value.int IntKind.i64 f), D.v (Value.int IntKind.i64 u)] = D.agg cs ∧ cs.length = 3) ∧ NotAgg (D.v (Value.int IntKind.i64 z)) ∧ NotAgg (D.v (Value.int IntKind.i64 v)) ∧ True) ∧ ∃ (r : D), PureD Try.prog 29 [D.agg [x, D.v (Value.int IntKind.i64 f), D.v (Value.int IntKind.i64 u)]] [r] ∧ fits [(true, [some 3, none, none])] [r] ∧ ∃ (r_1 : D), PureD Try.prog 31 [D.agg [r.cell 0, r.cell 1, r.cell 2], D.v (Value.int IntKind.i64 z)] [r_1] ∧ fits [(false, [none])] [r_1] ∧ ∃ (r_2 : D), D.bin BinOp.eql r_1 (D.v (Value.int IntKind.i64 0)) = some r_2 ∧ ∃ (b : Bool), r_2 = D.v (Value.bool b) ∧ (b = true → D.inb 3 (r.cell 0) (D.v (Value.int IntKind.i64 z)) ∧ 0 + 1 + [D.v (Value.int IntKind.i64 v)].length ≤ ((r.cell 0).at_ (D.v (Value.int IntKind.i64 z))).cells.length ∧ (((r.cell 0).at_ (D.v (Value.int IntKind.i64 z))).isAgg' = true ∨ [D.v (Value.int IntKind.i64 v)].length = 1) ∧ (PlainD ((r.cell 0).setAt (D.v (Value.int IntKind.i64 z)) (0 + 1) [D.v (Value.int IntKind.i64 v)]) ∧ (∃ (y : Value), r.cell 1 = D.v y) ∧ (∃ (y : Value), r.cell 2 = D.v y) ∧ (∃ (y : Value), r_1 = D.v y) ∧ True) ∧ [D.agg [(r.cell 0).setAt (D.v (Value.int IntKind.i64 z)) (0 + 1) [D.v (Value.int IntKind.i64 v)], r.cell 1, r.cell 2], r_1] = [D.agg [reD x (setF cs f u z v), D.v (Value.int IntKind.i64 f), D.v (Value.int IntKind.i64 u)], D.v (Value.int IntKind.i64 (findF cs f u z))]) ∧ (b = false → (PlainD (r.cell 0) ∧ (∃ (y : Value), r.cell 1 = D.v y) ∧ (∃ (y : Value), r.cell 2 = D.v y) ∧ (∃ (y : Value), r_1 = D.v y) ∧ True) ∧ [D.agg [r.cell 0, r.cell 1, r.cell 2], r_1] = [D.agg [reD x (setF cs f u z v), D.v (Value.int IntKind.i64 f), D.v (Value.int IntKind.i64 u)], D.v (Value.int IntKind.i64 (findF cs f u z))])) := by kernel_rfl
theorem set (x : D) (cs : List Cl) (f u : Int) (z v : Int) (hX : IsL 3 (cls cs) x) (hl : cs.length ≤ 100000) : PureD Try.prog 13 [.agg [x, .v (.int .i64 f), .v (.int .i64 u)], .v (.int .i64 z), .v (.int .i64 v)] [.agg [reD x (setF cs f u z v), .v (.int .i64 f), .v (.int .i64 u)], .v (.int .i64 (findF cs f u z))] := by
  refine pure_cond (Lp := (fun _ => none)) (by kernel_rfl) Try.func13 (by kernel_rfl) (by kernel_rfl) ?_
  rw [vc_set x cs f u z v]
  have C := find x cs f u z hX hl
  have K := kept x cs f u hX hl
  have hk := find_cases cs f u z
  by_cases h0 : findF cs f u z = 0
  · rw [h0] at C
    have hG : setF cs f u z v = cs.set z.toNat ⟨true, v, 0⟩ := by unfold setF; rw [if_pos h0]
    obtain ⟨hck, hz0, hz1, vl, hc⟩ := find_ok h0
    have h1 := cls_at hX hz0 hz1
    rw [hc] at h1
    simp only [clD] at h1
    have i1 := cls_inb hX hz0 hz1
    have s1 := cls_set1 hX hz0 hz1 v hc
    rw [hG, h0]
    repeat' (first
      | (refine ex_some (by simp (disch := omega) only [bin_shr, bin_shl, bin_and, bin_or, bin_xor, len_str, toStr_ofL, bin_add, bin_sub, bin_mul, bin_quo, bin_rem, bin_lss, bin_leq, bin_gtr, bin_geq, bin_eql, bin_neq, eqs_cn, eqs_ci, eqs_cb, eqs_cs, Option.map_some, lenT_ofL, lst_ofL, lstSz_ofL, chunk_one, lst_nil, lst_sl, lstSz_sl, lstSz_nil, Bool.and_true, Bool.true_and, Bool.and_false, Bool.false_and, beq_self_eq_true, beq_bb, bne_bb, un_not, un_neg, conv_int, min2_int, max2_int, w64, w32, wu8, wu16, wu32, wu64, tdiv_nn, tmod_nn, cell_zero, cell_succ, cell_v, cells_v, cells_agg, Bool.not_true, Bool.not_false, Int.reduceLT, Int.reduceLE, Int.reduceEq, Int.reduceNeg, Int.reduceAdd, Int.reduceSub, Int.reduceMul, intOf_v, decide_true, decide_false, h1]; rfl) ?_)
      | (refine ex_bool ?_)
      | (refine ⟨_, C, ?_⟩)
      | (refine ⟨_, K, ?_⟩)
      | (exact i1)
      | (refine And.intro ?_ ?_)
      | (intro hx; have hprop := (show ∀ (p : Prop), p → True from fun _ _ => True.intro) _ hx; clear hprop; first | (cases hx; done) | (exfalso; revert hx; simp (disch := omega) only [decide_eq_true_eq, decide_eq_false_iff_not, Bool.not_eq_true', Bool.not_eq_false', Bool.and_eq_true, Bool.and_eq_false_iff, Int.not_lt, Int.not_le, ne_eq, not_false_eq_true, not_true_eq_false, reduceCtorEq, Bool.true_eq_false, Bool.false_eq_true, beq_iff_eq, bne_iff_ne, beq_eq_false_iff_ne, false_or, or_false, true_and, and_true, h1]; done) | (simp (disch := omega) only [decide_eq_true_eq, decide_eq_false_iff_not, Bool.not_eq_true', Bool.not_eq_false', Bool.and_eq_true, Bool.and_eq_false_iff, Int.not_lt, Int.not_le, ne_eq, not_false_eq_true, not_true_eq_false, reduceCtorEq, Bool.true_eq_false, Bool.false_eq_true, beq_iff_eq, bne_iff_ne, beq_eq_false_iff_ne, false_or, or_false, true_and, and_true, h1] at hx; first | (exfalso; omega) | skip) | skip)
      | trivial
      | exact fit_ofL _ _
      | (simp (disch := omega) only [notAgg_v, notAgg_sl, plain_v, fits, fitsOne, fitsCells, xsOf, cell_zero, cell_succ, List.range, List.range.loop, List.map, cond_true, cond_false, D.v.injEq, exists_eq', exists_eq, and_self, and_true, true_and, D.agg.injEq, List.length, exists_eq_left', D.sl.injEq, reduceCtorEq, false_or, true_or, or_true, or_false, cell_zero, cell_succ, cell_v, cells_v, cells_agg, List.length_cons, List.length_nil, h1]; done))
    all_goals first
      | (exfalso; omega)
      | exact fit_ofL _ _
      | exact fitC hX
      | exact plainC hX
      | exact ⟨_, rfl⟩
      | omega
      | rfl
      | (simp only [cell_zero, cell_succ, Nat.zero_add, s1]; first | done | exact plainS hX)
      | (simp; done)
      | (simp only [cell_zero, cell_succ, h1]; simp [D.cells, D.isAgg']; done)
      | (simp only [cell_zero, cell_succ, Nat.zero_add, h1]; done)
      | fail
  · have hG : setF cs f u z v = cs := by unfold setF; rw [if_neg h0]
    have h1 : True := trivial
    rw [hG, reD_self hX]
    repeat' (first
      | (refine ex_some (by simp (disch := omega) only [bin_shr, bin_shl, bin_and, bin_or, bin_xor, len_str, toStr_ofL, bin_add, bin_sub, bin_mul, bin_quo, bin_rem, bin_lss, bin_leq, bin_gtr, bin_geq, bin_eql, bin_neq, eqs_cn, eqs_ci, eqs_cb, eqs_cs, Option.map_some, lenT_ofL, lst_ofL, lstSz_ofL, chunk_one, lst_nil, lst_sl, lstSz_sl, lstSz_nil, Bool.and_true, Bool.true_and, Bool.and_false, Bool.false_and, beq_self_eq_true, beq_bb, bne_bb, un_not, un_neg, conv_int, min2_int, max2_int, w64, w32, wu8, wu16, wu32, wu64, tdiv_nn, tmod_nn, cell_zero, cell_succ, cell_v, cells_v, cells_agg, Bool.not_true, Bool.not_false, Int.reduceLT, Int.reduceLE, Int.reduceEq, Int.reduceNeg, Int.reduceAdd, Int.reduceSub, Int.reduceMul, intOf_v, decide_true, decide_false, h1]; rfl) ?_)
      | (refine ex_bool ?_)
      | (refine ⟨_, C, ?_⟩)
      | (refine ⟨_, K, ?_⟩)
      | (exact i1)
      | (refine And.intro ?_ ?_)
      | (intro hx; have hprop := (show ∀ (p : Prop), p → True from fun _ _ => True.intro) _ hx; clear hprop; first | (cases hx; done) | (exfalso; revert hx; simp (disch := omega) only [decide_eq_true_eq, decide_eq_false_iff_not, Bool.not_eq_true', Bool.not_eq_false', Bool.and_eq_true, Bool.and_eq_false_iff, Int.not_lt, Int.not_le, ne_eq, not_false_eq_true, not_true_eq_false, reduceCtorEq, Bool.true_eq_false, Bool.false_eq_true, beq_iff_eq, bne_iff_ne, beq_eq_false_iff_ne, false_or, or_false, true_and, and_true, h1]; done) | (simp (disch := omega) only [decide_eq_true_eq, decide_eq_false_iff_not, Bool.not_eq_true', Bool.not_eq_false', Bool.and_eq_true, Bool.and_eq_false_iff, Int.not_lt, Int.not_le, ne_eq, not_false_eq_true, not_true_eq_false, reduceCtorEq, Bool.true_eq_false, Bool.false_eq_true, beq_iff_eq, bne_iff_ne, beq_eq_false_iff_ne, false_or, or_false, true_and, and_true, h1] at hx; first | (exfalso; omega) | skip) | skip)
      | trivial
      | exact fit_ofL _ _
      | (simp (disch := omega) only [notAgg_v, notAgg_sl, plain_v, fits, fitsOne, fitsCells, xsOf, cell_zero, cell_succ, List.range, List.range.loop, List.map, cond_true, cond_false, D.v.injEq, exists_eq', exists_eq, and_self, and_true, true_and, D.agg.injEq, List.length, exists_eq_left', D.sl.injEq, reduceCtorEq, false_or, true_or, or_true, or_false, cell_zero, cell_succ, cell_v, cells_v, cells_agg, List.length_cons, List.length_nil, h1]; done))
    all_goals first
      | (exfalso; omega)
      | exact fit_ofL _ _
      | exact fitC hX
      | exact plainC hX
      | exact ⟨_, rfl⟩
      | omega
      | rfl
      | (simp only [cell_zero, cell_succ, Nat.zero_add, s1]; first | done | exact plainS hX)
      | (simp; done)
      | (simp only [cell_zero, cell_succ, h1]; simp [D.cells, D.isAgg']; done)
      | (simp only [cell_zero, cell_succ, Nat.zero_add, h1]; done)
      | fail

theorem vc_give (x : D) (cs : List Cl) (f u : Int) (z : Int) : Cond Try.prog (fun _ => none) Try.f11 [.agg [x, .v (.int .i64 f), .v (.int .i64 u)], .v (.int .i64 z)] [.agg [reD x (giveF cs f u z).1, .v (.int .i64 (giveF cs f u z).2.1), .v (.int .i64 (giveF cs f u z).2.2)], .v (.int .i64 (findF cs f u z))] = (((∃ (cs : List D), D.agg [x, D.v (Value.int IntKind.i64 f), D.v (Value.int IntKind.i64 u)] = D.agg cs ∧ cs.length = 3) ∧ NotAgg (D.v (Value.int IntKind.i64 z)) ∧ True) ∧ ∃ (r : D), PureD Try.prog 29 [D.agg [x, D.v (Value.int IntKind.i64 f), D.v (Value.int IntKind.i64 u)]] [r] ∧ fits [(true, [some 3, none, none])] [r] ∧ ∃ (r_1 : D), PureD Try.prog 31 [D.agg [r.cell 0, r.cell 1, r.cell 2], D.v (Value.int IntKind.i64 z)] [r_1] ∧ fits [(false, [none])] [r_1] ∧ ∃ (r_2 : D), D.bin BinOp.neq r_1 (D.v (Value.int IntKind.i64 0)) = some r_2 ∧ ∃ (b : Bool), r_2 = D.v (Value.bool b) ∧ (b = true → (PlainD (r.cell 0) ∧ (∃ (y : Value), r.cell 1 = D.v y) ∧ (∃ (y : Value), r.cell 2 = D.v y) ∧ (∃ (y : Value), r_1 = D.v y) ∧ True) ∧ [D.agg [r.cell 0, r.cell 1, r.cell 2], r_1] = [D.agg [reD x (giveF cs f u z).1, D.v (Value.int IntKind.i64 (giveF cs f u z).snd.fst), D.v (Value.int IntKind.i64 (giveF cs f u z).snd.snd)], D.v (Value.int IntKind.i64 (findF cs f u z))]) ∧ (b = false → D.inb 3 (r.cell 0) (D.v (Value.int IntKind.i64 z)) ∧ 0 + [D.v (Value.bool false), D.v (Value.int IntKind.i64 0), r.cell 1].length ≤ ((r.cell 0).at_ (D.v (Value.int IntKind.i64 z))).cells.length ∧ (((r.cell 0).at_ (D.v (Value.int IntKind.i64 z))).isAgg' = true ∨ [D.v (Value.bool false), D.v (Value.int IntKind.i64 0), r.cell 1].length = 1) ∧ ∃ (r_3 : D), D.bin BinOp.sub (r.cell 2) (D.v (Value.int IntKind.i64 1)) = some r_3 ∧ (PlainD ((r.cell 0).setAt (D.v (Value.int IntKind.i64 z)) 0 [D.v (Value.bool false), D.v (Value.int IntKind.i64 0), r.cell 1]) ∧ (∃ (y : Value), D.v (Value.int IntKind.i64 z) = D.v y) ∧ (∃ (y : Value), r_3 = D.v y) ∧ True ∧ True) ∧ [D.agg [(r.cell 0).setAt (D.v (Value.int IntKind.i64 z)) 0 [D.v (Value.bool false), D.v (Value.int IntKind.i64 0), r.cell 1], D.v (Value.int IntKind.i64 z), r_3], D.v (Value.int IntKind.i64 0)] = [D.agg [reD x (giveF cs f u z).1, D.v (Value.int IntKind.i64 (giveF cs f u z).snd.fst), D.v (Value.int IntKind.i64 (giveF cs f u z).snd.snd)], D.v (Value.int IntKind.i64 (findF cs f u z))])) := by kernel_rfl
theorem give (x : D) (cs : List Cl) (f u : Int) (z : Int) (hX : IsL 3 (cls cs) x) (hl : cs.length ≤ 100000) : PureD Try.prog 11 [.agg [x, .v (.int .i64 f), .v (.int .i64 u)], .v (.int .i64 z)] [.agg [reD x (giveF cs f u z).1, .v (.int .i64 (giveF cs f u z).2.1), .v (.int .i64 (giveF cs f u z).2.2)], .v (.int .i64 (findF cs f u z))] := by
  refine pure_cond (Lp := (fun _ => none)) (by kernel_rfl) Try.func11 (by kernel_rfl) (by kernel_rfl) ?_
  rw [vc_give x cs f u z]
  have C := find x cs f u z hX hl
  have K := kept x cs f u hX hl
  have hk := find_cases cs f u z
  by_cases h0 : findF cs f u z = 0
  · rw [h0] at C
    have hG : giveF cs f u z = (cs.set z.toNat ⟨false, 0, f⟩, z, u - 1) := by unfold giveF; rw [if_pos h0]
    obtain ⟨hck, hz0, hz1, vl, hc⟩ := find_ok h0
    have h1 := cls_at hX hz0 hz1
    rw [hc] at h1
    simp only [clD] at h1
    have i1 := cls_inb hX hz0 hz1
    have hok := chk_ok hck
    have hp := cnt_pos (cs := cs) (k := z.toNat) (by omega) (by rw [hc])
    have hcl := cnt_le cs
    have hu := hok.2.2.2.2.1
    have s1 := cls_set hX hz0 hz1 ⟨false, 0, f⟩
    rw [hG, h0]
    repeat' (first
      | (refine ex_some (by simp (disch := omega) only [bin_shr, bin_shl, bin_and, bin_or, bin_xor, len_str, toStr_ofL, bin_add, bin_sub, bin_mul, bin_quo, bin_rem, bin_lss, bin_leq, bin_gtr, bin_geq, bin_eql, bin_neq, eqs_cn, eqs_ci, eqs_cb, eqs_cs, Option.map_some, lenT_ofL, lst_ofL, lstSz_ofL, chunk_one, lst_nil, lst_sl, lstSz_sl, lstSz_nil, Bool.and_true, Bool.true_and, Bool.and_false, Bool.false_and, beq_self_eq_true, beq_bb, bne_bb, un_not, un_neg, conv_int, min2_int, max2_int, w64, w32, wu8, wu16, wu32, wu64, tdiv_nn, tmod_nn, cell_zero, cell_succ, cell_v, cells_v, cells_agg, Bool.not_true, Bool.not_false, Int.reduceLT, Int.reduceLE, Int.reduceEq, Int.reduceNeg, Int.reduceAdd, Int.reduceSub, Int.reduceMul, intOf_v, decide_true, decide_false, h1]; rfl) ?_)
      | (refine ex_bool ?_)
      | (refine ⟨_, C, ?_⟩)
      | (refine ⟨_, K, ?_⟩)
      | (exact i1)
      | (refine And.intro ?_ ?_)
      | (intro hx; have hprop := (show ∀ (p : Prop), p → True from fun _ _ => True.intro) _ hx; clear hprop; first | (cases hx; done) | (exfalso; revert hx; simp (disch := omega) only [decide_eq_true_eq, decide_eq_false_iff_not, Bool.not_eq_true', Bool.not_eq_false', Bool.and_eq_true, Bool.and_eq_false_iff, Int.not_lt, Int.not_le, ne_eq, not_false_eq_true, not_true_eq_false, reduceCtorEq, Bool.true_eq_false, Bool.false_eq_true, beq_iff_eq, bne_iff_ne, beq_eq_false_iff_ne, false_or, or_false, true_and, and_true, h1]; done) | (simp (disch := omega) only [decide_eq_true_eq, decide_eq_false_iff_not, Bool.not_eq_true', Bool.not_eq_false', Bool.and_eq_true, Bool.and_eq_false_iff, Int.not_lt, Int.not_le, ne_eq, not_false_eq_true, not_true_eq_false, reduceCtorEq, Bool.true_eq_false, Bool.false_eq_true, beq_iff_eq, bne_iff_ne, beq_eq_false_iff_ne, false_or, or_false, true_and, and_true, h1] at hx; first | (exfalso; omega) | skip) | skip)
      | trivial
      | exact fit_ofL _ _
      | (simp (disch := omega) only [notAgg_v, notAgg_sl, plain_v, fits, fitsOne, fitsCells, xsOf, cell_zero, cell_succ, List.range, List.range.loop, List.map, cond_true, cond_false, D.v.injEq, exists_eq', exists_eq, and_self, and_true, true_and, D.agg.injEq, List.length, exists_eq_left', D.sl.injEq, reduceCtorEq, false_or, true_or, or_true, or_false, cell_zero, cell_succ, cell_v, cells_v, cells_agg, List.length_cons, List.length_nil, h1]; done))
    all_goals first
      | (exfalso; omega)
      | exact fit_ofL _ _
      | exact fitC hX
      | exact plainC hX
      | exact ⟨_, rfl⟩
      | omega
      | rfl
      | (simp only [cell_zero, cell_succ, Nat.zero_add, s1]; first | done | exact plainS hX)
      | (simp; done)
      | (simp only [cell_zero, cell_succ, h1]; simp [D.cells, D.isAgg']; done)
      | (simp only [cell_zero, cell_succ, Nat.zero_add, h1]; done)
      | fail
  · have hG : giveF cs f u z = (cs, f, u) := by unfold giveF; rw [if_neg h0]
    have h1 : True := trivial
    rw [hG]
    simp only
    rw [reD_self hX]
    repeat' (first
      | (refine ex_some (by simp (disch := omega) only [bin_shr, bin_shl, bin_and, bin_or, bin_xor, len_str, toStr_ofL, bin_add, bin_sub, bin_mul, bin_quo, bin_rem, bin_lss, bin_leq, bin_gtr, bin_geq, bin_eql, bin_neq, eqs_cn, eqs_ci, eqs_cb, eqs_cs, Option.map_some, lenT_ofL, lst_ofL, lstSz_ofL, chunk_one, lst_nil, lst_sl, lstSz_sl, lstSz_nil, Bool.and_true, Bool.true_and, Bool.and_false, Bool.false_and, beq_self_eq_true, beq_bb, bne_bb, un_not, un_neg, conv_int, min2_int, max2_int, w64, w32, wu8, wu16, wu32, wu64, tdiv_nn, tmod_nn, cell_zero, cell_succ, cell_v, cells_v, cells_agg, Bool.not_true, Bool.not_false, Int.reduceLT, Int.reduceLE, Int.reduceEq, Int.reduceNeg, Int.reduceAdd, Int.reduceSub, Int.reduceMul, intOf_v, decide_true, decide_false, h1]; rfl) ?_)
      | (refine ex_bool ?_)
      | (refine ⟨_, C, ?_⟩)
      | (refine ⟨_, K, ?_⟩)
      | (exact i1)
      | (refine And.intro ?_ ?_)
      | (intro hx; have hprop := (show ∀ (p : Prop), p → True from fun _ _ => True.intro) _ hx; clear hprop; first | (cases hx; done) | (exfalso; revert hx; simp (disch := omega) only [decide_eq_true_eq, decide_eq_false_iff_not, Bool.not_eq_true', Bool.not_eq_false', Bool.and_eq_true, Bool.and_eq_false_iff, Int.not_lt, Int.not_le, ne_eq, not_false_eq_true, not_true_eq_false, reduceCtorEq, Bool.true_eq_false, Bool.false_eq_true, beq_iff_eq, bne_iff_ne, beq_eq_false_iff_ne, false_or, or_false, true_and, and_true, h1]; done) | (simp (disch := omega) only [decide_eq_true_eq, decide_eq_false_iff_not, Bool.not_eq_true', Bool.not_eq_false', Bool.and_eq_true, Bool.and_eq_false_iff, Int.not_lt, Int.not_le, ne_eq, not_false_eq_true, not_true_eq_false, reduceCtorEq, Bool.true_eq_false, Bool.false_eq_true, beq_iff_eq, bne_iff_ne, beq_eq_false_iff_ne, false_or, or_false, true_and, and_true, h1] at hx; first | (exfalso; omega) | skip) | skip)
      | trivial
      | exact fit_ofL _ _
      | (simp (disch := omega) only [notAgg_v, notAgg_sl, plain_v, fits, fitsOne, fitsCells, xsOf, cell_zero, cell_succ, List.range, List.range.loop, List.map, cond_true, cond_false, D.v.injEq, exists_eq', exists_eq, and_self, and_true, true_and, D.agg.injEq, List.length, exists_eq_left', D.sl.injEq, reduceCtorEq, false_or, true_or, or_true, or_false, cell_zero, cell_succ, cell_v, cells_v, cells_agg, List.length_cons, List.length_nil, h1]; done))
    all_goals first
      | (exfalso; omega)
      | exact fit_ofL _ _
      | exact fitC hX
      | exact plainC hX
      | exact ⟨_, rfl⟩
      | omega
      | rfl
      | (simp only [cell_zero, cell_succ, Nat.zero_add, s1]; first | done | exact plainS hX)
      | (simp; done)
      | (simp only [cell_zero, cell_succ, h1]; simp [D.cells, D.isAgg']; done)
      | (simp only [cell_zero, cell_succ, Nat.zero_add, h1]; done)
      | fail

end Go.Proofs.Ytlamjfdghhbkpaa