/-
  Layer 18: cells; chains.
-/
import Derived.Test.YtlamjfdghhbkpaaAm19
namespace Go.Proofs.Ytlamjfdghhbkpaa
open Go.RowKit
set_option linter.unusedSimpArgs false
set_option linter.unusedVariables false


structure Cl where
  live : Bool
  val : Int
  link : Int
deriving DecidableEq, Inhabited
def clD (c : Cl) : D := .agg [.v (.bool c.live), .v (.int .i64 c.val), .v (.int .i64 c.link)]
def cls (l : List Cl) : List D := l.map clD
theorem cls_len (l : List Cl) : (cls l).length = l.length := by simp [cls]
def c0 : Cl := ⟨false, 0, 0⟩
theorem cls_at {cs : List Cl} {x : D} (h : IsL 3 (cls cs) x) {z : Int} (h0 : 0 ≤ z) (h1 : z < cs.length) : x.at_ (.v (.int .i64 z)) = clD (cs.getD z.toNat c0) := by
  rw [h.at_]
  have : z.toNat < cs.length := by omega
  simp [cls, List.getD, this]
theorem cls_inb {cs : List Cl} {x : D} (h : IsL 3 (cls cs) x) {z : Int} (h0 : 0 ≤ z) (h1 : z < cs.length) : D.inb 3 x (.v (.int .i64 z)) := h.inb h0 (by rw [cls_len]; exact h1)
def linkB (cs : List Cl) (z : Int) : Bool := decide (-1 ≤ z ∧ z < (cs.length : Nat))
/-- All spare cells' links may be. -/
def LinksOk (cs : List Cl) : Prop := ∀ i, i < cs.length → (cs.getD i c0).live = false → -1 ≤ (cs.getD i c0).link ∧ (cs.getD i c0).link < (cs.length : Nat)
def chF (cs : List Cl) : Nat → Int → Bool
  | 0, z => decide (z = -1)
  | n + 1, z => if z = -1 then false else if (cs.getD z.toNat c0).live then false else chF cs n (cs.getD z.toNat c0).link
def lm2 : List D → Nat
  | _ :: .v (.int _ n) :: _ => n.toNat
  | _ => 0

theorem vc_links (x : D) (cs : List Cl) (f u : Int) (z : Int) : Cond Try.prog (fun _ => none) Try.f33 [.agg [x, .v (.int .i64 f), .v (.int .i64 u)], .v (.int .i64 z)] [.v (.bool (linkB cs z))] = (((∃ (cs : List D), D.agg [x, D.v (Value.int IntKind.i64 f), D.v (Value.int IntKind.i64 u)] = D.agg cs ∧ cs.length = 3) ∧ NotAgg (D.v (Value.int IntKind.i64 z)) ∧ True) ∧ ∃ (r : D), D.bin BinOp.geq (D.v (Value.int IntKind.i64 z)) (D.v (Value.int IntKind.i64 (-1))) = some r ∧ ∃ (b : Bool), r = D.v (Value.bool b) ∧ (b = true → ∃ (r : D), D.lenT (TypeDesc.slice 62) x = some r ∧ ∃ (r_1 : D), D.bin BinOp.lss (D.v (Value.int IntKind.i64 z)) r = some r_1 ∧ ((∃ (y : Value), r_1 = D.v y) ∧ True) ∧ [r_1] = [D.v (Value.bool (linkB cs z))]) ∧ (b = false → (True ∧ True) ∧ [D.v (Value.bool false)] = [D.v (Value.bool (linkB cs z))])) := by kernel_rfl
theorem links (x : D) (cs : List Cl) (f u : Int) (z : Int) (hX : IsL 3 (cls cs) x) (hl : cs.length ≤ 100000) : PureD Try.prog 33 [.agg [x, .v (.int .i64 f), .v (.int .i64 u)], .v (.int .i64 z)] [.v (.bool (linkB cs z))] := by
  refine pure_cond (Lp := (fun _ => none)) (by kernel_rfl) Try.func33 (by kernel_rfl) (by kernel_rfl) ?_
  rw [vc_links x cs f u z]
  simp only [hX.lenT, cls_len, Option.some.injEq, exists_eq_left']
  repeat' (first
    | (refine ex_some (by simp (disch := omega) only [bin_shr, bin_shl, bin_and, bin_or, bin_xor, len_str, toStr_ofL, bin_add, bin_sub, bin_mul, bin_quo, bin_rem, bin_lss, bin_leq, bin_gtr, bin_geq, bin_eql, bin_neq, eqs_cn, eqs_ci, eqs_cb, eqs_cs, Option.map_some, lenT_ofL, lst_ofL, lstSz_ofL, chunk_one, lst_nil, lst_sl, lstSz_sl, lstSz_nil, Bool.and_true, Bool.true_and, Bool.and_false, Bool.false_and, beq_self_eq_true, beq_bb, bne_bb, un_not, un_neg, conv_int, min2_int, max2_int, w64, w32, wu8, wu16, wu32, wu64, tdiv_nn, tmod_nn, cell_zero, cell_succ, cell_v, cells_v, cells_agg, Bool.not_true, Bool.not_false, Int.reduceLT, Int.reduceLE, Int.reduceEq, Int.reduceNeg, Int.reduceAdd, Int.reduceSub, Int.reduceMul, intOf_v, decide_true, decide_false]; rfl) ?_)
    | (refine ex_bool ?_)
    | (refine And.intro ?_ ?_)
    | (intro hx; have hprop := (show ∀ (p : Prop), p → True from fun _ _ => True.intro) _ hx; clear hprop; first | (cases hx; done) | (exfalso; revert hx; simp (disch := omega) only [decide_eq_true_eq, decide_eq_false_iff_not, Bool.not_eq_true', Bool.not_eq_false', Bool.and_eq_true, Bool.and_eq_false_iff, Int.not_lt, Int.not_le, ne_eq, not_false_eq_true, not_true_eq_false, reduceCtorEq, Bool.true_eq_false, Bool.false_eq_true, beq_iff_eq, bne_iff_ne, beq_eq_false_iff_ne, false_or, or_false, true_and, and_true]; done) | (simp (disch := omega) only [decide_eq_true_eq, decide_eq_false_iff_not, Bool.not_eq_true', Bool.not_eq_false', Bool.and_eq_true, Bool.and_eq_false_iff, Int.not_lt, Int.not_le, ne_eq, not_false_eq_true, not_true_eq_false, reduceCtorEq, Bool.true_eq_false, Bool.false_eq_true, beq_iff_eq, bne_iff_ne, beq_eq_false_iff_ne, false_or, or_false, true_and, and_true] at hx; first | (exfalso; omega) | skip) | skip)
    | trivial
    | exact fit_ofL _ _
    | (simp (disch := omega) only [notAgg_v, notAgg_sl, plain_v, fits, fitsOne, fitsCells, xsOf, cell_zero, cell_succ, List.range, List.range.loop, List.map, cond_true, cond_false, D.v.injEq, exists_eq', exists_eq, and_self, and_true, true_and, D.agg.injEq, List.length, exists_eq_left', D.sl.injEq, reduceCtorEq, false_or, true_or, or_true, or_false, cell_zero, cell_succ, cell_v, cells_v, cells_agg, List.length_cons, List.length_nil]; done))
  all_goals first | (exfalso; omega) | (by_cases h : z < (cs.length : Nat) <;> simp [linkB, h] <;> omega) | (unfold linkB; congr 4; rw [eq_comm, decide_eq_false_iff_not]; omega) | fail

theorem vc_chained (x : D) (cs : List Cl) (f u : Int) (n : Nat) : Cond Try.prog (fun k => if k = 2000 then some ⟨[5, 1], [], [2], []⟩ else none) Try.f34 [.agg [x, .v (.int .i64 f), .v (.int .i64 u)], .v (.int .i64 (n : Nat))] [.v (.bool (chF cs n f))] = (((∃ (cs : List D), D.agg [x, D.v (Value.int IntKind.i64 f), D.v (Value.int IntKind.i64 u)] = D.agg cs ∧ cs.length = 3) ∧ NotAgg (D.v (Value.int IntKind.i64 ↑n)) ∧ True) ∧ ∃ (I : List D → Prop), ∃ (μ : List D → Nat), ((D.v (Value.int IntKind.i64 f) = D.v (Value.int IntKind.i64 f) ∧ D.v (Value.int IntKind.i64 ↑n) = D.v (Value.int IntKind.i64 ↑n) ∧ (true = true ∧ true = true) ∧ True) ∧ ((x = x ∧ D.v (Value.int IntKind.i64 f) = D.v (Value.int IntKind.i64 f) ∧ D.v (Value.int IntKind.i64 u) = D.v (Value.int IntKind.i64 u) ∧ True) ∧ True) ∧ I [D.v (Value.int IntKind.i64 f), D.v (Value.int IntKind.i64 ↑n)]) ∧ ∀ (r r_1 : D), I [r, r_1] → ∃ (r_2 : D), D.bin BinOp.eql r (D.v (Value.int IntKind.i64 (-1))) = some r_2 ∧ ∃ (b : Bool), r_2 = D.v (Value.bool b) ∧ (b = true → ∃ (r : D), D.bin BinOp.eql r_1 (D.v (Value.int IntKind.i64 0)) = some r ∧ ((∃ (y : Value), r = D.v y) ∧ True) ∧ [r] = [D.v (Value.bool (chF cs n f))]) ∧ (b = false → D.inb 3 x r ∧ 0 + 1 ≤ (x.at_ r).cells.length ∧ ∃ (b : Bool), (x.at_ r).cell 0 = D.v (Value.bool b) ∧ (b = false → ∃ (r_3 : D), D.bin BinOp.eql r_1 (D.v (Value.int IntKind.i64 0)) = some r_3 ∧ ∃ (b : Bool), r_3 = D.v (Value.bool b) ∧ (b = true → (True ∧ True) ∧ [D.v (Value.bool false)] = [D.v (Value.bool (chF cs n f))]) ∧ (b = false → ∃ (r_4 : D), D.bin BinOp.sub r_1 (D.v (Value.int IntKind.i64 1)) = some r_4 ∧ D.inb 3 x r ∧ 1 + 1 + 1 ≤ (x.at_ r).cells.length ∧ ((x.at_ r).cell (1 + 1) = (x.at_ r).cell (1 + 1) ∧ r_4 = r_4 ∧ (true = true ∧ true = true) ∧ True) ∧ ((x = x ∧ D.v (Value.int IntKind.i64 f) = D.v (Value.int IntKind.i64 f) ∧ D.v (Value.int IntKind.i64 u) = D.v (Value.int IntKind.i64 u) ∧ True) ∧ True) ∧ I [(x.at_ r).cell (1 + 1), r_4] ∧ μ [(x.at_ r).cell (1 + 1), r_4] < μ [r, r_1])) ∧ (b = true → (True ∧ True) ∧ [D.v (Value.bool false)] = [D.v (Value.bool (chF cs n f))]))) := by kernel_rfl
theorem chained (x : D) (cs : List Cl) (f u : Int) (n : Nat) (hX : IsL 3 (cls cs) x) (hl : cs.length ≤ 100000) (hlo : LinksOk cs) (hf : -1 ≤ f ∧ f < (cs.length : Nat)) (hn : n ≤ 100000) : PureD Try.prog 34 [.agg [x, .v (.int .i64 f), .v (.int .i64 u)], .v (.int .i64 (n : Nat))] [.v (.bool (chF cs n f))] := by
  refine pure_cond (Lp := (fun k => if k = 2000 then some ⟨[5, 1], [], [2], []⟩ else none)) (by kernel_rfl) Try.func34 (by kernel_rfl) (by kernel_rfl) ?_
  rw [vc_chained x cs f u n]
  have h1 : True := trivial
  repeat' (first
    | (refine ex_some (by simp (disch := omega) only [bin_shr, bin_shl, bin_and, bin_or, bin_xor, len_str, toStr_ofL, bin_add, bin_sub, bin_mul, bin_quo, bin_rem, bin_lss, bin_leq, bin_gtr, bin_geq, bin_eql, bin_neq, eqs_cn, eqs_ci, eqs_cb, eqs_cs, Option.map_some, lenT_ofL, lst_ofL, lstSz_ofL, chunk_one, lst_nil, lst_sl, lstSz_sl, lstSz_nil, Bool.and_true, Bool.true_and, Bool.and_false, Bool.false_and, beq_self_eq_true, beq_bb, bne_bb, un_not, un_neg, conv_int, min2_int, max2_int, w64, w32, wu8, wu16, wu32, wu64, tdiv_nn, tmod_nn, cell_zero, cell_succ, cell_v, cells_v, cells_agg, Bool.not_true, Bool.not_false, Int.reduceLT, Int.reduceLE, Int.reduceEq, Int.reduceNeg, Int.reduceAdd, Int.reduceSub, Int.reduceMul, intOf_v, decide_true, decide_false, h1]; rfl) ?_)
    | (refine ex_bool ?_)
    | (refine ⟨(fun r => ∃ (z : Int) (m : Nat), -1 ≤ z ∧ z < (cs.length : Nat) ∧ m ≤ n ∧ chF cs m z = chF cs n f ∧ r = [.v (.int .i64 z), .v (.int .i64 (m : Nat))]), lm2, ?_⟩)
    | (refine fun (r2 r3 : D) (hI : (fun r => ∃ (z : Int) (m : Nat), -1 ≤ z ∧ z < (cs.length : Nat) ∧ m ≤ n ∧ chF cs m z = chF cs n f ∧ r = [.v (.int .i64 z), .v (.int .i64 (m : Nat))]) [r2, r3]) => ?_; obtain ⟨z, m, hz, hz1, hmn, hch, hl0⟩ := hI; simp only [List.cons.injEq, and_true] at hl0; obtain ⟨rfl, rfl⟩ := hl0; by_cases hlt : 0 ≤ z <;> first | (have hz0 : 0 ≤ z := (by omega); have h1 := cls_at hX hz0 hz1; have i1 := cls_inb hX hz0 hz1; have hlk := hlo z.toNat (by omega); have hne : ¬ z = -1 := (by omega); rcases Nat.eq_zero_or_pos m with h0 | h0; all_goals (first | (subst h0; have hc1 : chF cs n f = false := (by rw [← hch]; unfold chF; rw [decide_eq_false hne]); have inl1 : True := trivial) | (obtain ⟨m2, rfl⟩ : ∃ m2, m = m2 + 1 := ⟨m - 1, by omega⟩; have hch2 : chF cs (m2 + 1) z = if (cs.getD z.toNat c0).live then false else chF cs m2 (cs.getD z.toNat c0).link := (by simp only [chF]; rw [if_neg hne]); have inl3 : True := trivial)); all_goals generalize cs.getD z.toNat c0 = c at *; all_goals obtain ⟨lv, vl, lk⟩ := c; all_goals simp only [clD] at *; all_goals simp only [h1, Nat.zero_add, cell_zero, cell_succ, cells_agg, List.length_cons, List.length_nil]) | (have hz2 : z = -1 := (by omega); subst hz2; have hc0 : chF cs n f = decide (m = 0) := (by rw [← hch]; cases m <;> simp [chF]); have h1 : True := trivial; have inl2 : True := trivial))
    | (exact i1)
    | (exact ⟨f, n, hf.1, hf.2, Nat.le_refl _, rfl, rfl⟩)
    | (have := inl3; have hq := hlk (by assumption); refine ⟨lk, m2, hq.1, hq.2, by omega, ?_, ?_⟩)
    | (refine And.intro ?_ ?_)
    | (intro hx; have hprop := (show ∀ (p : Prop), p → True from fun _ _ => True.intro) _ hx; clear hprop; first | (cases hx; done) | (exfalso; revert hx; simp (disch := omega) only [decide_eq_true_eq, decide_eq_false_iff_not, Bool.not_eq_true', Bool.not_eq_false', Bool.and_eq_true, Bool.and_eq_false_iff, Int.not_lt, Int.not_le, ne_eq, not_false_eq_true, not_true_eq_false, reduceCtorEq, Bool.true_eq_false, Bool.false_eq_true, beq_iff_eq, bne_iff_ne, beq_eq_false_iff_ne, false_or, or_false, true_and, and_true, h1]; done) | (simp (disch := omega) only [decide_eq_true_eq, decide_eq_false_iff_not, Bool.not_eq_true', Bool.not_eq_false', Bool.and_eq_true, Bool.and_eq_false_iff, Int.not_lt, Int.not_le, ne_eq, not_false_eq_true, not_true_eq_false, reduceCtorEq, Bool.true_eq_false, Bool.false_eq_true, beq_iff_eq, bne_iff_ne, beq_eq_false_iff_ne, false_or, or_false, true_and, and_true, h1] at hx; first | (exfalso; omega) | skip) | skip)
    | trivial
    | exact fit_ofL _ _
    | (simp (disch := omega) only [notAgg_v, notAgg_sl, plain_v, fits, fitsOne, fitsCells, xsOf, cell_zero, cell_succ, List.range, List.range.loop, List.map, cond_true, cond_false, D.v.injEq, exists_eq', exists_eq, and_self, and_true, true_and, D.agg.injEq, List.length, exists_eq_left', D.sl.injEq, reduceCtorEq, false_or, true_or, or_true, or_false, cell_zero, cell_succ, cell_v, cells_v, cells_agg, List.length_cons, List.length_nil, h1]; done))
  all_goals first | (exfalso; omega) | omega | (simp_all; done) | (simp only [lm2]; omega) | (rw [← hch, hch2]; simp_all; done) | (simp; omega) | fail

end Go.Proofs.Ytlamjfdghhbkpaa