/-
  Layer 21: acts, one behind the other; numbers held against each other.
-/
import Derived.Test.YtdonkkcdjbjkeaaT1
namespace Go.Proofs.Ytdonkkcdjbjkeaa
open Go.RowKit
set_option linter.unusedSimpArgs false
set_option linter.unusedVariables false


def actD (z : Int × Int) : D := .agg [.v (.int .u8 z.1), .v (.int .i64 z.2)]
def step (s : G × List Int) (z : Int × Int) : G × List Int := ((Ytdonkkcdjbjkeaa.one s.1 z).1, s.2 ++ [(Ytdonkkcdjbjkeaa.one s.1 z).2])
def runF (g : G) (zs : List (Int × Int)) : G × List Int := zs.foldl step (g, [])
theorem runF_snoc (g : G) (zs : List (Int × Int)) (z : Int × Int) : runF g (zs ++ [z]) = step (runF g zs) z := by simp [runF]
theorem step_len (s : G × List Int) (z : Int × Int) : (step s z).2.length = s.2.length + 1 := by simp [step]
theorem runF_len (g : G) (zs : List (Int × Int)) : (runF g zs).2.length = zs.length := by
  have : ∀ (zs : List (Int × Int)) (s : G × List Int), (zs.foldl step s).2.length = s.2.length + zs.length := by
    intro zs
    induction zs with
    | nil => intro s; simp
    | cons z zs ih => intro s; simp [ih, step_len]; omega
  have := this zs (g, [])
  simp only [List.length_nil, Nat.zero_add] at this
  exact this
/-- What stands at the head of the round. -/
def headL (g : G) (zs : List (Int × Int)) (k : Nat) : List D :=
  [.v (.int .i64 (k : Nat)), .v (.int .i64 (runF g (zs.take k)).1.w), .v (.int .i64 (runF g (zs.take k)).1.l), .v (.int .i64 (runF g (zs.take k)).1.u), .v (.int .i64 (runF g (zs.take k)).1.r), ofL 1 (ints .i64 (runF g (zs.take k)).2)]
def leftOf (n : Nat) : List D → Nat
  | .v (.int _ i) :: _ => n - i.toNat
  | _ => 0
theorem take_snoc' {zs : List (Int × Int)} {k : Nat} (h : k < zs.length) : zs.take (k + 1) = zs.take k ++ [zs.getD k (0, 0)] := by
  rw [List.take_succ_eq_append_getElem h]; simp [List.getD, h]
theorem acts_at {zs : List (Int × Int)} {k : Nat} (h : k < zs.length) : (zs.map actD).getD k default = actD (zs.getD k (0, 0)) := by simp [List.getD, h]

def sameB (a b : List Int) : Bool := decide (a = b)
theorem take_eq_step {a b : List Int} {k : Nat} (hk : k < a.length) (hl : a.length = b.length) (h : a.take k = b.take k) : a.take (k + 1) = b.take (k + 1) ↔ a.getD k 0 = b.getD k 0 := by
  rw [List.take_succ_eq_append_getElem hk, List.take_succ_eq_append_getElem (l := b) (by omega), h]
  have hk2 : k < b.length := by omega
  rw [List.append_right_inj]
  simp [List.getD, hk, hk2]

theorem vc_runO (a b c d : Int) (x : D) (zs : List (Int × Int)) : Cond Try.prog (fun k => if k = 3 then some ⟨[12], [6], [2, 4, 10, 11], [(2, [0, 1, 2, 3], [])]⟩ else none) Try.f9 [.agg [.v (.int .i64 a), .v (.int .i64 b), .v (.int .i64 c), .v (.int .i64 d)], x] [.agg [.v (.int .i64 (runF ⟨a, b, c, d⟩ zs).1.w), .v (.int .i64 (runF ⟨a, b, c, d⟩ zs).1.l), .v (.int .i64 (runF ⟨a, b, c, d⟩ zs).1.u), .v (.int .i64 (runF ⟨a, b, c, d⟩ zs).1.r)], ofL 1 (ints .i64 (runF ⟨a, b, c, d⟩ zs).2)] = (((∃ (cs : List D), D.agg [D.v (Value.int IntKind.i64 a), D.v (Value.int IntKind.i64 b), D.v (Value.int IntKind.i64 c), D.v (Value.int IntKind.i64 d)] = D.agg cs ∧ cs.length = 4) ∧ NotAgg x ∧ True) ∧ ∃ (r : D), D.lenT (TypeDesc.slice 64) x = some r ∧ ∃ (I : List D → Prop), ∃ (μ : List D → Nat), ((D.v (Value.int IntKind.i64 0) = D.v (Value.int IntKind.i64 0) ∧ true = true ∧ (true = true ∧ true = true) ∧ (true = true ∧ true = true) ∧ x = x ∧ r = r ∧ True) ∧ ((true = true ∧ D.v nilS = D.v nilS) ∧ (D.v (Value.int IntKind.i64 a) = D.v (Value.int IntKind.i64 a) ∧ D.v (Value.int IntKind.i64 b) = D.v (Value.int IntKind.i64 b) ∧ D.v (Value.int IntKind.i64 c) = D.v (Value.int IntKind.i64 c) ∧ D.v (Value.int IntKind.i64 d) = D.v (Value.int IntKind.i64 d) ∧ True) ∧ (D.v (Value.int IntKind.i64 0) = D.v (Value.int IntKind.i64 0) ∧ D.v (Value.int IntKind.i64 0) = D.v (Value.int IntKind.i64 0) ∧ D.v (Value.int IntKind.i64 0) = D.v (Value.int IntKind.i64 0) ∧ D.v (Value.int IntKind.i64 0) = D.v (Value.int IntKind.i64 0) ∧ True) ∧ True) ∧ I [D.v (Value.int IntKind.i64 0), D.v (Value.int IntKind.i64 a), D.v (Value.int IntKind.i64 b), D.v (Value.int IntKind.i64 c), D.v (Value.int IntKind.i64 d), D.v nilS]) ∧ ∀ (r_1 r_2 r_3 r_4 r_5 r_6 : D), I [r_1, r_2, r_3, r_4, r_5, r_6] → ∃ (r_7 : D), D.bin BinOp.lss r_1 r = some r_7 ∧ ∃ (b_1 : Bool), r_7 = D.v (Value.bool b_1) ∧ (b_1 = true → D.inb 2 x r_1 ∧ 0 + 2 ≤ (x.at_ r_1).cells.length ∧ ∃ (r_8 : D), ∃ (r_9 : D), PureD Try.prog 26 [D.agg [r_2, r_3, r_4, r_5], D.agg [(x.at_ r_1).cell (0 + 0), (x.at_ r_1).cell (0 + 1)]] [r_8, r_9] ∧ fits [(true, [none, none, none, none]), (false, [none])] [r_8, r_9] ∧ ∃ (ls : List D), r_6.lst = some ls ∧ ∃ (lx : List D), D.lstSz 1 (D.sl 1 (chunks false 1 1 [r_9])) = some lx ∧ (ls.length + lx.length) * 8 ≤ 1099511627776 ∧ ∃ (r_10 : D), D.bin BinOp.add r_1 (D.v (Value.int IntKind.i64 1)) = some r_10 ∧ (r_10 = r_10 ∧ true = true ∧ (true = true ∧ true = true) ∧ (true = true ∧ true = true) ∧ x = x ∧ r = r ∧ True) ∧ ((true = true ∧ D.app 1 r_6 lx = D.app 1 r_6 lx) ∧ (r_8.cell 0 = r_8.cell 0 ∧ r_8.cell 1 = r_8.cell 1 ∧ r_8.cell 2 = r_8.cell 2 ∧ r_8.cell 3 = r_8.cell 3 ∧ True) ∧ (D.v (Value.int IntKind.i64 0) = D.v (Value.int IntKind.i64 0) ∧ D.v (Value.int IntKind.i64 0) = D.v (Value.int IntKind.i64 0) ∧ D.v (Value.int IntKind.i64 0) = D.v (Value.int IntKind.i64 0) ∧ D.v (Value.int IntKind.i64 0) = D.v (Value.int IntKind.i64 0) ∧ True) ∧ True) ∧ I [r_10, r_8.cell 0, r_8.cell 1, r_8.cell 2, r_8.cell 3, D.app 1 r_6 lx] ∧ μ [r_10, r_8.cell 0, r_8.cell 1, r_8.cell 2, r_8.cell 3, D.app 1 r_6 lx] < μ [r_1, r_2, r_3, r_4, r_5, r_6]) ∧ (b_1 = false → ((∃ (y : Value), r_2 = D.v y) ∧ (∃ (y : Value), r_3 = D.v y) ∧ (∃ (y : Value), r_4 = D.v y) ∧ (∃ (y : Value), r_5 = D.v y) ∧ PlainD r_6 ∧ True) ∧ [D.agg [r_2, r_3, r_4, r_5], r_6] = [D.agg [D.v (Value.int IntKind.i64 (runF { w := a, l := b, u := c, r := d } zs).1.w), D.v (Value.int IntKind.i64 (runF { w := a, l := b, u := c, r := d } zs).1.l), D.v (Value.int IntKind.i64 (runF { w := a, l := b, u := c, r := d } zs).1.u), D.v (Value.int IntKind.i64 (runF { w := a, l := b, u := c, r := d } zs).1.r)], ofL 1 (ints IntKind.i64 (runF { w := a, l := b, u := c, r := d } zs).2)])) := by kernel_rfl
theorem runO (a b c d : Int) (x : D) (zs : List (Int × Int)) (hx : IsL 2 (zs.map actD) x) (hl : zs.length ≤ 1000) (hz : ∀ z ∈ zs, 0 ≤ z.1 ∧ z.1 < 256) : PureD Try.prog 9 [.agg [.v (.int .i64 a), .v (.int .i64 b), .v (.int .i64 c), .v (.int .i64 d)], x] [.agg [.v (.int .i64 (runF ⟨a, b, c, d⟩ zs).1.w), .v (.int .i64 (runF ⟨a, b, c, d⟩ zs).1.l), .v (.int .i64 (runF ⟨a, b, c, d⟩ zs).1.u), .v (.int .i64 (runF ⟨a, b, c, d⟩ zs).1.r)], ofL 1 (ints .i64 (runF ⟨a, b, c, d⟩ zs).2)] := by
  refine pure_cond (Lp := (fun k => if k = 3 then some ⟨[12], [6], [2, 4, 10, 11], [(2, [0, 1, 2, 3], [])]⟩ else none)) (by kernel_rfl) Try.func9 (by kernel_rfl) (by kernel_rfl) ?_
  rw [vc_runO]
  simp only [hx.notAgg, hx.lenT, List.length_map, bin_add, bin_sub, bin_mul, bin_quo, bin_rem, bin_lss, bin_leq, bin_gtr, bin_geq, bin_eql, bin_neq, notAgg_v, notAgg_sl, plain_v, lst_nil, lst_sl, lstSz_sl, lstSz_nil, chunk_one, ex_eqs_nil, ex_eqs_i, ex_eqs_b, ex_eqs_s, Bool.and_true, Bool.true_and, Bool.and_false, Bool.false_and, Bool.and_eq_true, Bool.and_eq_false_iff, beq_self_eq_true, beq_bb, bne_bb, un_not, un_neg, conv_int, min2_int, max2_int, w64, w32, wu8, wu16, wu32, wu64, tdiv_nn, tmod_nn, cell_zero, cell_succ, Option.some.injEq, D.v.injEq, D.agg.injEq, D.sl.injEq, Value.bool.injEq, Value.int.injEq, Value.string.injEq, List.cons.injEq, exists_eq_left', exists_eq_left, exists_eq', exists_eq, true_and, and_true, decide_eq_true_eq, decide_eq_false_iff_not, Bool.not_eq_true', Bool.not_eq_false', Bool.not_true, Bool.not_false, Int.not_lt, Int.not_le, ne_eq, not_false_eq_true, not_true_eq_false, reduceCtorEq, false_and, and_false, forall_const, false_implies, true_implies, implies_true, Int.reduceLT, Int.reduceLE, Int.reduceEq, Int.reduceNeg, decide_true, decide_false, Bool.true_eq_false, Bool.false_eq_true, and_self, if_true, if_false]
  refine ⟨rfl, fun l => ∃ k : Nat, k ≤ zs.length ∧ l = headL ⟨a, b, c, d⟩ zs k, leftOf zs.length, ⟨0, Nat.zero_le _, rfl⟩, ?_⟩
  rintro r2 r3 r4 r5 r6 r7 ⟨k, hk, hl⟩
  simp only [headL, List.cons.injEq, and_true] at hl
  obtain ⟨rfl, rfl, rfl, rfl, rfl, rfl⟩ := hl
  generalize hR : runF ⟨a, b, c, d⟩ (zs.take k) = R
  obtain ⟨g, told⟩ := R
  by_cases hlt : k < zs.length
  · have hzk := hz (zs.getD k (0, 0)) (by simp [List.getD, hlt])
    obtain ⟨hz0, hz1⟩ := hzk
    have hat : x.at_ (.v (.int .i64 (k : Nat))) = actD (zs.getD k (0, 0)) := by rw [hx.at_]; exact acts_at hlt
    have hin : D.inb 2 x (.v (.int .i64 (k : Nat))) := hx.inb (by omega) (by simpa using hlt)
    have hll : told.length = k := by have := runF_len ⟨a, b, c, d⟩ (zs.take k); rw [hR] at this; simp at this; omega
    repeat' (first
      | (refine And.intro ?_ ?_)
      | (intro _)
      | (exact hin)
      | (refine ⟨_, _, actO _ _ _ _ _ _ hz0 hz1, ?_⟩)
      | (refine ⟨k + 1, by omega, ?_⟩)
      | (simp (disch := omega) only [bin_add, bin_sub, bin_mul, bin_quo, bin_rem, bin_lss, bin_leq, bin_gtr, bin_geq, bin_eql, bin_neq, notAgg_v, notAgg_sl, plain_v, lst_nil, lst_sl, lstSz_sl, lstSz_nil, chunk_one, ex_eqs_nil, ex_eqs_i, ex_eqs_b, ex_eqs_s, Bool.and_true, Bool.true_and, Bool.and_false, Bool.false_and, Bool.and_eq_true, Bool.and_eq_false_iff, beq_self_eq_true, beq_bb, bne_bb, un_not, un_neg, conv_int, min2_int, max2_int, w64, w32, wu8, wu16, wu32, wu64, tdiv_nn, tmod_nn, cell_zero, cell_succ, Option.some.injEq, D.v.injEq, D.agg.injEq, D.sl.injEq, Value.bool.injEq, Value.int.injEq, Value.string.injEq, List.cons.injEq, exists_eq_left', exists_eq_left, exists_eq', exists_eq, true_and, and_true, decide_eq_true_eq, decide_eq_false_iff_not, Bool.not_eq_true', Bool.not_eq_false', Bool.not_true, Bool.not_false, Int.not_lt, Int.not_le, ne_eq, not_false_eq_true, not_true_eq_false, reduceCtorEq, false_and, and_false, forall_const, false_implies, true_implies, implies_true, Int.reduceLT, Int.reduceLE, Int.reduceEq, Int.reduceNeg, decide_true, decide_false, Bool.true_eq_false, Bool.false_eq_true, and_self, if_true, if_false, fits, fitsOne, fitsCells, xsOf, cell_zero, cell_succ, List.range, List.range.loop, List.map, cond_true, cond_false, D.v.injEq, exists_eq', exists_eq, and_self, and_true, true_and, D.agg.injEq, List.length, exists_eq_left', D.sl.injEq, reduceCtorEq, false_or, true_or, or_true, or_false, hat, lst_ofL, app_ofL, actD, D.cells, List.length_cons, List.length_nil]))
    skip
    all_goals first
      | (exfalso; omega)
      | omega
      | (simp only [leftOf]; omega)
      | (simp [headL, take_snoc' hlt, runF_snoc, hR, Ytdonkkcdjbjkeaa.step, app_ofL, ints]; done)
      | (simp only [ints_length, List.length_cons, List.length_nil]; omega)
      | fail
  · have hkk : k = zs.length := by omega
    subst hkk
    rw [List.take_length] at hR
    repeat' (first
      | (refine And.intro ?_ ?_)
      | (intro _)
      | (simp (disch := omega) only [bin_add, bin_sub, bin_mul, bin_quo, bin_rem, bin_lss, bin_leq, bin_gtr, bin_geq, bin_eql, bin_neq, notAgg_v, notAgg_sl, plain_v, lst_nil, lst_sl, lstSz_sl, lstSz_nil, chunk_one, ex_eqs_nil, ex_eqs_i, ex_eqs_b, ex_eqs_s, Bool.and_true, Bool.true_and, Bool.and_false, Bool.false_and, Bool.and_eq_true, Bool.and_eq_false_iff, beq_self_eq_true, beq_bb, bne_bb, un_not, un_neg, conv_int, min2_int, max2_int, w64, w32, wu8, wu16, wu32, wu64, tdiv_nn, tmod_nn, cell_zero, cell_succ, Option.some.injEq, D.v.injEq, D.agg.injEq, D.sl.injEq, Value.bool.injEq, Value.int.injEq, Value.string.injEq, List.cons.injEq, exists_eq_left', exists_eq_left, exists_eq', exists_eq, true_and, and_true, decide_eq_true_eq, decide_eq_false_iff_not, Bool.not_eq_true', Bool.not_eq_false', Bool.not_true, Bool.not_false, Int.not_lt, Int.not_le, ne_eq, not_false_eq_true, not_true_eq_false, reduceCtorEq, false_and, and_false, forall_const, false_implies, true_implies, implies_true, Int.reduceLT, Int.reduceLE, Int.reduceEq, Int.reduceNeg, decide_true, decide_false, Bool.true_eq_false, Bool.false_eq_true, and_self, if_true, if_false, fits, fitsOne, fitsCells, xsOf, cell_zero, cell_succ, List.range, List.range.loop, List.map, cond_true, cond_false, D.v.injEq, exists_eq', exists_eq, and_self, and_true, true_and, D.agg.injEq, List.length, exists_eq_left', D.sl.injEq, reduceCtorEq, false_or, true_or, or_true, or_false, hR]))
    skip
    all_goals first
      | (exfalso; omega)
      | omega
      | exact plain_ofL (ints_plain _ _)
      | (simp [hR]; done)
      | fail

theorem vc_same (x y : D) (a b : List Int) : Cond Try.prog (fun k => if k = 4 then some ⟨[5], [], [0, 1], []⟩ else none) Try.f12 [x, y] [.v (.bool (sameB a b))] = ((NotAgg x ∧ NotAgg y ∧ True) ∧ ∃ (r : D), D.lenT (TypeDesc.slice 3) x = some r ∧ ∃ (r_1 : D), D.lenT (TypeDesc.slice 3) y = some r_1 ∧ ∃ (r_2 : D), D.bin BinOp.neq r r_1 = some r_2 ∧ ∃ (b_1 : Bool), r_2 = D.v (Value.bool b_1) ∧ (b_1 = true → (True ∧ True) ∧ [D.v (Value.bool false)] = [D.v (Value.bool (sameB a b))]) ∧ (b_1 = false → ∃ (I : List D → Prop), ∃ (μ : List D → Nat), ((D.v (Value.int IntKind.i64 0) = D.v (Value.int IntKind.i64 0) ∧ x = x ∧ y = y ∧ True) ∧ True ∧ I [D.v (Value.int IntKind.i64 0)]) ∧ ∀ (r : D), I [r] → ∃ (r_3 : D), D.lenT (TypeDesc.slice 3) x = some r_3 ∧ ∃ (r_4 : D), D.bin BinOp.lss r r_3 = some r_4 ∧ ∃ (b_2 : Bool), r_4 = D.v (Value.bool b_2) ∧ (b_2 = true → D.inb 1 x r ∧ 0 + 1 ≤ (x.at_ r).cells.length ∧ D.inb 1 y r ∧ 0 + 1 ≤ (y.at_ r).cells.length ∧ ∃ (r_5 : D), D.bin BinOp.neq ((x.at_ r).cell 0) ((y.at_ r).cell 0) = some r_5 ∧ ∃ (b_3 : Bool), r_5 = D.v (Value.bool b_3) ∧ (b_3 = true → (True ∧ True) ∧ [D.v (Value.bool false)] = [D.v (Value.bool (sameB a b))]) ∧ (b_3 = false → ∃ (r_6 : D), D.bin BinOp.add r (D.v (Value.int IntKind.i64 1)) = some r_6 ∧ (r_6 = r_6 ∧ x = x ∧ y = y ∧ True) ∧ True ∧ I [r_6] ∧ μ [r_6] < μ [r])) ∧ (b_2 = false → (True ∧ True) ∧ [D.v (Value.bool true)] = [D.v (Value.bool (sameB a b))]))) := by kernel_rfl
theorem same (x y : D) (a b : List Int) (hx : IsL 1 (ints .i64 a) x) (hy : IsL 1 (ints .i64 b) y) (ha : a.length ≤ 100000) (hb : b.length ≤ 100000) : PureD Try.prog 12 [x, y] [.v (.bool (sameB a b))] := by
  refine pure_cond (Lp := (fun k => if k = 4 then some ⟨[5], [], [0, 1], []⟩ else none)) (by kernel_rfl) Try.func12 (by kernel_rfl) (by kernel_rfl) ?_
  rw [vc_same]
  simp only [hx.notAgg, hy.notAgg, hx.lenT, hy.lenT, ints_length, bin_add, bin_sub, bin_mul, bin_quo, bin_rem, bin_lss, bin_leq, bin_gtr, bin_geq, bin_eql, bin_neq, notAgg_v, notAgg_sl, plain_v, lst_nil, lst_sl, lstSz_sl, lstSz_nil, chunk_one, ex_eqs_nil, ex_eqs_i, ex_eqs_b, ex_eqs_s, Bool.and_true, Bool.true_and, Bool.and_false, Bool.false_and, Bool.and_eq_true, Bool.and_eq_false_iff, beq_self_eq_true, beq_bb, bne_bb, un_not, un_neg, conv_int, min2_int, max2_int, w64, w32, wu8, wu16, wu32, wu64, tdiv_nn, tmod_nn, cell_zero, cell_succ, Option.some.injEq, D.v.injEq, D.agg.injEq, D.sl.injEq, Value.bool.injEq, Value.int.injEq, Value.string.injEq, List.cons.injEq, exists_eq_left', exists_eq_left, exists_eq', exists_eq, true_and, and_true, decide_eq_true_eq, decide_eq_false_iff_not, Bool.not_eq_true', Bool.not_eq_false', Bool.not_true, Bool.not_false, Int.not_lt, Int.not_le, ne_eq, not_false_eq_true, not_true_eq_false, reduceCtorEq, false_and, and_false, forall_const, false_implies, true_implies, implies_true, Int.reduceLT, Int.reduceLE, Int.reduceEq, Int.reduceNeg, decide_true, decide_false, Bool.true_eq_false, Bool.false_eq_true, and_self, if_true, if_false]
  refine ⟨fun h => ?_, fun h => ?_⟩
  · have : a ≠ b := fun e => h (by rw [e])
    simp [sameB, this]
  · have hl : a.length = b.length := by omega
    refine ⟨fun l => ∃ k : Nat, k ≤ a.length ∧ a.take k = b.take k ∧ l = [.v (.int .i64 (k : Nat))], leftOf a.length, ⟨0, Nat.zero_le _, rfl, rfl⟩, ?_⟩
    rintro r4 ⟨k, hk, hek, hl4⟩
    simp only [List.cons.injEq, and_true] at hl4
    subst hl4
    by_cases hlt : k < a.length
    · have h1 : x.at_ (.v (.int .i64 (k : Nat))) = .v (.int .i64 (a.getD k 0)) := by rw [hx.at_]; exact ints_getD _ _ _ hlt
      have h2 : y.at_ (.v (.int .i64 (k : Nat))) = .v (.int .i64 (b.getD k 0)) := by rw [hy.at_]; exact ints_getD _ _ _ (by omega)
      have i1 : D.inb 1 x (.v (.int .i64 (k : Nat))) := hx.inb (by omega) (by rw [ints_length]; omega)
      have i2 : D.inb 1 y (.v (.int .i64 (k : Nat))) := hy.inb (by omega) (by rw [ints_length]; omega)
      have hst := take_eq_step hlt hl hek
      repeat' (first
        | (refine And.intro ?_ ?_)
        | (intro _)
        | (exact i1)
        | (exact i2)
        | (refine ⟨k + 1, by omega, ?_⟩)
        | (simp (disch := omega) only [bin_add, bin_sub, bin_mul, bin_quo, bin_rem, bin_lss, bin_leq, bin_gtr, bin_geq, bin_eql, bin_neq, notAgg_v, notAgg_sl, plain_v, lst_nil, lst_sl, lstSz_sl, lstSz_nil, chunk_one, ex_eqs_nil, ex_eqs_i, ex_eqs_b, ex_eqs_s, Bool.and_true, Bool.true_and, Bool.and_false, Bool.false_and, Bool.and_eq_true, Bool.and_eq_false_iff, beq_self_eq_true, beq_bb, bne_bb, un_not, un_neg, conv_int, min2_int, max2_int, w64, w32, wu8, wu16, wu32, wu64, tdiv_nn, tmod_nn, cell_zero, cell_succ, Option.some.injEq, D.v.injEq, D.agg.injEq, D.sl.injEq, Value.bool.injEq, Value.int.injEq, Value.string.injEq, List.cons.injEq, exists_eq_left', exists_eq_left, exists_eq', exists_eq, true_and, and_true, decide_eq_true_eq, decide_eq_false_iff_not, Bool.not_eq_true', Bool.not_eq_false', Bool.not_true, Bool.not_false, Int.not_lt, Int.not_le, ne_eq, not_false_eq_true, not_true_eq_false, reduceCtorEq, false_and, and_false, forall_const, false_implies, true_implies, implies_true, Int.reduceLT, Int.reduceLE, Int.reduceEq, Int.reduceNeg, decide_true, decide_false, Bool.true_eq_false, Bool.false_eq_true, and_self, if_true, if_false, fits, fitsOne, fitsCells, xsOf, cell_zero, cell_succ, List.range, List.range.loop, List.map, cond_true, cond_false, D.v.injEq, exists_eq', exists_eq, and_self, and_true, true_and, D.agg.injEq, List.length, exists_eq_left', D.sl.injEq, reduceCtorEq, false_or, true_or, or_true, or_false, h1, h2, D.cells, D.cell, List.getD_cons_zero, List.length_cons, List.length_nil]))
      skip
      all_goals first
        | (exfalso; omega)
        | omega
        | (have : a ≠ b := fun e => by subst e; exact absurd rfl ‹_›
           simp [sameB, this]; done)
        | exact hst.2 ‹_›
        | (simp only [leftOf]; omega)
        | fail
    · have hkk : k = a.length := by omega
      subst hkk
      rw [List.take_length, hl, List.take_length] at hek
      repeat' (first
        | (refine And.intro ?_ ?_)
        | (intro _)
        | (simp (disch := omega) only [bin_add, bin_sub, bin_mul, bin_quo, bin_rem, bin_lss, bin_leq, bin_gtr, bin_geq, bin_eql, bin_neq, notAgg_v, notAgg_sl, plain_v, lst_nil, lst_sl, lstSz_sl, lstSz_nil, chunk_one, ex_eqs_nil, ex_eqs_i, ex_eqs_b, ex_eqs_s, Bool.and_true, Bool.true_and, Bool.and_false, Bool.false_and, Bool.and_eq_true, Bool.and_eq_false_iff, beq_self_eq_true, beq_bb, bne_bb, un_not, un_neg, conv_int, min2_int, max2_int, w64, w32, wu8, wu16, wu32, wu64, tdiv_nn, tmod_nn, cell_zero, cell_succ, Option.some.injEq, D.v.injEq, D.agg.injEq, D.sl.injEq, Value.bool.injEq, Value.int.injEq, Value.string.injEq, List.cons.injEq, exists_eq_left', exists_eq_left, exists_eq', exists_eq, true_and, and_true, decide_eq_true_eq, decide_eq_false_iff_not, Bool.not_eq_true', Bool.not_eq_false', Bool.not_true, Bool.not_false, Int.not_lt, Int.not_le, ne_eq, not_false_eq_true, not_true_eq_false, reduceCtorEq, false_and, and_false, forall_const, false_implies, true_implies, implies_true, Int.reduceLT, Int.reduceLE, Int.reduceEq, Int.reduceNeg, decide_true, decide_false, Bool.true_eq_false, Bool.false_eq_true, and_self, if_true, if_false, fits, fitsOne, fitsCells, xsOf, cell_zero, cell_succ, List.range, List.range.loop, List.map, cond_true, cond_false, D.v.injEq, exists_eq', exists_eq, and_self, and_true, true_and, D.agg.injEq, List.length, exists_eq_left', D.sl.injEq, reduceCtorEq, false_or, true_or, or_true, or_false]))
      skip
      all_goals first
        | (exfalso; omega)
        | (simp [sameB, hek]; done)
        | fail

end Go.Proofs.Ytdonkkcdjbjkeaa