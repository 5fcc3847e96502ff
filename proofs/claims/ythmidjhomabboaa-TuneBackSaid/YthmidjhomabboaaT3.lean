/-
  Layer 26: settings, taken.
-/
import Derived.Test.YthmidjhomabboaaT1
import Derived.Test.YthmidjhomabboaaT2
namespace Go.Proofs.Ythmidjhomabboaa
open Go.RowKit
set_option linter.unusedSimpArgs false
set_option linter.unusedVariables false


structure Q where
  a : Int
  b : Int
  c : Int
  d : Int
deriving DecidableEq
def Q.set (q : Q) (i n : Int) : Q := if i = 1 then ⟨n, q.b, q.c, q.d⟩ else if i = 2 then ⟨q.a, n, q.c, q.d⟩ else if i = 3 then ⟨q.a, q.b, n, q.d⟩ else if i = 4 then ⟨q.a, q.b, q.c, n⟩ else q
def runA : Q → List (Int × Int) → Q × Int
  | q, [] => (q, 0)
  | q, z :: zs => if fitsF z.1 z.2 = true then runA (q.set z.1 z.2) zs else (⟨0, 0, 0, 0⟩, faultF z.1)
def applyF (q : Q) (zs : List (Int × Int)) : Q × Int := if chkV q.a q.b q.c q.d = 0 then runA q zs else (⟨0, 0, 0, 0⟩, 2)
def appI (q : Q) (zs : List (Int × Int)) (l : List D) : Prop := ∃ (k : Nat) (p : Q), l = [.v (.int .i64 (k : Nat)), .v (.int .i64 p.a), .v (.int .i64 p.b), .v (.int .i64 p.c), .v (.int .i64 p.d)] ∧ k ≤ zs.length ∧ runA q zs = runA p (zs.drop k)
theorem drop_at {zs : List (Int × Int)} {k : Nat} (h : k < zs.length) : zs.drop k = zs.getD k (0, 0) :: zs.drop (k + 1) := by
  rw [List.drop_eq_getElem_cons h]; simp [List.getD, h]
theorem at_or {x : D} {zs : List (Int × Int)} (hx : IsL 2 (prs zs) x) (k : Nat) : (k < zs.length ∧ D.inb 2 x (.v (.int .i64 (k : Nat))) ∧ ∃ i n, x.at_ (.v (.int .i64 (k : Nat))) = .agg [.v (.int .i64 i), .v (.int .i64 n)] ∧ zs.drop k = (i, n) :: zs.drop (k + 1)) ∨ zs.length ≤ k := by
  rcases Nat.lt_or_ge k zs.length with h | h
  · exact .inl ⟨h, hx.inb (by omega) (by rw [prs_len]; omega), (zs.getD k (0, 0)).1, (zs.getD k (0, 0)).2, by rw [hx.at_]; exact prs_getD _ _ h, drop_at h⟩
  · exact .inr h

theorem vc_applyO (a b c d : Int) (x : D) (zs : List (Int × Int)) : Cond Try.prog (fun k => if k = 5 then some ⟨[17], [], [4, 6, 15, 16], [(6, [0, 1, 2, 3], [])]⟩ else none) Try.f8 [.agg [.v (.int .i64 a), .v (.int .i64 b), .v (.int .i64 c), .v (.int .i64 d)], x] [.agg [.v (.int .i64 ((applyF ⟨a, b, c, d⟩ zs).1.a)), .v (.int .i64 ((applyF ⟨a, b, c, d⟩ zs).1.b)), .v (.int .i64 ((applyF ⟨a, b, c, d⟩ zs).1.c)), .v (.int .i64 ((applyF ⟨a, b, c, d⟩ zs).1.d))], .v (.int .u32 (applyF ⟨a, b, c, d⟩ zs).2)] = (((∃ (cs : List D), D.agg [D.v (Value.int IntKind.i64 a), D.v (Value.int IntKind.i64 b), D.v (Value.int IntKind.i64 c), D.v (Value.int IntKind.i64 d)] = D.agg cs ∧ cs.length = 4) ∧ NotAgg x ∧ True) ∧ ∃ (r : D), PureD Try.prog 5 [D.agg [D.v (Value.int IntKind.i64 a), D.v (Value.int IntKind.i64 b), D.v (Value.int IntKind.i64 c), D.v (Value.int IntKind.i64 d)]] [r] ∧ fits [(false, [none])] [r] ∧ ∃ (r_1 : D), D.bin BinOp.neq r (D.v (Value.int IntKind.i64 0)) = some r_1 ∧ ∃ (b_1 : Bool), r_1 = D.v (Value.bool b_1) ∧ (b_1 = true → (True ∧ True ∧ True ∧ True ∧ True ∧ True) ∧ [D.agg [D.v (Value.int IntKind.i64 0), D.v (Value.int IntKind.i64 0), D.v (Value.int IntKind.i64 0), D.v (Value.int IntKind.i64 0)], D.v (Value.int IntKind.u32 2)] = [D.agg [D.v (Value.int IntKind.i64 (applyF { a := a, b := b, c := c, d := d } zs).1.a), D.v (Value.int IntKind.i64 (applyF { a := a, b := b, c := c, d := d } zs).1.b), D.v (Value.int IntKind.i64 (applyF { a := a, b := b, c := c, d := d } zs).1.c), D.v (Value.int IntKind.i64 (applyF { a := a, b := b, c := c, d := d } zs).1.d)], D.v (Value.int IntKind.u32 (applyF { a := a, b := b, c := c, d := d } zs).snd)]) ∧ (b_1 = false → ∃ (r : D), PureD Try.prog 12 [D.agg [D.v (Value.int IntKind.i64 a), D.v (Value.int IntKind.i64 b), D.v (Value.int IntKind.i64 c), D.v (Value.int IntKind.i64 d)]] [r] ∧ fits [(true, [none, none, none, none])] [r] ∧ ∃ (r_2 : D), D.lenT (TypeDesc.slice 39) x = some r_2 ∧ ∃ (I : List D → Prop), ∃ (μ : List D → Nat), ((D.v (Value.int IntKind.i64 0) = D.v (Value.int IntKind.i64 0) ∧ (true = true ∧ true = true) ∧ (true = true ∧ true = true) ∧ x = x ∧ r_2 = r_2 ∧ True) ∧ ((r.cell 0 = r.cell 0 ∧ r.cell 1 = r.cell 1 ∧ r.cell 2 = r.cell 2 ∧ r.cell 3 = r.cell 3 ∧ True) ∧ (D.v (Value.int IntKind.i64 0) = D.v (Value.int IntKind.i64 0) ∧ D.v (Value.int IntKind.i64 0) = D.v (Value.int IntKind.i64 0) ∧ D.v (Value.int IntKind.i64 0) = D.v (Value.int IntKind.i64 0) ∧ D.v (Value.int IntKind.i64 0) = D.v (Value.int IntKind.i64 0) ∧ True) ∧ True) ∧ I [D.v (Value.int IntKind.i64 0), r.cell 0, r.cell 1, r.cell 2, r.cell 3]) ∧ ∀ (r r_3 r_4 r_5 r_6 : D), I [r, r_3, r_4, r_5, r_6] → ∃ (r_7 : D), D.bin BinOp.lss r r_2 = some r_7 ∧ ∃ (b_2 : Bool), r_7 = D.v (Value.bool b_2) ∧ (b_2 = true → D.inb 2 x r ∧ 0 + 2 ≤ (x.at_ r).cells.length ∧ ∃ (r_8 : D), PureD Try.prog 13 [(x.at_ r).cell (0 + 0), (x.at_ r).cell (0 + 1)] [r_8] ∧ fits [(false, [none])] [r_8] ∧ ∃ (r_9 : D), D.un UnOp.not r_8 = some r_9 ∧ ∃ (b_3 : Bool), r_9 = D.v (Value.bool b_3) ∧ (b_3 = true → ∃ (r_10 : D), PureD Try.prog 16 [(x.at_ r).cell (0 + 0)] [r_10] ∧ fits [(false, [none])] [r_10] ∧ (True ∧ True ∧ True ∧ True ∧ (∃ (y : Value), r_10 = D.v y) ∧ True) ∧ [D.agg [D.v (Value.int IntKind.i64 0), D.v (Value.int IntKind.i64 0), D.v (Value.int IntKind.i64 0), D.v (Value.int IntKind.i64 0)], r_10] = [D.agg [D.v (Value.int IntKind.i64 (applyF { a := a, b := b, c := c, d := d } zs).1.a), D.v (Value.int IntKind.i64 (applyF { a := a, b := b, c := c, d := d } zs).1.b), D.v (Value.int IntKind.i64 (applyF { a := a, b := b, c := c, d := d } zs).1.c), D.v (Value.int IntKind.i64 (applyF { a := a, b := b, c := c, d := d } zs).1.d)], D.v (Value.int IntKind.u32 (applyF { a := a, b := b, c := c, d := d } zs).snd)]) ∧ (b_3 = false → ∃ (r_10 : D), D.bin BinOp.geq ((x.at_ r).cell (0 + 0)) (D.v (Value.int IntKind.i64 1)) = some r_10 ∧ ∃ (b : Bool), r_10 = D.v (Value.bool b) ∧ (b = true → ∃ (r_11 : D), D.bin BinOp.leq ((x.at_ r).cell (0 + 0)) (D.v (Value.int IntKind.i64 4)) = some r_11 ∧ ∃ (b : Bool), r_11 = D.v (Value.bool b) ∧ (b = true → ∃ (r_12 : D), D.bin BinOp.sub ((x.at_ r).cell (0 + 0)) (D.v (Value.int IntKind.i64 1)) = some r_12 ∧ ∃ (z : Int), r_12.intOf = some z ∧ 0 ≤ z ∧ z < 4 ∧ (((True ∧ (z = 0 → ∃ (r_13 : D), D.bin BinOp.add r (D.v (Value.int IntKind.i64 1)) = some r_13 ∧ (r_13 = r_13 ∧ (true = true ∧ true = true) ∧ (true = true ∧ true = true) ∧ x = x ∧ r_2 = r_2 ∧ True) ∧ (((x.at_ r).cell (0 + 1) = (x.at_ r).cell (0 + 1) ∧ r_4 = r_4 ∧ r_5 = r_5 ∧ r_6 = r_6 ∧ True) ∧ (D.v (Value.int IntKind.i64 0) = D.v (Value.int IntKind.i64 0) ∧ D.v (Value.int IntKind.i64 0) = D.v (Value.int IntKind.i64 0) ∧ D.v (Value.int IntKind.i64 0) = D.v (Value.int IntKind.i64 0) ∧ D.v (Value.int IntKind.i64 0) = D.v (Value.int IntKind.i64 0) ∧ True) ∧ True) ∧ I [r_13, (x.at_ r).cell (0 + 1), r_4, r_5, r_6] ∧ μ [r_13, (x.at_ r).cell (0 + 1), r_4, r_5, r_6] < μ [r, r_3, r_4, r_5, r_6])) ∧ (z = 1 → ∃ (r_13 : D), D.bin BinOp.add r (D.v (Value.int IntKind.i64 1)) = some r_13 ∧ (r_13 = r_13 ∧ (true = true ∧ true = true) ∧ (true = true ∧ true = true) ∧ x = x ∧ r_2 = r_2 ∧ True) ∧ ((r_3 = r_3 ∧ (x.at_ r).cell (0 + 1) = (x.at_ r).cell (0 + 1) ∧ r_5 = r_5 ∧ r_6 = r_6 ∧ True) ∧ (D.v (Value.int IntKind.i64 0) = D.v (Value.int IntKind.i64 0) ∧ D.v (Value.int IntKind.i64 0) = D.v (Value.int IntKind.i64 0) ∧ D.v (Value.int IntKind.i64 0) = D.v (Value.int IntKind.i64 0) ∧ D.v (Value.int IntKind.i64 0) = D.v (Value.int IntKind.i64 0) ∧ True) ∧ True) ∧ I [r_13, r_3, (x.at_ r).cell (0 + 1), r_5, r_6] ∧ μ [r_13, r_3, (x.at_ r).cell (0 + 1), r_5, r_6] < μ [r, r_3, r_4, r_5, r_6])) ∧ (z = 2 → ∃ (r_13 : D), D.bin BinOp.add r (D.v (Value.int IntKind.i64 1)) = some r_13 ∧ (r_13 = r_13 ∧ (true = true ∧ true = true) ∧ (true = true ∧ true = true) ∧ x = x ∧ r_2 = r_2 ∧ True) ∧ ((r_3 = r_3 ∧ r_4 = r_4 ∧ (x.at_ r).cell (0 + 1) = (x.at_ r).cell (0 + 1) ∧ r_6 = r_6 ∧ True) ∧ (D.v (Value.int IntKind.i64 0) = D.v (Value.int IntKind.i64 0) ∧ D.v (Value.int IntKind.i64 0) = D.v (Value.int IntKind.i64 0) ∧ D.v (Value.int IntKind.i64 0) = D.v (Value.int IntKind.i64 0) ∧ D.v (Value.int IntKind.i64 0) = D.v (Value.int IntKind.i64 0) ∧ True) ∧ True) ∧ I [r_13, r_3, r_4, (x.at_ r).cell (0 + 1), r_6] ∧ μ [r_13, r_3, r_4, (x.at_ r).cell (0 + 1), r_6] < μ [r, r_3, r_4, r_5, r_6])) ∧ (z = 3 → ∃ (r_13 : D), D.bin BinOp.add r (D.v (Value.int IntKind.i64 1)) = some r_13 ∧ (r_13 = r_13 ∧ (true = true ∧ true = true) ∧ (true = true ∧ true = true) ∧ x = x ∧ r_2 = r_2 ∧ True) ∧ ((r_3 = r_3 ∧ r_4 = r_4 ∧ r_5 = r_5 ∧ (x.at_ r).cell (0 + 1) = (x.at_ r).cell (0 + 1) ∧ True) ∧ (D.v (Value.int IntKind.i64 0) = D.v (Value.int IntKind.i64 0) ∧ D.v (Value.int IntKind.i64 0) = D.v (Value.int IntKind.i64 0) ∧ D.v (Value.int IntKind.i64 0) = D.v (Value.int IntKind.i64 0) ∧ D.v (Value.int IntKind.i64 0) = D.v (Value.int IntKind.i64 0) ∧ True) ∧ True) ∧ I [r_13, r_3, r_4, r_5, (x.at_ r).cell (0 + 1)] ∧ μ [r_13, r_3, r_4, r_5, (x.at_ r).cell (0 + 1)] < μ [r, r_3, r_4, r_5, r_6])) ∧ (b = false → ∃ (r_12 : D), D.bin BinOp.add r (D.v (Value.int IntKind.i64 1)) = some r_12 ∧ (r_12 = r_12 ∧ (true = true ∧ true = true) ∧ (true = true ∧ true = true) ∧ x = x ∧ r_2 = r_2 ∧ True) ∧ ((r_3 = r_3 ∧ r_4 = r_4 ∧ r_5 = r_5 ∧ r_6 = r_6 ∧ True) ∧ (D.v (Value.int IntKind.i64 0) = D.v (Value.int IntKind.i64 0) ∧ D.v (Value.int IntKind.i64 0) = D.v (Value.int IntKind.i64 0) ∧ D.v (Value.int IntKind.i64 0) = D.v (Value.int IntKind.i64 0) ∧ D.v (Value.int IntKind.i64 0) = D.v (Value.int IntKind.i64 0) ∧ True) ∧ True) ∧ I [r_12, r_3, r_4, r_5, r_6] ∧ μ [r_12, r_3, r_4, r_5, r_6] < μ [r, r_3, r_4, r_5, r_6])) ∧ (b = false → ∃ (r_11 : D), D.bin BinOp.add r (D.v (Value.int IntKind.i64 1)) = some r_11 ∧ (r_11 = r_11 ∧ (true = true ∧ true = true) ∧ (true = true ∧ true = true) ∧ x = x ∧ r_2 = r_2 ∧ True) ∧ ((r_3 = r_3 ∧ r_4 = r_4 ∧ r_5 = r_5 ∧ r_6 = r_6 ∧ True) ∧ (D.v (Value.int IntKind.i64 0) = D.v (Value.int IntKind.i64 0) ∧ D.v (Value.int IntKind.i64 0) = D.v (Value.int IntKind.i64 0) ∧ D.v (Value.int IntKind.i64 0) = D.v (Value.int IntKind.i64 0) ∧ D.v (Value.int IntKind.i64 0) = D.v (Value.int IntKind.i64 0) ∧ True) ∧ True) ∧ I [r_11, r_3, r_4, r_5, r_6] ∧ μ [r_11, r_3, r_4, r_5, r_6] < μ [r, r_3, r_4, r_5, r_6]))) ∧ (b_2 = false → ∃ (r : D), PureD Try.prog 17 [D.agg [r_3, r_4, r_5, r_6]] [r] ∧ fits [(true, [none, none, none, none])] [r] ∧ ((∃ (y : Value), r.cell 0 = D.v y) ∧ (∃ (y : Value), r.cell 1 = D.v y) ∧ (∃ (y : Value), r.cell 2 = D.v y) ∧ (∃ (y : Value), r.cell 3 = D.v y) ∧ True ∧ True) ∧ [D.agg [r.cell 0, r.cell 1, r.cell 2, r.cell 3], D.v (Value.int IntKind.u32 0)] = [D.agg [D.v (Value.int IntKind.i64 (applyF { a := a, b := b, c := c, d := d } zs).1.a), D.v (Value.int IntKind.i64 (applyF { a := a, b := b, c := c, d := d } zs).1.b), D.v (Value.int IntKind.i64 (applyF { a := a, b := b, c := c, d := d } zs).1.c), D.v (Value.int IntKind.i64 (applyF { a := a, b := b, c := c, d := d } zs).1.d)], D.v (Value.int IntKind.u32 (applyF { a := a, b := b, c := c, d := d } zs).snd)]))) := by kernel_rfl
set_option maxHeartbeats 8000000 in
theorem applyO (a b c d : Int) (x : D) (zs : List (Int × Int)) (hX : IsL 2 (prs zs) x) (hl : zs.length ≤ 100000) : PureD Try.prog 8 [.agg [.v (.int .i64 a), .v (.int .i64 b), .v (.int .i64 c), .v (.int .i64 d)], x] [.agg [.v (.int .i64 ((applyF ⟨a, b, c, d⟩ zs).1.a)), .v (.int .i64 ((applyF ⟨a, b, c, d⟩ zs).1.b)), .v (.int .i64 ((applyF ⟨a, b, c, d⟩ zs).1.c)), .v (.int .i64 ((applyF ⟨a, b, c, d⟩ zs).1.d))], .v (.int .u32 (applyF ⟨a, b, c, d⟩ zs).2)] := by
  refine pure_cond (Lp := (fun k => if k = 5 then some ⟨[17], [], [4, 6, 15, 16], [(6, [0, 1, 2, 3], [])]⟩ else none)) (by kernel_rfl) Try.func8 (by kernel_rfl) (by kernel_rfl) ?_
  rw [vc_applyO]
  rcases chk_two a b c d with hc | hc
  · repeat' (first
      | (refine ex_some (by simp (disch := omega) only [bin_add, bin_sub, bin_mul, bin_quo, bin_rem, bin_lss, bin_leq, bin_gtr, bin_geq, bin_eql, bin_neq, eqs_cn, eqs_ci, eqs_cb, eqs_cs, Option.map_some, lenT_ofL, lst_ofL, lstSz_ofL, chunk_one, lst_nil, lst_sl, lstSz_sl, lstSz_nil, Bool.and_true, Bool.true_and, Bool.and_false, Bool.false_and, beq_self_eq_true, beq_bb, bne_bb, un_not, un_neg, conv_int, min2_int, max2_int, w64, w32, wu8, wu16, wu32, wu64, tdiv_nn, tmod_nn, cell_zero, cell_succ, Bool.not_true, Bool.not_false, Int.reduceLT, Int.reduceLE, Int.reduceEq, Int.reduceNeg, Int.reduceAdd, Int.reduceSub, Int.reduceMul, intOf_v, decide_true, decide_false, hX.lenT, prs_len, hc]; rfl) ?_)
      | (refine ex_bool ?_)
      | (refine ⟨appI ⟨a, b, c, d⟩ zs, lm zs.length, ?_⟩)
      | ((refine fun (r0 r1 r2 r3 r4 : D) (hI : appI ⟨a, b, c, d⟩ zs [r0, r1, r2, r3, r4]) => ?_; obtain ⟨k, p, hl, hk, hrun⟩ := hI; simp only [List.cons.injEq, and_true] at hl; obtain ⟨rfl, rfl, rfl, rfl, rfl⟩ := hl; rcases at_or hX k with ⟨hlt, hin, i, n, hat, hdr⟩ | hge <;> (try simp only [hat, D.cell, D.cells, Nat.zero_add, List.getD_cons_zero, List.getD_cons_succ, List.length_cons, List.length_nil])))
      | (exact hX.notAgg)
      | (exact hin)
      | (refine ⟨_, listed _ _ _ _, ?_⟩)
      | (refine ⟨_, named _ _ _ _, ?_⟩)
      | (refine ⟨_, fitsO _ _, ?_⟩)
      | (refine ⟨_, fault _, ?_⟩)
      | (refine ⟨_, check _ _ _ _, ?_⟩)
      | (refine And.intro ?_ ?_)
      | (intro hx; first | (cases hx; done) | (exfalso; revert hx; simp (disch := omega) only [decide_eq_true_eq, decide_eq_false_iff_not, Bool.not_eq_true', Bool.not_eq_false', Bool.and_eq_true, Bool.and_eq_false_iff, Int.not_lt, Int.not_le, ne_eq, not_false_eq_true, not_true_eq_false, reduceCtorEq, Bool.true_eq_false, Bool.false_eq_true, beq_iff_eq, bne_iff_ne, beq_eq_false_iff_ne, false_or, or_false, true_and, and_true, hX.lenT, prs_len, hc]; done) | (simp (disch := omega) only [decide_eq_true_eq, decide_eq_false_iff_not, Bool.not_eq_true', Bool.not_eq_false', Bool.and_eq_true, Bool.and_eq_false_iff, Int.not_lt, Int.not_le, ne_eq, not_false_eq_true, not_true_eq_false, reduceCtorEq, Bool.true_eq_false, Bool.false_eq_true, beq_iff_eq, bne_iff_ne, beq_eq_false_iff_ne, false_or, or_false, true_and, and_true, hX.lenT, prs_len, hc] at hx; first | (exfalso; omega) | skip) | skip)
      | trivial
      | exact fit_ofL _ _
      | (simp (disch := omega) only [notAgg_v, notAgg_sl, plain_v, fits, fitsOne, fitsCells, xsOf, cell_zero, cell_succ, List.range, List.range.loop, List.map, cond_true, cond_false, D.v.injEq, exists_eq', exists_eq, and_self, and_true, true_and, D.agg.injEq, List.length, exists_eq_left', D.sl.injEq, reduceCtorEq, false_or, true_or, or_true, or_false, cell_zero, cell_succ, hX.lenT, prs_len, hc]; done))
    all_goals first
      | (exfalso; omega)
      | omega
      | (simp [applyF, hc]; done)
      | exact ⟨0, ⟨a, b, c, d⟩, rfl, Nat.zero_le _, rfl⟩
      | (simp only [lm]; omega)
      | (rw [hdr] at hrun; simp_all [applyF, runA]; done)
      | (refine ⟨k + 1, p.set i n, ?_, by omega, ?_⟩
         · first
             | (obtain rfl : i = 1 := by omega); rfl
             | (obtain rfl : i = 2 := by omega); rfl
             | (obtain rfl : i = 3 := by omega); rfl
             | (obtain rfl : i = 4 := by omega); rfl
             | (simp only [Q.set]; rw [if_neg (by omega), if_neg (by omega), if_neg (by omega), if_neg (by omega)]; rfl)
         · rw [hrun, hdr]; simp_all [runA])
      | (have hkk : zs.drop k = [] := List.drop_eq_nil_of_le (by omega)
         rw [hkk] at hrun
         have e : applyF ⟨a, b, c, d⟩ zs = (p, 0) := by simp [applyF, hc, hrun, runA]
         rw [e]; rfl)
      | fail
  · repeat' (first
      | (refine ex_some (by simp (disch := omega) only [bin_add, bin_sub, bin_mul, bin_quo, bin_rem, bin_lss, bin_leq, bin_gtr, bin_geq, bin_eql, bin_neq, eqs_cn, eqs_ci, eqs_cb, eqs_cs, Option.map_some, lenT_ofL, lst_ofL, lstSz_ofL, chunk_one, lst_nil, lst_sl, lstSz_sl, lstSz_nil, Bool.and_true, Bool.true_and, Bool.and_false, Bool.false_and, beq_self_eq_true, beq_bb, bne_bb, un_not, un_neg, conv_int, min2_int, max2_int, w64, w32, wu8, wu16, wu32, wu64, tdiv_nn, tmod_nn, cell_zero, cell_succ, Bool.not_true, Bool.not_false, Int.reduceLT, Int.reduceLE, Int.reduceEq, Int.reduceNeg, Int.reduceAdd, Int.reduceSub, Int.reduceMul, intOf_v, decide_true, decide_false, hc]; rfl) ?_)
      | (refine ex_bool ?_)
      | (exact hX.notAgg)
      | (refine ⟨_, listed _ _ _ _, ?_⟩)
      | (refine ⟨_, named _ _ _ _, ?_⟩)
      | (refine ⟨_, fitsO _ _, ?_⟩)
      | (refine ⟨_, fault _, ?_⟩)
      | (refine ⟨_, check _ _ _ _, ?_⟩)
      | (refine And.intro ?_ ?_)
      | (intro hx; first | (cases hx; done) | (exfalso; revert hx; simp (disch := omega) only [decide_eq_true_eq, decide_eq_false_iff_not, Bool.not_eq_true', Bool.not_eq_false', Bool.and_eq_true, Bool.and_eq_false_iff, Int.not_lt, Int.not_le, ne_eq, not_false_eq_true, not_true_eq_false, reduceCtorEq, Bool.true_eq_false, Bool.false_eq_true, beq_iff_eq, bne_iff_ne, beq_eq_false_iff_ne, false_or, or_false, true_and, and_true, hc]; done) | (simp (disch := omega) only [decide_eq_true_eq, decide_eq_false_iff_not, Bool.not_eq_true', Bool.not_eq_false', Bool.and_eq_true, Bool.and_eq_false_iff, Int.not_lt, Int.not_le, ne_eq, not_false_eq_true, not_true_eq_false, reduceCtorEq, Bool.true_eq_false, Bool.false_eq_true, beq_iff_eq, bne_iff_ne, beq_eq_false_iff_ne, false_or, or_false, true_and, and_true, hc] at hx; first | (exfalso; omega) | skip) | skip)
      | trivial
      | exact fit_ofL _ _
      | (simp (disch := omega) only [notAgg_v, notAgg_sl, plain_v, fits, fitsOne, fitsCells, xsOf, cell_zero, cell_succ, List.range, List.range.loop, List.map, cond_true, cond_false, D.v.injEq, exists_eq', exists_eq, and_self, and_true, true_and, D.agg.injEq, List.length, exists_eq_left', D.sl.injEq, reduceCtorEq, false_or, true_or, or_true, or_false, cell_zero, cell_succ, hc]; done))
    all_goals first
      | (exfalso; omega)
      | omega
      | (simp [applyF, hc]; done)
      | exact ⟨0, ⟨a, b, c, d⟩, rfl, Nat.zero_le _, rfl⟩
      | (simp only [lm]; omega)
      | (rw [hdr] at hrun; simp_all [applyF, runA]; done)
      | (refine ⟨k + 1, p.set i n, ?_, by omega, ?_⟩
         · first
             | (obtain rfl : i = 1 := by omega); rfl
             | (obtain rfl : i = 2 := by omega); rfl
             | (obtain rfl : i = 3 := by omega); rfl
             | (obtain rfl : i = 4 := by omega); rfl
             | (simp only [Q.set]; rw [if_neg (by omega), if_neg (by omega), if_neg (by omega), if_neg (by omega)]; rfl)
         · rw [hrun, hdr]; simp_all [runA])
      | (have hkk : zs.drop k = [] := List.drop_eq_nil_of_le (by omega)
         rw [hkk] at hrun
         have e : applyF ⟨a, b, c, d⟩ zs = (p, 0) := by simp [applyF, hc, hrun, runA]
         rw [e]; rfl)
      | fail

end Go.Proofs.Ythmidjhomabboaa