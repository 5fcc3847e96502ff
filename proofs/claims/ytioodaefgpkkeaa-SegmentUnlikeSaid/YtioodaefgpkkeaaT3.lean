/-
  Layer 7: cursors of the program.
-/
import Derived.Test.YtioodaefgpkkeaaT1
import Derived.Test.YtioodaefgpkkeaaT2
namespace Go.Proofs.Ytioodaefgpkkeaa
open Go.RowKit
set_option linter.unusedSimpArgs false
set_option linter.unusedVariables false


def wiF (l : List Int) (a : Int) : Bool := decide (0 ≤ a ∧ a ≤ (l.length : Nat))
def leF (l : List Int) (a e : Int) : Int := if e = 0 ∧ wiF l a = true then (l.length : Nat) - a else 0
def doF (l : List Int) (a e : Int) : Int := if e ≠ 0 then e else if wiF l a = false then 8 else if (l.length : Nat) - a > 0 then 4 else 0
def cuF (l : List Int) (a e n : Int) (f : Bool) : (Int × Int) × List Int :=
  if e ≠ 0 then ((a, e), []) else if wiF l a = false then ((a, 8), []) else if f = false then ((a, 2), []) else if n > (l.length : Nat) - a then ((a, 3), []) else ((a + n, e), (l.drop a.toNat).take n.toNat)
def fiF (n b : Int) : Bool := decide (1 ≤ b ∧ b ≤ 7 ∧ 0 ≤ n ∧ n / 2 ^ (8 * b).toNat = 0)

def be (n : Int) (s : Nat) : List Int := (List.range s).map fun j => n / 256 ^ (s - 1 - j) % 256
theorem be_len (n : Int) (s : Nat) : (be n s).length = s := by simp [be]
theorem be_take (n : Int) {s j : Nat} (h : j < s) : (be n s).take (j + 1) = (be n s).take j ++ [n / 256 ^ (s - 1 - j) % 256] := by
  rw [List.take_succ_eq_append_getElem (by rw [be_len]; exact h)]
  simp [be]
theorem be_bytes (n : Int) (s : Nat) : Bytes (be n s) := by
  intro x hx
  obtain ⟨j, _, rfl⟩ := List.mem_map.1 hx
  omega
theorem shr_be {n : Int} {m : Nat} (hm : m < 8) : n.fdiv (2 ^ min (8 * (m : Int)).toNat IntKind.i64.bits) = n / 256 ^ m := by
  have e : IntKind.i64.bits = 64 := rfl
  have e1 : min (8 * (m : Int)).toNat IntKind.i64.bits = 8 * m := by rw [e]; omega
  have e2 : (2 : Int) ^ (8 * m) = 256 ^ m := by rw [Int.pow_mul]; rfl
  rw [e1, e2, Int.fdiv_eq_ediv_of_nonneg _ (Int.pow_nonneg (by decide))]
def vN (l : List Int) : Int := l.foldl (fun a b => a * 256 + b) 0
theorem vN_snoc (l : List Int) (b : Int) : vN (l ++ [b]) = vN l * 256 + b := by simp [vN]
theorem vN_bd {l : List Int} : Bytes l → 0 ≤ vN l ∧ vN l < 256 ^ l.length := by
  intro hB
  have key : ∀ l : List Int, Bytes l.reverse → 0 ≤ vN l.reverse ∧ vN l.reverse < 256 ^ l.length := by
    intro l
    induction l with
    | nil => intro _; decide
    | cons b l ih =>
      intro hB
      rw [List.reverse_cons] at hB ⊢
      have h1 := ih (fun x hx => hB x (by simp at hx ⊢; exact .inl hx))
      have h2 := hB b (by simp)
      rw [vN_snoc, List.length_cons, Int.pow_succ]
      omega
  have := key l.reverse (by simpa using hB)
  simpa using this
theorem vN_take {l : List Int} {i : Nat} (h : i < l.length) : vN (l.take (i + 1)) = vN (l.take i) * 256 + l.getD i 0 := by
  rw [List.take_succ_eq_append_getElem h, vN_snoc, List.getD_eq_getElem?_getD, List.getElem?_eq_getElem h]; rfl
theorem vN_low {l : List Int} (hB : Bytes l) {i : Nat} (h : i ≤ 6) : 0 ≤ vN (l.take i) ∧ vN (l.take i) < 281474976710656 := by
  have h1 := vN_bd (hB.take i)
  have h2 : (l.take i).length ≤ 6 := by rw [List.length_take]; omega
  have h3 : (256 : Int) ^ (l.take i).length ≤ 256 ^ 6 := by
    rcases (show (l.take i).length = 0 ∨ (l.take i).length = 1 ∨ (l.take i).length = 2 ∨ (l.take i).length = 3 ∨ (l.take i).length = 4 ∨ (l.take i).length = 5 ∨ (l.take i).length = 6 by omega) with h | h | h | h | h | h | h <;> rw [h] <;> decide
  have e : (256 : Int) ^ 6 = 281474976710656 := by decide
  omega
theorem cu_bytes {l : List Int} (hB : Bytes l) (a e n : Int) (f : Bool) : Bytes (cuF l a e n f).2 := by
  unfold cuF
  (repeat' split) <;> first | exact Bytes.nil | exact (hB.drop _).take _
theorem cu_len (l : List Int) (a e n : Int) (f : Bool) : (cuF l a e n f).2.length ≤ n.toNat := by
  unfold cuF
  (repeat' split) <;> simp [List.length_take]; omega
theorem shl8 : (2 : Int) ^ min (8 : Int).toNat IntKind.i64.bits = 256 := rfl
def leftG (n : Nat) : List D → Nat
  | .v (.int _ i) :: _ => n - i.toNat
  | _ => 0

theorem vc_within (l : List Int) (a e : Int) : Cond Try.prog (fun _ => none) Try.f48 [.agg [str (l), .v (.int .i64 (a)), .v (.int .i64 (e))]] [.v (.bool (wiF l a))] = (((∃ (cs : List D), D.agg [str l, D.v (Value.int IntKind.i64 a), D.v (Value.int IntKind.i64 e)] = D.agg cs ∧ cs.length = 3) ∧ True) ∧ ∃ (r : D), D.bin BinOp.geq (D.v (Value.int IntKind.i64 a)) (D.v (Value.int IntKind.i64 0)) = some r ∧ ∃ (b : Bool), r = D.v (Value.bool b) ∧ (b = true → ∃ (r : D), D.lenT TypeDesc.string (str l) = some r ∧ ∃ (r_1 : D), D.bin BinOp.leq (D.v (Value.int IntKind.i64 a)) r = some r_1 ∧ ((∃ (y : Value), r_1 = D.v y) ∧ True) ∧ [r_1] = [D.v (Value.bool (wiF l a))]) ∧ (b = false → (True ∧ True) ∧ [D.v (Value.bool false)] = [D.v (Value.bool (wiF l a))])) := by kernel_rfl
theorem within (l : List Int) (a e : Int)  : PureD Try.prog 48 [.agg [str (l), .v (.int .i64 (a)), .v (.int .i64 (e))]] [.v (.bool (wiF l a))] := by
  refine pure_cond (Lp := (fun _ => none)) (by kernel_rfl) Try.func48 (by kernel_rfl) (by kernel_rfl) ?_
  rw [vc_within l a e]
  repeat' (first
    | (refine ex_some (by simp (disch := omega) only [bin_shr, bin_shl, bin_and, bin_or, bin_xor, len_str, toStr_ofL, bin_add, bin_sub, bin_mul, bin_quo, bin_rem, bin_lss, bin_leq, bin_gtr, bin_geq, bin_eql, bin_neq, eqs_cn, eqs_ci, eqs_cb, eqs_cs, Option.map_some, lenT_ofL, lst_ofL, lstSz_ofL, chunk_one, lst_nil, lst_sl, lstSz_sl, lstSz_nil, Bool.and_true, Bool.true_and, Bool.and_false, Bool.false_and, beq_self_eq_true, beq_bb, bne_bb, un_not, un_neg, conv_int, min2_int, max2_int, w64, w32, wu8, wu16, wu32, wu64, tdiv_nn, tmod_nn, cell_zero, cell_succ, cell_v, cells_v, cells_agg, Bool.not_true, Bool.not_false, Int.reduceLT, Int.reduceLE, Int.reduceEq, Int.reduceNeg, Int.reduceAdd, Int.reduceSub, Int.reduceMul, intOf_v, decide_true, decide_false]; rfl) ?_)
    | (refine ex_bool ?_)
    | (refine And.intro ?_ ?_)
    | (intro hx; have hprop := (show ∀ (p : Prop), p → True from fun _ _ => True.intro) _ hx; clear hprop; first | (cases hx; done) | (exfalso; revert hx; simp (disch := omega) only [decide_eq_true_eq, decide_eq_false_iff_not, Bool.not_eq_true', Bool.not_eq_false', Bool.and_eq_true, Bool.and_eq_false_iff, Int.not_lt, Int.not_le, ne_eq, not_false_eq_true, not_true_eq_false, reduceCtorEq, Bool.true_eq_false, Bool.false_eq_true, beq_iff_eq, bne_iff_ne, beq_eq_false_iff_ne, false_or, or_false, true_and, and_true]; done) | (simp (disch := omega) only [decide_eq_true_eq, decide_eq_false_iff_not, Bool.not_eq_true', Bool.not_eq_false', Bool.and_eq_true, Bool.and_eq_false_iff, Int.not_lt, Int.not_le, ne_eq, not_false_eq_true, not_true_eq_false, reduceCtorEq, Bool.true_eq_false, Bool.false_eq_true, beq_iff_eq, bne_iff_ne, beq_eq_false_iff_ne, false_or, or_false, true_and, and_true] at hx; first | (exfalso; omega) | skip) | skip)
    | trivial
    | exact fit_ofL _ _
    | (simp (disch := omega) only [notAgg_v, notAgg_sl, plain_v, fits, fitsOne, fitsCells, xsOf, cell_zero, cell_succ, List.range, List.range.loop, List.map, cond_true, cond_false, D.v.injEq, exists_eq', exists_eq, and_self, and_true, true_and, D.agg.injEq, List.length, exists_eq_left', D.sl.injEq, reduceCtorEq, false_or, true_or, or_true, or_false, cell_zero, cell_succ, cell_v, cells_v, cells_agg, List.length_cons, List.length_nil]; done))
  all_goals first | (unfold wiF; congr 4; rw [eq_comm, decide_eq_true_eq]; omega) | (unfold wiF; congr 4; rw [eq_comm, decide_eq_false_iff_not]; omega) | (by_cases h : a ≤ (l.length : Nat) <;> simp [wiF, h] <;> omega) | (simp [wiF]; omega) | fail

theorem vc_left (l : List Int) (a e : Int) : Cond Try.prog (fun _ => none) Try.f49 [.agg [str (l), .v (.int .i64 (a)), .v (.int .i64 (e))]] [.v (.int .i64 (leF l a e))] = (((∃ (cs : List D), D.agg [str l, D.v (Value.int IntKind.i64 a), D.v (Value.int IntKind.i64 e)] = D.agg cs ∧ cs.length = 3) ∧ True) ∧ ∃ (r : D), D.bin BinOp.neq (D.v (Value.int IntKind.i64 e)) (D.v (Value.int IntKind.i64 0)) = some r ∧ ∃ (b : Bool), r = D.v (Value.bool b) ∧ (b = false → ∃ (r : D), PureD Try.prog 48 [D.agg [str l, D.v (Value.int IntKind.i64 a), D.v (Value.int IntKind.i64 e)]] [r] ∧ fits [(false, [none])] [r] ∧ ∃ (r_1 : D), D.un UnOp.not r = some r_1 ∧ ∃ (b : Bool), r_1 = D.v (Value.bool b) ∧ (b = true → (True ∧ True) ∧ [D.v (Value.int IntKind.i64 0)] = [D.v (Value.int IntKind.i64 (leF l a e))]) ∧ (b = false → ∃ (r : D), D.lenT TypeDesc.string (str l) = some r ∧ ∃ (r_2 : D), D.bin BinOp.sub r (D.v (Value.int IntKind.i64 a)) = some r_2 ∧ ((∃ (y : Value), r_2 = D.v y) ∧ True) ∧ [r_2] = [D.v (Value.int IntKind.i64 (leF l a e))])) ∧ (b = true → (True ∧ True) ∧ [D.v (Value.int IntKind.i64 0)] = [D.v (Value.int IntKind.i64 (leF l a e))])) := by kernel_rfl
theorem left (l : List Int) (a e : Int) (a0 : -9223372036854775808 ≤ a) (a1 : a ≤ 9223372036854775807) (hB : Bytes l) (hl : l.length ≤ 9223372036854775807) : PureD Try.prog 49 [.agg [str (l), .v (.int .i64 (a)), .v (.int .i64 (e))]] [.v (.int .i64 (leF l a e))] := by
  refine pure_cond (Lp := (fun _ => none)) (by kernel_rfl) Try.func49 (by kernel_rfl) (by kernel_rfl) ?_
  rw [vc_left l a e]
  by_cases he : e = 0
  · cases hw : wiF l a
    · have L : leF l a e = 0 := by unfold leF; rw [if_neg (by rw [hw]; simp)]
      have W := within l a e
      rw [hw] at W
      repeat' (first
        | (refine ex_some (by simp (disch := omega) only [bin_shr, bin_shl, bin_and, bin_or, bin_xor, len_str, toStr_ofL, bin_add, bin_sub, bin_mul, bin_quo, bin_rem, bin_lss, bin_leq, bin_gtr, bin_geq, bin_eql, bin_neq, eqs_cn, eqs_ci, eqs_cb, eqs_cs, Option.map_some, lenT_ofL, lst_ofL, lstSz_ofL, chunk_one, lst_nil, lst_sl, lstSz_sl, lstSz_nil, Bool.and_true, Bool.true_and, Bool.and_false, Bool.false_and, beq_self_eq_true, beq_bb, bne_bb, un_not, un_neg, conv_int, min2_int, max2_int, w64, w32, wu8, wu16, wu32, wu64, tdiv_nn, tmod_nn, cell_zero, cell_succ, cell_v, cells_v, cells_agg, Bool.not_true, Bool.not_false, Int.reduceLT, Int.reduceLE, Int.reduceEq, Int.reduceNeg, Int.reduceAdd, Int.reduceSub, Int.reduceMul, intOf_v, decide_true, decide_false]; rfl) ?_)
        | (refine ex_bool ?_)
        | (refine ⟨_, W, ?_⟩)
        | (refine And.intro ?_ ?_)
        | (intro hx; have hprop := (show ∀ (p : Prop), p → True from fun _ _ => True.intro) _ hx; clear hprop; first | (cases hx; done) | (exfalso; revert hx; simp (disch := omega) only [decide_eq_true_eq, decide_eq_false_iff_not, Bool.not_eq_true', Bool.not_eq_false', Bool.and_eq_true, Bool.and_eq_false_iff, Int.not_lt, Int.not_le, ne_eq, not_false_eq_true, not_true_eq_false, reduceCtorEq, Bool.true_eq_false, Bool.false_eq_true, beq_iff_eq, bne_iff_ne, beq_eq_false_iff_ne, false_or, or_false, true_and, and_true]; done) | (simp (disch := omega) only [decide_eq_true_eq, decide_eq_false_iff_not, Bool.not_eq_true', Bool.not_eq_false', Bool.and_eq_true, Bool.and_eq_false_iff, Int.not_lt, Int.not_le, ne_eq, not_false_eq_true, not_true_eq_false, reduceCtorEq, Bool.true_eq_false, Bool.false_eq_true, beq_iff_eq, bne_iff_ne, beq_eq_false_iff_ne, false_or, or_false, true_and, and_true] at hx; first | (exfalso; omega) | skip) | skip)
        | trivial
        | exact fit_ofL _ _
        | (simp (disch := omega) only [notAgg_v, notAgg_sl, plain_v, fits, fitsOne, fitsCells, xsOf, cell_zero, cell_succ, List.range, List.range.loop, List.map, cond_true, cond_false, D.v.injEq, exists_eq', exists_eq, and_self, and_true, true_and, D.agg.injEq, List.length, exists_eq_left', D.sl.injEq, reduceCtorEq, false_or, true_or, or_true, or_false, cell_zero, cell_succ, cell_v, cells_v, cells_agg, List.length_cons, List.length_nil]; done))
      all_goals first | (exfalso; omega) | (rw [L]; done) | (simp [L]; done) | fail
    · have L : leF l a e = (l.length : Nat) - a := by unfold leF; rw [if_pos ⟨he, hw⟩]
      have W := within l a e
      rw [hw] at W
      have hw2 : 0 ≤ a ∧ a ≤ (l.length : Nat) := by simpa [wiF] using hw
      repeat' (first
        | (refine ex_some (by simp (disch := omega) only [bin_shr, bin_shl, bin_and, bin_or, bin_xor, len_str, toStr_ofL, bin_add, bin_sub, bin_mul, bin_quo, bin_rem, bin_lss, bin_leq, bin_gtr, bin_geq, bin_eql, bin_neq, eqs_cn, eqs_ci, eqs_cb, eqs_cs, Option.map_some, lenT_ofL, lst_ofL, lstSz_ofL, chunk_one, lst_nil, lst_sl, lstSz_sl, lstSz_nil, Bool.and_true, Bool.true_and, Bool.and_false, Bool.false_and, beq_self_eq_true, beq_bb, bne_bb, un_not, un_neg, conv_int, min2_int, max2_int, w64, w32, wu8, wu16, wu32, wu64, tdiv_nn, tmod_nn, cell_zero, cell_succ, cell_v, cells_v, cells_agg, Bool.not_true, Bool.not_false, Int.reduceLT, Int.reduceLE, Int.reduceEq, Int.reduceNeg, Int.reduceAdd, Int.reduceSub, Int.reduceMul, intOf_v, decide_true, decide_false]; rfl) ?_)
        | (refine ex_bool ?_)
        | (refine ⟨_, W, ?_⟩)
        | (refine And.intro ?_ ?_)
        | (intro hx; have hprop := (show ∀ (p : Prop), p → True from fun _ _ => True.intro) _ hx; clear hprop; first | (cases hx; done) | (exfalso; revert hx; simp (disch := omega) only [decide_eq_true_eq, decide_eq_false_iff_not, Bool.not_eq_true', Bool.not_eq_false', Bool.and_eq_true, Bool.and_eq_false_iff, Int.not_lt, Int.not_le, ne_eq, not_false_eq_true, not_true_eq_false, reduceCtorEq, Bool.true_eq_false, Bool.false_eq_true, beq_iff_eq, bne_iff_ne, beq_eq_false_iff_ne, false_or, or_false, true_and, and_true]; done) | (simp (disch := omega) only [decide_eq_true_eq, decide_eq_false_iff_not, Bool.not_eq_true', Bool.not_eq_false', Bool.and_eq_true, Bool.and_eq_false_iff, Int.not_lt, Int.not_le, ne_eq, not_false_eq_true, not_true_eq_false, reduceCtorEq, Bool.true_eq_false, Bool.false_eq_true, beq_iff_eq, bne_iff_ne, beq_eq_false_iff_ne, false_or, or_false, true_and, and_true] at hx; first | (exfalso; omega) | skip) | skip)
        | trivial
        | exact fit_ofL _ _
        | (simp (disch := omega) only [notAgg_v, notAgg_sl, plain_v, fits, fitsOne, fitsCells, xsOf, cell_zero, cell_succ, List.range, List.range.loop, List.map, cond_true, cond_false, D.v.injEq, exists_eq', exists_eq, and_self, and_true, true_and, D.agg.injEq, List.length, exists_eq_left', D.sl.injEq, reduceCtorEq, false_or, true_or, or_true, or_false, cell_zero, cell_succ, cell_v, cells_v, cells_agg, List.length_cons, List.length_nil]; done))
      all_goals first | (exfalso; omega) | (rw [L]; done) | (simp [L]; done) | fail
  · have L : leF l a e = 0 := by unfold leF; rw [if_neg (by omega)]
    repeat' (first
      | (refine ex_some (by simp (disch := omega) only [bin_shr, bin_shl, bin_and, bin_or, bin_xor, len_str, toStr_ofL, bin_add, bin_sub, bin_mul, bin_quo, bin_rem, bin_lss, bin_leq, bin_gtr, bin_geq, bin_eql, bin_neq, eqs_cn, eqs_ci, eqs_cb, eqs_cs, Option.map_some, lenT_ofL, lst_ofL, lstSz_ofL, chunk_one, lst_nil, lst_sl, lstSz_sl, lstSz_nil, Bool.and_true, Bool.true_and, Bool.and_false, Bool.false_and, beq_self_eq_true, beq_bb, bne_bb, un_not, un_neg, conv_int, min2_int, max2_int, w64, w32, wu8, wu16, wu32, wu64, tdiv_nn, tmod_nn, cell_zero, cell_succ, cell_v, cells_v, cells_agg, Bool.not_true, Bool.not_false, Int.reduceLT, Int.reduceLE, Int.reduceEq, Int.reduceNeg, Int.reduceAdd, Int.reduceSub, Int.reduceMul, intOf_v, decide_true, decide_false]; rfl) ?_)
      | (refine ex_bool ?_)
      | (refine ⟨_, W, ?_⟩)
      | (refine And.intro ?_ ?_)
      | (intro hx; have hprop := (show ∀ (p : Prop), p → True from fun _ _ => True.intro) _ hx; clear hprop; first | (cases hx; done) | (exfalso; revert hx; simp (disch := omega) only [decide_eq_true_eq, decide_eq_false_iff_not, Bool.not_eq_true', Bool.not_eq_false', Bool.and_eq_true, Bool.and_eq_false_iff, Int.not_lt, Int.not_le, ne_eq, not_false_eq_true, not_true_eq_false, reduceCtorEq, Bool.true_eq_false, Bool.false_eq_true, beq_iff_eq, bne_iff_ne, beq_eq_false_iff_ne, false_or, or_false, true_and, and_true]; done) | (simp (disch := omega) only [decide_eq_true_eq, decide_eq_false_iff_not, Bool.not_eq_true', Bool.not_eq_false', Bool.and_eq_true, Bool.and_eq_false_iff, Int.not_lt, Int.not_le, ne_eq, not_false_eq_true, not_true_eq_false, reduceCtorEq, Bool.true_eq_false, Bool.false_eq_true, beq_iff_eq, bne_iff_ne, beq_eq_false_iff_ne, false_or, or_false, true_and, and_true] at hx; first | (exfalso; omega) | skip) | skip)
      | trivial
      | exact fit_ofL _ _
      | (simp (disch := omega) only [notAgg_v, notAgg_sl, plain_v, fits, fitsOne, fitsCells, xsOf, cell_zero, cell_succ, List.range, List.range.loop, List.map, cond_true, cond_false, D.v.injEq, exists_eq', exists_eq, and_self, and_true, true_and, D.agg.injEq, List.length, exists_eq_left', D.sl.injEq, reduceCtorEq, false_or, true_or, or_true, or_false, cell_zero, cell_succ, cell_v, cells_v, cells_agg, List.length_cons, List.length_nil]; done))
    all_goals first | (exfalso; omega) | (rw [L]; done) | (simp [L]; done) | fail

theorem vc_done (l : List Int) (a e : Int) : Cond Try.prog (fun _ => none) Try.f35 [.agg [str (l), .v (.int .i64 (a)), .v (.int .i64 (e))]] [.v (.int .i64 (doF l a e))] = (((∃ (cs : List D), D.agg [str l, D.v (Value.int IntKind.i64 a), D.v (Value.int IntKind.i64 e)] = D.agg cs ∧ cs.length = 3) ∧ True) ∧ ∃ (r : D), D.bin BinOp.neq (D.v (Value.int IntKind.i64 e)) (D.v (Value.int IntKind.i64 0)) = some r ∧ ∃ (b : Bool), r = D.v (Value.bool b) ∧ (b = true → ((∃ (y : Value), D.v (Value.int IntKind.i64 e) = D.v y) ∧ True) ∧ [D.v (Value.int IntKind.i64 e)] = [D.v (Value.int IntKind.i64 (doF l a e))]) ∧ (b = false → ∃ (r : D), PureD Try.prog 48 [D.agg [str l, D.v (Value.int IntKind.i64 a), D.v (Value.int IntKind.i64 e)]] [r] ∧ fits [(false, [none])] [r] ∧ ∃ (r_1 : D), D.un UnOp.not r = some r_1 ∧ ∃ (b : Bool), r_1 = D.v (Value.bool b) ∧ (b = true → (True ∧ True) ∧ [D.v (Value.int IntKind.i64 8)] = [D.v (Value.int IntKind.i64 (doF l a e))]) ∧ (b = false → ∃ (r : D), PureD Try.prog 49 [D.agg [str l, D.v (Value.int IntKind.i64 a), D.v (Value.int IntKind.i64 e)]] [r] ∧ fits [(false, [none])] [r] ∧ ∃ (r_2 : D), D.bin BinOp.gtr r (D.v (Value.int IntKind.i64 0)) = some r_2 ∧ ∃ (b : Bool), r_2 = D.v (Value.bool b) ∧ (b = true → (True ∧ True) ∧ [D.v (Value.int IntKind.i64 4)] = [D.v (Value.int IntKind.i64 (doF l a e))]) ∧ (b = false → (True ∧ True) ∧ [D.v (Value.int IntKind.i64 0)] = [D.v (Value.int IntKind.i64 (doF l a e))])))) := by kernel_rfl
theorem done (l : List Int) (a e : Int) (a0 : -9223372036854775808 ≤ a) (a1 : a ≤ 9223372036854775807) (hB : Bytes l) (hl : l.length ≤ 9223372036854775807) : PureD Try.prog 35 [.agg [str (l), .v (.int .i64 (a)), .v (.int .i64 (e))]] [.v (.int .i64 (doF l a e))] := by
  refine pure_cond (Lp := (fun _ => none)) (by kernel_rfl) Try.func35 (by kernel_rfl) (by kernel_rfl) ?_
  rw [vc_done l a e]
  have LL := left l a e a0 a1 hB hl
  have W := within l a e
  by_cases he : e = 0
  · cases hw : wiF l a
    · have L : doF l a e = 8 := by unfold doF; rw [if_neg (by omega), if_pos hw]
      rw [hw] at W
      repeat' (first
        | (refine ex_some (by simp (disch := omega) only [bin_shr, bin_shl, bin_and, bin_or, bin_xor, len_str, toStr_ofL, bin_add, bin_sub, bin_mul, bin_quo, bin_rem, bin_lss, bin_leq, bin_gtr, bin_geq, bin_eql, bin_neq, eqs_cn, eqs_ci, eqs_cb, eqs_cs, Option.map_some, lenT_ofL, lst_ofL, lstSz_ofL, chunk_one, lst_nil, lst_sl, lstSz_sl, lstSz_nil, Bool.and_true, Bool.true_and, Bool.and_false, Bool.false_and, beq_self_eq_true, beq_bb, bne_bb, un_not, un_neg, conv_int, min2_int, max2_int, w64, w32, wu8, wu16, wu32, wu64, tdiv_nn, tmod_nn, cell_zero, cell_succ, cell_v, cells_v, cells_agg, Bool.not_true, Bool.not_false, Int.reduceLT, Int.reduceLE, Int.reduceEq, Int.reduceNeg, Int.reduceAdd, Int.reduceSub, Int.reduceMul, intOf_v, decide_true, decide_false]; rfl) ?_)
        | (refine ex_bool ?_)
        | (refine ⟨_, W, ?_⟩)
        | (refine ⟨_, LL, ?_⟩)
        | (refine And.intro ?_ ?_)
        | (intro hx; have hprop := (show ∀ (p : Prop), p → True from fun _ _ => True.intro) _ hx; clear hprop; first | (cases hx; done) | (exfalso; revert hx; simp (disch := omega) only [decide_eq_true_eq, decide_eq_false_iff_not, Bool.not_eq_true', Bool.not_eq_false', Bool.and_eq_true, Bool.and_eq_false_iff, Int.not_lt, Int.not_le, ne_eq, not_false_eq_true, not_true_eq_false, reduceCtorEq, Bool.true_eq_false, Bool.false_eq_true, beq_iff_eq, bne_iff_ne, beq_eq_false_iff_ne, false_or, or_false, true_and, and_true]; done) | (simp (disch := omega) only [decide_eq_true_eq, decide_eq_false_iff_not, Bool.not_eq_true', Bool.not_eq_false', Bool.and_eq_true, Bool.and_eq_false_iff, Int.not_lt, Int.not_le, ne_eq, not_false_eq_true, not_true_eq_false, reduceCtorEq, Bool.true_eq_false, Bool.false_eq_true, beq_iff_eq, bne_iff_ne, beq_eq_false_iff_ne, false_or, or_false, true_and, and_true] at hx; first | (exfalso; omega) | skip) | skip)
        | trivial
        | exact fit_ofL _ _
        | (simp (disch := omega) only [notAgg_v, notAgg_sl, plain_v, fits, fitsOne, fitsCells, xsOf, cell_zero, cell_succ, List.range, List.range.loop, List.map, cond_true, cond_false, D.v.injEq, exists_eq', exists_eq, and_self, and_true, true_and, D.agg.injEq, List.length, exists_eq_left', D.sl.injEq, reduceCtorEq, false_or, true_or, or_true, or_false, cell_zero, cell_succ, cell_v, cells_v, cells_agg, List.length_cons, List.length_nil]; done))
      all_goals first | (exfalso; omega) | (rw [L]; done) | (rw [if_pos (by omega)]; done) | (rw [if_neg (by omega)]; done) | (simp [L]; done) | fail
    · have hw2 : 0 ≤ a ∧ a ≤ (l.length : Nat) := by simpa [wiF] using hw
      have L2 : leF l a e = (l.length : Nat) - a := by unfold leF; rw [if_pos ⟨he, hw⟩]
      rw [hw] at W
      rw [L2] at LL
      have L : doF l a e = if (l.length : Nat) - a > 0 then 4 else 0 := by unfold doF; rw [if_neg (by omega), if_neg (by rw [hw]; simp)]
      rw [L]
      repeat' (first
        | (refine ex_some (by simp (disch := omega) only [bin_shr, bin_shl, bin_and, bin_or, bin_xor, len_str, toStr_ofL, bin_add, bin_sub, bin_mul, bin_quo, bin_rem, bin_lss, bin_leq, bin_gtr, bin_geq, bin_eql, bin_neq, eqs_cn, eqs_ci, eqs_cb, eqs_cs, Option.map_some, lenT_ofL, lst_ofL, lstSz_ofL, chunk_one, lst_nil, lst_sl, lstSz_sl, lstSz_nil, Bool.and_true, Bool.true_and, Bool.and_false, Bool.false_and, beq_self_eq_true, beq_bb, bne_bb, un_not, un_neg, conv_int, min2_int, max2_int, w64, w32, wu8, wu16, wu32, wu64, tdiv_nn, tmod_nn, cell_zero, cell_succ, cell_v, cells_v, cells_agg, Bool.not_true, Bool.not_false, Int.reduceLT, Int.reduceLE, Int.reduceEq, Int.reduceNeg, Int.reduceAdd, Int.reduceSub, Int.reduceMul, intOf_v, decide_true, decide_false]; rfl) ?_)
        | (refine ex_bool ?_)
        | (refine ⟨_, W, ?_⟩)
        | (refine ⟨_, LL, ?_⟩)
        | (refine And.intro ?_ ?_)
        | (intro hx; have hprop := (show ∀ (p : Prop), p → True from fun _ _ => True.intro) _ hx; clear hprop; first | (cases hx; done) | (exfalso; revert hx; simp (disch := omega) only [decide_eq_true_eq, decide_eq_false_iff_not, Bool.not_eq_true', Bool.not_eq_false', Bool.and_eq_true, Bool.and_eq_false_iff, Int.not_lt, Int.not_le, ne_eq, not_false_eq_true, not_true_eq_false, reduceCtorEq, Bool.true_eq_false, Bool.false_eq_true, beq_iff_eq, bne_iff_ne, beq_eq_false_iff_ne, false_or, or_false, true_and, and_true]; done) | (simp (disch := omega) only [decide_eq_true_eq, decide_eq_false_iff_not, Bool.not_eq_true', Bool.not_eq_false', Bool.and_eq_true, Bool.and_eq_false_iff, Int.not_lt, Int.not_le, ne_eq, not_false_eq_true, not_true_eq_false, reduceCtorEq, Bool.true_eq_false, Bool.false_eq_true, beq_iff_eq, bne_iff_ne, beq_eq_false_iff_ne, false_or, or_false, true_and, and_true] at hx; first | (exfalso; omega) | skip) | skip)
        | trivial
        | exact fit_ofL _ _
        | (simp (disch := omega) only [notAgg_v, notAgg_sl, plain_v, fits, fitsOne, fitsCells, xsOf, cell_zero, cell_succ, List.range, List.range.loop, List.map, cond_true, cond_false, D.v.injEq, exists_eq', exists_eq, and_self, and_true, true_and, D.agg.injEq, List.length, exists_eq_left', D.sl.injEq, reduceCtorEq, false_or, true_or, or_true, or_false, cell_zero, cell_succ, cell_v, cells_v, cells_agg, List.length_cons, List.length_nil]; done))
      all_goals first | (exfalso; omega) | (rw [L]; done) | (rw [if_pos (by omega)]; done) | (rw [if_neg (by omega)]; done) | (simp [L]; done) | fail
  · have L : doF l a e = e := by unfold doF; rw [if_pos he]
    repeat' (first
      | (refine ex_some (by simp (disch := omega) only [bin_shr, bin_shl, bin_and, bin_or, bin_xor, len_str, toStr_ofL, bin_add, bin_sub, bin_mul, bin_quo, bin_rem, bin_lss, bin_leq, bin_gtr, bin_geq, bin_eql, bin_neq, eqs_cn, eqs_ci, eqs_cb, eqs_cs, Option.map_some, lenT_ofL, lst_ofL, lstSz_ofL, chunk_one, lst_nil, lst_sl, lstSz_sl, lstSz_nil, Bool.and_true, Bool.true_and, Bool.and_false, Bool.false_and, beq_self_eq_true, beq_bb, bne_bb, un_not, un_neg, conv_int, min2_int, max2_int, w64, w32, wu8, wu16, wu32, wu64, tdiv_nn, tmod_nn, cell_zero, cell_succ, cell_v, cells_v, cells_agg, Bool.not_true, Bool.not_false, Int.reduceLT, Int.reduceLE, Int.reduceEq, Int.reduceNeg, Int.reduceAdd, Int.reduceSub, Int.reduceMul, intOf_v, decide_true, decide_false]; rfl) ?_)
      | (refine ex_bool ?_)
      | (refine ⟨_, W, ?_⟩)
      | (refine ⟨_, LL, ?_⟩)
      | (refine And.intro ?_ ?_)
      | (intro hx; have hprop := (show ∀ (p : Prop), p → True from fun _ _ => True.intro) _ hx; clear hprop; first | (cases hx; done) | (exfalso; revert hx; simp (disch := omega) only [decide_eq_true_eq, decide_eq_false_iff_not, Bool.not_eq_true', Bool.not_eq_false', Bool.and_eq_true, Bool.and_eq_false_iff, Int.not_lt, Int.not_le, ne_eq, not_false_eq_true, not_true_eq_false, reduceCtorEq, Bool.true_eq_false, Bool.false_eq_true, beq_iff_eq, bne_iff_ne, beq_eq_false_iff_ne, false_or, or_false, true_and, and_true]; done) | (simp (disch := omega) only [decide_eq_true_eq, decide_eq_false_iff_not, Bool.not_eq_true', Bool.not_eq_false', Bool.and_eq_true, Bool.and_eq_false_iff, Int.not_lt, Int.not_le, ne_eq, not_false_eq_true, not_true_eq_false, reduceCtorEq, Bool.true_eq_false, Bool.false_eq_true, beq_iff_eq, bne_iff_ne, beq_eq_false_iff_ne, false_or, or_false, true_and, and_true] at hx; first | (exfalso; omega) | skip) | skip)
      | trivial
      | exact fit_ofL _ _
      | (simp (disch := omega) only [notAgg_v, notAgg_sl, plain_v, fits, fitsOne, fitsCells, xsOf, cell_zero, cell_succ, List.range, List.range.loop, List.map, cond_true, cond_false, D.v.injEq, exists_eq', exists_eq, and_self, and_true, true_and, D.agg.injEq, List.length, exists_eq_left', D.sl.injEq, reduceCtorEq, false_or, true_or, or_true, or_false, cell_zero, cell_succ, cell_v, cells_v, cells_agg, List.length_cons, List.length_nil]; done))
    all_goals first | (exfalso; omega) | (rw [L]; done) | (rw [if_pos (by omega)]; done) | (rw [if_neg (by omega)]; done) | (simp [L]; done) | fail

theorem vc_fitC (n b : Int) : Cond Try.prog (fun _ => none) Try.f41 [.v (.int .i64 n), .v (.int .i64 b)] [.v (.bool (fiF n b))] = ((NotAgg (D.v (Value.int IntKind.i64 n)) ∧ NotAgg (D.v (Value.int IntKind.i64 b)) ∧ True) ∧ ∃ (r : D), D.bin BinOp.geq (D.v (Value.int IntKind.i64 b)) (D.v (Value.int IntKind.i64 1)) = some r ∧ ∃ (b_1 : Bool), r = D.v (Value.bool b_1) ∧ (b_1 = true → ∃ (r : D), D.bin BinOp.leq (D.v (Value.int IntKind.i64 b)) (D.v (Value.int IntKind.i64 7)) = some r ∧ ∃ (b_2 : Bool), r = D.v (Value.bool b_2) ∧ (b_2 = true → ∃ (r : D), D.bin BinOp.geq (D.v (Value.int IntKind.i64 n)) (D.v (Value.int IntKind.i64 0)) = some r ∧ ∃ (b_3 : Bool), r = D.v (Value.bool b_3) ∧ (b_3 = true → ∃ (r : D), D.bin BinOp.mul (D.v (Value.int IntKind.i64 8)) (D.v (Value.int IntKind.i64 b)) = some r ∧ ∃ (r_1 : D), D.bin BinOp.shr (D.v (Value.int IntKind.i64 n)) r = some r_1 ∧ ∃ (r : D), D.bin BinOp.eql r_1 (D.v (Value.int IntKind.i64 0)) = some r ∧ ((∃ (y : Value), r = D.v y) ∧ True) ∧ [r] = [D.v (Value.bool (fiF n b))]) ∧ (b_3 = false → (True ∧ True) ∧ [D.v (Value.bool false)] = [D.v (Value.bool (fiF n b))])) ∧ (b_2 = false → (True ∧ True) ∧ [D.v (Value.bool false)] = [D.v (Value.bool (fiF n b))])) ∧ (b_1 = false → (True ∧ True) ∧ [D.v (Value.bool false)] = [D.v (Value.bool (fiF n b))])) := by kernel_rfl
theorem fitC (n b : Int)  : PureD Try.prog 41 [.v (.int .i64 n), .v (.int .i64 b)] [.v (.bool (fiF n b))] := by
  refine pure_cond (Lp := (fun _ => none)) (by kernel_rfl) Try.func41 (by kernel_rfl) (by kernel_rfl) ?_
  rw [vc_fitC n b]
  have hs : 1 ≤ b → b ≤ 7 → n.fdiv (2 ^ min (8 * b).toNat IntKind.i64.bits) = n / 2 ^ (8 * b).toNat := by
    intro h1 h2
    have e : min (8 * b).toNat IntKind.i64.bits = (8 * b).toNat := by show min _ 64 = _; omega
    rw [e, Int.fdiv_eq_ediv_of_nonneg _ (Int.pow_nonneg (by decide))]
  repeat' (first
    | (refine ex_some (by simp (disch := omega) only [bin_shr, bin_shl, bin_and, bin_or, bin_xor, len_str, toStr_ofL, bin_add, bin_sub, bin_mul, bin_quo, bin_rem, bin_lss, bin_leq, bin_gtr, bin_geq, bin_eql, bin_neq, eqs_cn, eqs_ci, eqs_cb, eqs_cs, Option.map_some, lenT_ofL, lst_ofL, lstSz_ofL, chunk_one, lst_nil, lst_sl, lstSz_sl, lstSz_nil, Bool.and_true, Bool.true_and, Bool.and_false, Bool.false_and, beq_self_eq_true, beq_bb, bne_bb, un_not, un_neg, conv_int, min2_int, max2_int, w64, w32, wu8, wu16, wu32, wu64, tdiv_nn, tmod_nn, cell_zero, cell_succ, cell_v, cells_v, cells_agg, Bool.not_true, Bool.not_false, Int.reduceLT, Int.reduceLE, Int.reduceEq, Int.reduceNeg, Int.reduceAdd, Int.reduceSub, Int.reduceMul, intOf_v, decide_true, decide_false]; rfl) ?_)
    | (refine ex_bool ?_)
    | (refine And.intro ?_ ?_)
    | (intro hx; have hprop := (show ∀ (p : Prop), p → True from fun _ _ => True.intro) _ hx; clear hprop; first | (cases hx; done) | (exfalso; revert hx; simp (disch := omega) only [decide_eq_true_eq, decide_eq_false_iff_not, Bool.not_eq_true', Bool.not_eq_false', Bool.and_eq_true, Bool.and_eq_false_iff, Int.not_lt, Int.not_le, ne_eq, not_false_eq_true, not_true_eq_false, reduceCtorEq, Bool.true_eq_false, Bool.false_eq_true, beq_iff_eq, bne_iff_ne, beq_eq_false_iff_ne, false_or, or_false, true_and, and_true]; done) | (simp (disch := omega) only [decide_eq_true_eq, decide_eq_false_iff_not, Bool.not_eq_true', Bool.not_eq_false', Bool.and_eq_true, Bool.and_eq_false_iff, Int.not_lt, Int.not_le, ne_eq, not_false_eq_true, not_true_eq_false, reduceCtorEq, Bool.true_eq_false, Bool.false_eq_true, beq_iff_eq, bne_iff_ne, beq_eq_false_iff_ne, false_or, or_false, true_and, and_true] at hx; first | (exfalso; omega) | skip) | skip)
    | trivial
    | exact fit_ofL _ _
    | (simp (disch := omega) only [notAgg_v, notAgg_sl, plain_v, fits, fitsOne, fitsCells, xsOf, cell_zero, cell_succ, List.range, List.range.loop, List.map, cond_true, cond_false, D.v.injEq, exists_eq', exists_eq, and_self, and_true, true_and, D.agg.injEq, List.length, exists_eq_left', D.sl.injEq, reduceCtorEq, false_or, true_or, or_true, or_false, cell_zero, cell_succ, cell_v, cells_v, cells_agg, List.length_cons, List.length_nil]; done))
  all_goals first | (exfalso; omega) | (rw [hs (by omega) (by omega)]; unfold fiF; congr 4; simp; omega) | (unfold fiF; congr 4; rw [eq_comm, decide_eq_false_iff_not]; omega) | (simp [fiF]; omega) | fail

theorem vc_opn (l : List Int) : Cond Try.prog (fun _ => none) Try.f30 [str l] [.agg [str (l), .v (.int .i64 (0)), .v (.int .i64 (0))]] = ((NotAgg (str l) ∧ True) ∧ ((∃ (y : Value), str l = D.v y) ∧ True ∧ True ∧ True) ∧ [D.agg [str l, D.v (Value.int IntKind.i64 0), D.v (Value.int IntKind.i64 0)]] = [D.agg [str l, D.v (Value.int IntKind.i64 0), D.v (Value.int IntKind.i64 0)]]) := by kernel_rfl
theorem opn (l : List Int)  : PureD Try.prog 30 [str l] [.agg [str (l), .v (.int .i64 (0)), .v (.int .i64 (0))]] := by
  refine pure_cond (Lp := (fun _ => none)) (by kernel_rfl) Try.func30 (by kernel_rfl) (by kernel_rfl) ?_
  rw [vc_opn l]
  repeat' (first
    | (refine ex_some (by simp (disch := omega) only [bin_shr, bin_shl, bin_and, bin_or, bin_xor, len_str, toStr_ofL, bin_add, bin_sub, bin_mul, bin_quo, bin_rem, bin_lss, bin_leq, bin_gtr, bin_geq, bin_eql, bin_neq, eqs_cn, eqs_ci, eqs_cb, eqs_cs, Option.map_some, lenT_ofL, lst_ofL, lstSz_ofL, chunk_one, lst_nil, lst_sl, lstSz_sl, lstSz_nil, Bool.and_true, Bool.true_and, Bool.and_false, Bool.false_and, beq_self_eq_true, beq_bb, bne_bb, un_not, un_neg, conv_int, min2_int, max2_int, w64, w32, wu8, wu16, wu32, wu64, tdiv_nn, tmod_nn, cell_zero, cell_succ, cell_v, cells_v, cells_agg, Bool.not_true, Bool.not_false, Int.reduceLT, Int.reduceLE, Int.reduceEq, Int.reduceNeg, Int.reduceAdd, Int.reduceSub, Int.reduceMul, intOf_v, decide_true, decide_false]; rfl) ?_)
    | (refine ex_bool ?_)
    | (exact notAgg_v _)
    | (refine And.intro ?_ ?_)
    | (intro hx; have hprop := (show ∀ (p : Prop), p → True from fun _ _ => True.intro) _ hx; clear hprop; first | (cases hx; done) | (exfalso; revert hx; simp (disch := omega) only [decide_eq_true_eq, decide_eq_false_iff_not, Bool.not_eq_true', Bool.not_eq_false', Bool.and_eq_true, Bool.and_eq_false_iff, Int.not_lt, Int.not_le, ne_eq, not_false_eq_true, not_true_eq_false, reduceCtorEq, Bool.true_eq_false, Bool.false_eq_true, beq_iff_eq, bne_iff_ne, beq_eq_false_iff_ne, false_or, or_false, true_and, and_true]; done) | (simp (disch := omega) only [decide_eq_true_eq, decide_eq_false_iff_not, Bool.not_eq_true', Bool.not_eq_false', Bool.and_eq_true, Bool.and_eq_false_iff, Int.not_lt, Int.not_le, ne_eq, not_false_eq_true, not_true_eq_false, reduceCtorEq, Bool.true_eq_false, Bool.false_eq_true, beq_iff_eq, bne_iff_ne, beq_eq_false_iff_ne, false_or, or_false, true_and, and_true] at hx; first | (exfalso; omega) | skip) | skip)
    | trivial
    | exact fit_ofL _ _
    | (simp (disch := omega) only [notAgg_v, notAgg_sl, plain_v, fits, fitsOne, fitsCells, xsOf, cell_zero, cell_succ, List.range, List.range.loop, List.map, cond_true, cond_false, D.v.injEq, exists_eq', exists_eq, and_self, and_true, true_and, D.agg.injEq, List.length, exists_eq_left', D.sl.injEq, reduceCtorEq, false_or, true_or, or_true, or_false, cell_zero, cell_succ, cell_v, cells_v, cells_agg, List.length_cons, List.length_nil]; done))
  all_goals first | rfl | exact ⟨_, rfl⟩ | fail

theorem vc_cut (l : List Int) (a e : Int) (n : Int) (f : Bool) : Cond Try.prog (fun _ => none) Try.f54 [.agg [str (l), .v (.int .i64 (a)), .v (.int .i64 (e))], .v (.int .i64 n), .v (.bool f)] [.agg [str (l), .v (.int .i64 ((cuF l a e n f).1.1)), .v (.int .i64 ((cuF l a e n f).1.2))], str (cuF l a e n f).2] = (((∃ (cs : List D), D.agg [str l, D.v (Value.int IntKind.i64 a), D.v (Value.int IntKind.i64 e)] = D.agg cs ∧ cs.length = 3) ∧ NotAgg (D.v (Value.int IntKind.i64 n)) ∧ NotAgg (D.v (Value.bool f)) ∧ True) ∧ ∃ (r : D), D.bin BinOp.neq (D.v (Value.int IntKind.i64 e)) (D.v (Value.int IntKind.i64 0)) = some r ∧ ∃ (b : Bool), r = D.v (Value.bool b) ∧ (b = true → ((∃ (y : Value), str l = D.v y) ∧ (∃ (y : Value), D.v (Value.int IntKind.i64 a) = D.v y) ∧ (∃ (y : Value), D.v (Value.int IntKind.i64 e) = D.v y) ∧ True ∧ True) ∧ [D.agg [str l, D.v (Value.int IntKind.i64 a), D.v (Value.int IntKind.i64 e)], D.v (Value.string { data := { toList := [] } })] = [D.agg [str l, D.v (Value.int IntKind.i64 (cuF l a e n f).fst.fst), D.v (Value.int IntKind.i64 (cuF l a e n f).fst.snd)], str (cuF l a e n f).2]) ∧ (b = false → ∃ (r : D), PureD Try.prog 48 [D.agg [str l, D.v (Value.int IntKind.i64 a), D.v (Value.int IntKind.i64 e)]] [r] ∧ fits [(false, [none])] [r] ∧ ∃ (r_1 : D), D.un UnOp.not r = some r_1 ∧ ∃ (b : Bool), r_1 = D.v (Value.bool b) ∧ (b = true → ((∃ (y : Value), str l = D.v y) ∧ (∃ (y : Value), D.v (Value.int IntKind.i64 a) = D.v y) ∧ True ∧ True ∧ True) ∧ [D.agg [str l, D.v (Value.int IntKind.i64 a), D.v (Value.int IntKind.i64 8)], D.v (Value.string { data := { toList := [] } })] = [D.agg [str l, D.v (Value.int IntKind.i64 (cuF l a e n f).fst.fst), D.v (Value.int IntKind.i64 (cuF l a e n f).fst.snd)], str (cuF l a e n f).2]) ∧ (b = false → ∃ (r : D), D.un UnOp.not (D.v (Value.bool f)) = some r ∧ ∃ (b : Bool), r = D.v (Value.bool b) ∧ (b = true → ((∃ (y : Value), str l = D.v y) ∧ (∃ (y : Value), D.v (Value.int IntKind.i64 a) = D.v y) ∧ True ∧ True ∧ True) ∧ [D.agg [str l, D.v (Value.int IntKind.i64 a), D.v (Value.int IntKind.i64 2)], D.v (Value.string { data := { toList := [] } })] = [D.agg [str l, D.v (Value.int IntKind.i64 (cuF l a e n f).fst.fst), D.v (Value.int IntKind.i64 (cuF l a e n f).fst.snd)], str (cuF l a e n f).2]) ∧ (b = false → ∃ (r : D), D.lenT TypeDesc.string (str l) = some r ∧ ∃ (r_2 : D), D.bin BinOp.sub r (D.v (Value.int IntKind.i64 a)) = some r_2 ∧ ∃ (r : D), D.bin BinOp.gtr (D.v (Value.int IntKind.i64 n)) r_2 = some r ∧ ∃ (b : Bool), r = D.v (Value.bool b) ∧ (b = true → ((∃ (y : Value), str l = D.v y) ∧ (∃ (y : Value), D.v (Value.int IntKind.i64 a) = D.v y) ∧ True ∧ True ∧ True) ∧ [D.agg [str l, D.v (Value.int IntKind.i64 a), D.v (Value.int IntKind.i64 3)], D.v (Value.string { data := { toList := [] } })] = [D.agg [str l, D.v (Value.int IntKind.i64 (cuF l a e n f).fst.fst), D.v (Value.int IntKind.i64 (cuF l a e n f).fst.snd)], str (cuF l a e n f).2]) ∧ (b = false → ∃ (r : D), D.bin BinOp.add (D.v (Value.int IntKind.i64 a)) (D.v (Value.int IntKind.i64 n)) = some r ∧ ∃ (r_3 : D), (str l).cutS (some (D.v (Value.int IntKind.i64 a))) (some r) = some r_3 ∧ ∃ (r : D), D.bin BinOp.add (D.v (Value.int IntKind.i64 a)) (D.v (Value.int IntKind.i64 n)) = some r ∧ ((∃ (y : Value), str l = D.v y) ∧ (∃ (y : Value), r = D.v y) ∧ (∃ (y : Value), D.v (Value.int IntKind.i64 e) = D.v y) ∧ (∃ (y : Value), r_3 = D.v y) ∧ True) ∧ [D.agg [str l, r, D.v (Value.int IntKind.i64 e)], r_3] = [D.agg [str l, D.v (Value.int IntKind.i64 (cuF l a e n f).fst.fst), D.v (Value.int IntKind.i64 (cuF l a e n f).fst.snd)], str (cuF l a e n f).2]))))) := by kernel_rfl
set_option maxHeartbeats 4000000 in
theorem cut (l : List Int) (a e : Int) (n : Int) (f : Bool) (a0 : -9223372036854775808 ≤ a) (a1 : a ≤ 9223372036854775807) (hB : Bytes l) (hl : l.length ≤ 9223372036854775807) (hf : f = true → 0 ≤ n) (n1 : n ≤ 9223372036854775807) : PureD Try.prog 54 [.agg [str (l), .v (.int .i64 (a)), .v (.int .i64 (e))], .v (.int .i64 n), .v (.bool f)] [.agg [str (l), .v (.int .i64 ((cuF l a e n f).1.1)), .v (.int .i64 ((cuF l a e n f).1.2))], str (cuF l a e n f).2] := by
  refine pure_cond (Lp := (fun _ => none)) (by kernel_rfl) Try.func54 (by kernel_rfl) (by kernel_rfl) ?_
  rw [vc_cut l a e n f]
  have W := within l a e
  by_cases he : e = 0
  · cases hw : wiF l a
    · have L : cuF l a e n f = ((a, 8), []) := by unfold cuF; rw [if_neg (by omega), if_pos hw]
      rw [hw] at W
      rw [L]
      repeat' (first
        | (refine ex_some (by simp (disch := omega) only [bin_shr, bin_shl, bin_and, bin_or, bin_xor, len_str, toStr_ofL, bin_add, bin_sub, bin_mul, bin_quo, bin_rem, bin_lss, bin_leq, bin_gtr, bin_geq, bin_eql, bin_neq, eqs_cn, eqs_ci, eqs_cb, eqs_cs, Option.map_some, lenT_ofL, lst_ofL, lstSz_ofL, chunk_one, lst_nil, lst_sl, lstSz_sl, lstSz_nil, Bool.and_true, Bool.true_and, Bool.and_false, Bool.false_and, beq_self_eq_true, beq_bb, bne_bb, un_not, un_neg, conv_int, min2_int, max2_int, w64, w32, wu8, wu16, wu32, wu64, tdiv_nn, tmod_nn, cell_zero, cell_succ, cell_v, cells_v, cells_agg, Bool.not_true, Bool.not_false, Int.reduceLT, Int.reduceLE, Int.reduceEq, Int.reduceNeg, Int.reduceAdd, Int.reduceSub, Int.reduceMul, intOf_v, decide_true, decide_false]; rfl) ?_)
        | (refine ex_bool ?_)
        | (exact notAgg_v _)
        | (refine ex_some K ?_)
        | (refine ⟨_, W, ?_⟩)
        | (refine And.intro ?_ ?_)
        | (intro hx; have hprop := (show ∀ (p : Prop), p → True from fun _ _ => True.intro) _ hx; clear hprop; first | (cases hx; done) | (exfalso; revert hx; simp (disch := omega) only [decide_eq_true_eq, decide_eq_false_iff_not, Bool.not_eq_true', Bool.not_eq_false', Bool.and_eq_true, Bool.and_eq_false_iff, Int.not_lt, Int.not_le, ne_eq, not_false_eq_true, not_true_eq_false, reduceCtorEq, Bool.true_eq_false, Bool.false_eq_true, beq_iff_eq, bne_iff_ne, beq_eq_false_iff_ne, false_or, or_false, true_and, and_true]; done) | (simp (disch := omega) only [decide_eq_true_eq, decide_eq_false_iff_not, Bool.not_eq_true', Bool.not_eq_false', Bool.and_eq_true, Bool.and_eq_false_iff, Int.not_lt, Int.not_le, ne_eq, not_false_eq_true, not_true_eq_false, reduceCtorEq, Bool.true_eq_false, Bool.false_eq_true, beq_iff_eq, bne_iff_ne, beq_eq_false_iff_ne, false_or, or_false, true_and, and_true] at hx; first | (exfalso; omega) | skip) | skip)
        | trivial
        | exact fit_ofL _ _
        | (simp (disch := omega) only [notAgg_v, notAgg_sl, plain_v, fits, fitsOne, fitsCells, xsOf, cell_zero, cell_succ, List.range, List.range.loop, List.map, cond_true, cond_false, D.v.injEq, exists_eq', exists_eq, and_self, and_true, true_and, D.agg.injEq, List.length, exists_eq_left', D.sl.injEq, reduceCtorEq, false_or, true_or, or_true, or_false, cell_zero, cell_succ, cell_v, cells_v, cells_agg, List.length_cons, List.length_nil]; done))
      all_goals first | (exfalso; omega) | exact ⟨_, rfl⟩ | rfl | (simp; done) | fail
    · have hw2 : 0 ≤ a ∧ a ≤ (l.length : Nat) := by simpa [wiF] using hw
      rw [hw] at W
      cases f
      · have L : cuF l a e n false = ((a, 2), []) := by unfold cuF; rw [if_neg (by omega), if_neg (by rw [hw]; simp), if_pos rfl]
        rw [L]
        repeat' (first
          | (refine ex_some (by simp (disch := omega) only [bin_shr, bin_shl, bin_and, bin_or, bin_xor, len_str, toStr_ofL, bin_add, bin_sub, bin_mul, bin_quo, bin_rem, bin_lss, bin_leq, bin_gtr, bin_geq, bin_eql, bin_neq, eqs_cn, eqs_ci, eqs_cb, eqs_cs, Option.map_some, lenT_ofL, lst_ofL, lstSz_ofL, chunk_one, lst_nil, lst_sl, lstSz_sl, lstSz_nil, Bool.and_true, Bool.true_and, Bool.and_false, Bool.false_and, beq_self_eq_true, beq_bb, bne_bb, un_not, un_neg, conv_int, min2_int, max2_int, w64, w32, wu8, wu16, wu32, wu64, tdiv_nn, tmod_nn, cell_zero, cell_succ, cell_v, cells_v, cells_agg, Bool.not_true, Bool.not_false, Int.reduceLT, Int.reduceLE, Int.reduceEq, Int.reduceNeg, Int.reduceAdd, Int.reduceSub, Int.reduceMul, intOf_v, decide_true, decide_false]; rfl) ?_)
          | (refine ex_bool ?_)
          | (exact notAgg_v _)
          | (refine ex_some K ?_)
          | (refine ⟨_, W, ?_⟩)
          | (refine And.intro ?_ ?_)
          | (intro hx; have hprop := (show ∀ (p : Prop), p → True from fun _ _ => True.intro) _ hx; clear hprop; first | (cases hx; done) | (exfalso; revert hx; simp (disch := omega) only [decide_eq_true_eq, decide_eq_false_iff_not, Bool.not_eq_true', Bool.not_eq_false', Bool.and_eq_true, Bool.and_eq_false_iff, Int.not_lt, Int.not_le, ne_eq, not_false_eq_true, not_true_eq_false, reduceCtorEq, Bool.true_eq_false, Bool.false_eq_true, beq_iff_eq, bne_iff_ne, beq_eq_false_iff_ne, false_or, or_false, true_and, and_true]; done) | (simp (disch := omega) only [decide_eq_true_eq, decide_eq_false_iff_not, Bool.not_eq_true', Bool.not_eq_false', Bool.and_eq_true, Bool.and_eq_false_iff, Int.not_lt, Int.not_le, ne_eq, not_false_eq_true, not_true_eq_false, reduceCtorEq, Bool.true_eq_false, Bool.false_eq_true, beq_iff_eq, bne_iff_ne, beq_eq_false_iff_ne, false_or, or_false, true_and, and_true] at hx; first | (exfalso; omega) | skip) | skip)
          | trivial
          | exact fit_ofL _ _
          | (simp (disch := omega) only [notAgg_v, notAgg_sl, plain_v, fits, fitsOne, fitsCells, xsOf, cell_zero, cell_succ, List.range, List.range.loop, List.map, cond_true, cond_false, D.v.injEq, exists_eq', exists_eq, and_self, and_true, true_and, D.agg.injEq, List.length, exists_eq_left', D.sl.injEq, reduceCtorEq, false_or, true_or, or_true, or_false, cell_zero, cell_succ, cell_v, cells_v, cells_agg, List.length_cons, List.length_nil]; done))
        all_goals first | (exfalso; omega) | exact ⟨_, rfl⟩ | rfl | (simp; done) | fail
      · have hn := hf rfl
        by_cases hc : n > (l.length : Nat) - a
        · have L : cuF l a e n true = ((a, 3), []) := by unfold cuF; rw [if_neg (by omega), if_neg (by rw [hw]; simp), if_neg (by simp), if_pos hc]
          rw [L]
          repeat' (first
            | (refine ex_some (by simp (disch := omega) only [bin_shr, bin_shl, bin_and, bin_or, bin_xor, len_str, toStr_ofL, bin_add, bin_sub, bin_mul, bin_quo, bin_rem, bin_lss, bin_leq, bin_gtr, bin_geq, bin_eql, bin_neq, eqs_cn, eqs_ci, eqs_cb, eqs_cs, Option.map_some, lenT_ofL, lst_ofL, lstSz_ofL, chunk_one, lst_nil, lst_sl, lstSz_sl, lstSz_nil, Bool.and_true, Bool.true_and, Bool.and_false, Bool.false_and, beq_self_eq_true, beq_bb, bne_bb, un_not, un_neg, conv_int, min2_int, max2_int, w64, w32, wu8, wu16, wu32, wu64, tdiv_nn, tmod_nn, cell_zero, cell_succ, cell_v, cells_v, cells_agg, Bool.not_true, Bool.not_false, Int.reduceLT, Int.reduceLE, Int.reduceEq, Int.reduceNeg, Int.reduceAdd, Int.reduceSub, Int.reduceMul, intOf_v, decide_true, decide_false]; rfl) ?_)
            | (refine ex_bool ?_)
            | (exact notAgg_v _)
            | (refine ex_some K ?_)
            | (refine ⟨_, W, ?_⟩)
            | (refine And.intro ?_ ?_)
            | (intro hx; have hprop := (show ∀ (p : Prop), p → True from fun _ _ => True.intro) _ hx; clear hprop; first | (cases hx; done) | (exfalso; revert hx; simp (disch := omega) only [decide_eq_true_eq, decide_eq_false_iff_not, Bool.not_eq_true', Bool.not_eq_false', Bool.and_eq_true, Bool.and_eq_false_iff, Int.not_lt, Int.not_le, ne_eq, not_false_eq_true, not_true_eq_false, reduceCtorEq, Bool.true_eq_false, Bool.false_eq_true, beq_iff_eq, bne_iff_ne, beq_eq_false_iff_ne, false_or, or_false, true_and, and_true]; done) | (simp (disch := omega) only [decide_eq_true_eq, decide_eq_false_iff_not, Bool.not_eq_true', Bool.not_eq_false', Bool.and_eq_true, Bool.and_eq_false_iff, Int.not_lt, Int.not_le, ne_eq, not_false_eq_true, not_true_eq_false, reduceCtorEq, Bool.true_eq_false, Bool.false_eq_true, beq_iff_eq, bne_iff_ne, beq_eq_false_iff_ne, false_or, or_false, true_and, and_true] at hx; first | (exfalso; omega) | skip) | skip)
            | trivial
            | exact fit_ofL _ _
            | (simp (disch := omega) only [notAgg_v, notAgg_sl, plain_v, fits, fitsOne, fitsCells, xsOf, cell_zero, cell_succ, List.range, List.range.loop, List.map, cond_true, cond_false, D.v.injEq, exists_eq', exists_eq, and_self, and_true, true_and, D.agg.injEq, List.length, exists_eq_left', D.sl.injEq, reduceCtorEq, false_or, true_or, or_true, or_false, cell_zero, cell_succ, cell_v, cells_v, cells_agg, List.length_cons, List.length_nil]; done))
          all_goals first | (exfalso; omega) | exact ⟨_, rfl⟩ | rfl | (simp; done) | fail
        · have L : cuF l a e n true = ((a + n, e), (l.drop a.toNat).take n.toNat) := by unfold cuF; rw [if_neg (by omega), if_neg (by rw [hw]; simp), if_neg (by simp), if_neg hc]
          have K := cutS_str l (dl := some (.v (.int .i64 a))) (dh := some (.v (.int .i64 (a + n)))) (a := a) (b := a + n) rfl rfl (by omega) (by omega) (by omega)
          rw [show (a + n).toNat - a.toNat = n.toNat by omega] at K
          rw [L]
          repeat' (first
            | (refine ex_some (by simp (disch := omega) only [bin_shr, bin_shl, bin_and, bin_or, bin_xor, len_str, toStr_ofL, bin_add, bin_sub, bin_mul, bin_quo, bin_rem, bin_lss, bin_leq, bin_gtr, bin_geq, bin_eql, bin_neq, eqs_cn, eqs_ci, eqs_cb, eqs_cs, Option.map_some, lenT_ofL, lst_ofL, lstSz_ofL, chunk_one, lst_nil, lst_sl, lstSz_sl, lstSz_nil, Bool.and_true, Bool.true_and, Bool.and_false, Bool.false_and, beq_self_eq_true, beq_bb, bne_bb, un_not, un_neg, conv_int, min2_int, max2_int, w64, w32, wu8, wu16, wu32, wu64, tdiv_nn, tmod_nn, cell_zero, cell_succ, cell_v, cells_v, cells_agg, Bool.not_true, Bool.not_false, Int.reduceLT, Int.reduceLE, Int.reduceEq, Int.reduceNeg, Int.reduceAdd, Int.reduceSub, Int.reduceMul, intOf_v, decide_true, decide_false]; rfl) ?_)
            | (refine ex_bool ?_)
            | (exact notAgg_v _)
            | (refine ex_some K ?_)
            | (refine ⟨_, W, ?_⟩)
            | (refine And.intro ?_ ?_)
            | (intro hx; have hprop := (show ∀ (p : Prop), p → True from fun _ _ => True.intro) _ hx; clear hprop; first | (cases hx; done) | (exfalso; revert hx; simp (disch := omega) only [decide_eq_true_eq, decide_eq_false_iff_not, Bool.not_eq_true', Bool.not_eq_false', Bool.and_eq_true, Bool.and_eq_false_iff, Int.not_lt, Int.not_le, ne_eq, not_false_eq_true, not_true_eq_false, reduceCtorEq, Bool.true_eq_false, Bool.false_eq_true, beq_iff_eq, bne_iff_ne, beq_eq_false_iff_ne, false_or, or_false, true_and, and_true]; done) | (simp (disch := omega) only [decide_eq_true_eq, decide_eq_false_iff_not, Bool.not_eq_true', Bool.not_eq_false', Bool.and_eq_true, Bool.and_eq_false_iff, Int.not_lt, Int.not_le, ne_eq, not_false_eq_true, not_true_eq_false, reduceCtorEq, Bool.true_eq_false, Bool.false_eq_true, beq_iff_eq, bne_iff_ne, beq_eq_false_iff_ne, false_or, or_false, true_and, and_true] at hx; first | (exfalso; omega) | skip) | skip)
            | trivial
            | exact fit_ofL _ _
            | (simp (disch := omega) only [notAgg_v, notAgg_sl, plain_v, fits, fitsOne, fitsCells, xsOf, cell_zero, cell_succ, List.range, List.range.loop, List.map, cond_true, cond_false, D.v.injEq, exists_eq', exists_eq, and_self, and_true, true_and, D.agg.injEq, List.length, exists_eq_left', D.sl.injEq, reduceCtorEq, false_or, true_or, or_true, or_false, cell_zero, cell_succ, cell_v, cells_v, cells_agg, List.length_cons, List.length_nil]; done))
          all_goals first | (exfalso; omega) | exact ⟨_, rfl⟩ | rfl | (simp; done) | fail
  · have L : cuF l a e n f = ((a, e), []) := by unfold cuF; rw [if_pos he]
    rw [L]
    repeat' (first
      | (refine ex_some (by simp (disch := omega) only [bin_shr, bin_shl, bin_and, bin_or, bin_xor, len_str, toStr_ofL, bin_add, bin_sub, bin_mul, bin_quo, bin_rem, bin_lss, bin_leq, bin_gtr, bin_geq, bin_eql, bin_neq, eqs_cn, eqs_ci, eqs_cb, eqs_cs, Option.map_some, lenT_ofL, lst_ofL, lstSz_ofL, chunk_one, lst_nil, lst_sl, lstSz_sl, lstSz_nil, Bool.and_true, Bool.true_and, Bool.and_false, Bool.false_and, beq_self_eq_true, beq_bb, bne_bb, un_not, un_neg, conv_int, min2_int, max2_int, w64, w32, wu8, wu16, wu32, wu64, tdiv_nn, tmod_nn, cell_zero, cell_succ, cell_v, cells_v, cells_agg, Bool.not_true, Bool.not_false, Int.reduceLT, Int.reduceLE, Int.reduceEq, Int.reduceNeg, Int.reduceAdd, Int.reduceSub, Int.reduceMul, intOf_v, decide_true, decide_false]; rfl) ?_)
      | (refine ex_bool ?_)
      | (exact notAgg_v _)
      | (refine ex_some K ?_)
      | (refine ⟨_, W, ?_⟩)
      | (refine And.intro ?_ ?_)
      | (intro hx; have hprop := (show ∀ (p : Prop), p → True from fun _ _ => True.intro) _ hx; clear hprop; first | (cases hx; done) | (exfalso; revert hx; simp (disch := omega) only [decide_eq_true_eq, decide_eq_false_iff_not, Bool.not_eq_true', Bool.not_eq_false', Bool.and_eq_true, Bool.and_eq_false_iff, Int.not_lt, Int.not_le, ne_eq, not_false_eq_true, not_true_eq_false, reduceCtorEq, Bool.true_eq_false, Bool.false_eq_true, beq_iff_eq, bne_iff_ne, beq_eq_false_iff_ne, false_or, or_false, true_and, and_true]; done) | (simp (disch := omega) only [decide_eq_true_eq, decide_eq_false_iff_not, Bool.not_eq_true', Bool.not_eq_false', Bool.and_eq_true, Bool.and_eq_false_iff, Int.not_lt, Int.not_le, ne_eq, not_false_eq_true, not_true_eq_false, reduceCtorEq, Bool.true_eq_false, Bool.false_eq_true, beq_iff_eq, bne_iff_ne, beq_eq_false_iff_ne, false_or, or_false, true_and, and_true] at hx; first | (exfalso; omega) | skip) | skip)
      | trivial
      | exact fit_ofL _ _
      | (simp (disch := omega) only [notAgg_v, notAgg_sl, plain_v, fits, fitsOne, fitsCells, xsOf, cell_zero, cell_succ, List.range, List.range.loop, List.map, cond_true, cond_false, D.v.injEq, exists_eq', exists_eq, and_self, and_true, true_and, D.agg.injEq, List.length, exists_eq_left', D.sl.injEq, reduceCtorEq, false_or, true_or, or_true, or_false, cell_zero, cell_succ, cell_v, cells_v, cells_agg, List.length_cons, List.length_nil]; done))
    all_goals first | (exfalso; omega) | exact ⟨_, rfl⟩ | rfl | (simp; done) | fail

theorem vc_number (l : List Int) (a e : Int) (n : Int) : Cond Try.prog (fun k => if k = 4 then some ⟨[23, 7], [], [2, 4, 6, 22], []⟩ else none) Try.f46 [.agg [str (l), .v (.int .i64 (a)), .v (.int .i64 (e))], .v (.int .i64 n)] [.agg [str (l), .v (.int .i64 ((cuF l a e n (decide (1 ≤ n ∧ n ≤ 7))).1.1)), .v (.int .i64 ((cuF l a e n (decide (1 ≤ n ∧ n ≤ 7))).1.2))], .v (.int .i64 (vN (cuF l a e n (decide (1 ≤ n ∧ n ≤ 7))).2))] = (((∃ (cs : List D), D.agg [str l, D.v (Value.int IntKind.i64 a), D.v (Value.int IntKind.i64 e)] = D.agg cs ∧ cs.length = 3) ∧ NotAgg (D.v (Value.int IntKind.i64 n)) ∧ True) ∧ ∃ (r : D), D.bin BinOp.geq (D.v (Value.int IntKind.i64 n)) (D.v (Value.int IntKind.i64 1)) = some r ∧ ∃ (b : Bool), r = D.v (Value.bool b) ∧ (b = true → ∃ (r : D), D.bin BinOp.leq (D.v (Value.int IntKind.i64 n)) (D.v (Value.int IntKind.i64 7)) = some r ∧ ∃ (r_1 : D), ∃ (r_2 : D), PureD Try.prog 54 [D.agg [str l, D.v (Value.int IntKind.i64 a), D.v (Value.int IntKind.i64 e)], D.v (Value.int IntKind.i64 n), r] [r_1, r_2] ∧ fits [(true, [none, none, none]), (false, [none])] [r_1, r_2] ∧ ∃ (r : D), D.lenT TypeDesc.string r_2 = some r ∧ ∃ (I : List D → Prop), ∃ (μ : List D → Nat), ((D.v (Value.int IntKind.i64 0) = D.v (Value.int IntKind.i64 0) ∧ D.v (Value.int IntKind.i64 0) = D.v (Value.int IntKind.i64 0) ∧ (true = true ∧ true = true) ∧ (true = true ∧ true = true) ∧ r_2 = r_2 ∧ r = r ∧ True) ∧ ((r_1.cell 0 = r_1.cell 0 ∧ r_1.cell 1 = r_1.cell 1 ∧ r_1.cell 2 = r_1.cell 2 ∧ True) ∧ (D.v (Value.string { data := { toList := [] } }) = D.v (Value.string { data := { toList := [] } }) ∧ D.v (Value.int IntKind.i64 0) = D.v (Value.int IntKind.i64 0) ∧ D.v (Value.int IntKind.i64 0) = D.v (Value.int IntKind.i64 0) ∧ True) ∧ True) ∧ I [D.v (Value.int IntKind.i64 0), D.v (Value.int IntKind.i64 0)]) ∧ ∀ (r_3 r_4 : D), I [r_3, r_4] → ∃ (r_5 : D), D.bin BinOp.lss r_3 r = some r_5 ∧ ∃ (b : Bool), r_5 = D.v (Value.bool b) ∧ (b = true → ∃ (r_6 : D), D.bin BinOp.shl r_4 (D.v (Value.int IntKind.u64 8)) = some r_6 ∧ r_2.sinb r_3 ∧ ∃ (r_7 : D), D.conv IntKind.i64 (r_2.byteAt r_3) = some r_7 ∧ ∃ (r_8 : D), D.bin BinOp.or r_6 r_7 = some r_8 ∧ ∃ (r_9 : D), D.bin BinOp.add r_3 (D.v (Value.int IntKind.i64 1)) = some r_9 ∧ (r_9 = r_9 ∧ r_8 = r_8 ∧ (true = true ∧ true = true) ∧ (true = true ∧ true = true) ∧ r_2 = r_2 ∧ r = r ∧ True) ∧ ((r_1.cell 0 = r_1.cell 0 ∧ r_1.cell 1 = r_1.cell 1 ∧ r_1.cell 2 = r_1.cell 2 ∧ True) ∧ (D.v (Value.string { data := { toList := [] } }) = D.v (Value.string { data := { toList := [] } }) ∧ D.v (Value.int IntKind.i64 0) = D.v (Value.int IntKind.i64 0) ∧ D.v (Value.int IntKind.i64 0) = D.v (Value.int IntKind.i64 0) ∧ True) ∧ True) ∧ I [r_9, r_8] ∧ μ [r_9, r_8] < μ [r_3, r_4]) ∧ (b = false → ((∃ (y : Value), r_1.cell 0 = D.v y) ∧ (∃ (y : Value), r_1.cell 1 = D.v y) ∧ (∃ (y : Value), r_1.cell 2 = D.v y) ∧ (∃ (y : Value), r_4 = D.v y) ∧ True) ∧ [D.agg [r_1.cell 0, r_1.cell 1, r_1.cell 2], r_4] = [D.agg [str l, D.v (Value.int IntKind.i64 (cuF l a e n (decide (1 ≤ n ∧ n ≤ 7))).fst.fst), D.v (Value.int IntKind.i64 (cuF l a e n (decide (1 ≤ n ∧ n ≤ 7))).fst.snd)], D.v (Value.int IntKind.i64 (vN (cuF l a e n (decide (1 ≤ n ∧ n ≤ 7))).2))])) ∧ (b = false → ∃ (r : D), ∃ (r_1 : D), PureD Try.prog 54 [D.agg [str l, D.v (Value.int IntKind.i64 a), D.v (Value.int IntKind.i64 e)], D.v (Value.int IntKind.i64 n), D.v (Value.bool false)] [r, r_1] ∧ fits [(true, [none, none, none]), (false, [none])] [r, r_1] ∧ ∃ (r_2 : D), D.lenT TypeDesc.string r_1 = some r_2 ∧ ∃ (I : List D → Prop), ∃ (μ : List D → Nat), ((D.v (Value.int IntKind.i64 0) = D.v (Value.int IntKind.i64 0) ∧ D.v (Value.int IntKind.i64 0) = D.v (Value.int IntKind.i64 0) ∧ (true = true ∧ true = true) ∧ (true = true ∧ true = true) ∧ r_1 = r_1 ∧ r_2 = r_2 ∧ True) ∧ ((r.cell 0 = r.cell 0 ∧ r.cell 1 = r.cell 1 ∧ r.cell 2 = r.cell 2 ∧ True) ∧ (D.v (Value.string { data := { toList := [] } }) = D.v (Value.string { data := { toList := [] } }) ∧ D.v (Value.int IntKind.i64 0) = D.v (Value.int IntKind.i64 0) ∧ D.v (Value.int IntKind.i64 0) = D.v (Value.int IntKind.i64 0) ∧ True) ∧ True) ∧ I [D.v (Value.int IntKind.i64 0), D.v (Value.int IntKind.i64 0)]) ∧ ∀ (r_3 r_4 : D), I [r_3, r_4] → ∃ (r_5 : D), D.bin BinOp.lss r_3 r_2 = some r_5 ∧ ∃ (b : Bool), r_5 = D.v (Value.bool b) ∧ (b = true → ∃ (r_6 : D), D.bin BinOp.shl r_4 (D.v (Value.int IntKind.u64 8)) = some r_6 ∧ r_1.sinb r_3 ∧ ∃ (r_7 : D), D.conv IntKind.i64 (r_1.byteAt r_3) = some r_7 ∧ ∃ (r_8 : D), D.bin BinOp.or r_6 r_7 = some r_8 ∧ ∃ (r_9 : D), D.bin BinOp.add r_3 (D.v (Value.int IntKind.i64 1)) = some r_9 ∧ (r_9 = r_9 ∧ r_8 = r_8 ∧ (true = true ∧ true = true) ∧ (true = true ∧ true = true) ∧ r_1 = r_1 ∧ r_2 = r_2 ∧ True) ∧ ((r.cell 0 = r.cell 0 ∧ r.cell 1 = r.cell 1 ∧ r.cell 2 = r.cell 2 ∧ True) ∧ (D.v (Value.string { data := { toList := [] } }) = D.v (Value.string { data := { toList := [] } }) ∧ D.v (Value.int IntKind.i64 0) = D.v (Value.int IntKind.i64 0) ∧ D.v (Value.int IntKind.i64 0) = D.v (Value.int IntKind.i64 0) ∧ True) ∧ True) ∧ I [r_9, r_8] ∧ μ [r_9, r_8] < μ [r_3, r_4]) ∧ (b = false → ((∃ (y : Value), r.cell 0 = D.v y) ∧ (∃ (y : Value), r.cell 1 = D.v y) ∧ (∃ (y : Value), r.cell 2 = D.v y) ∧ (∃ (y : Value), r_4 = D.v y) ∧ True) ∧ [D.agg [r.cell 0, r.cell 1, r.cell 2], r_4] = [D.agg [str l, D.v (Value.int IntKind.i64 (cuF l a e n (decide (1 ≤ n ∧ n ≤ 7))).fst.fst), D.v (Value.int IntKind.i64 (cuF l a e n (decide (1 ≤ n ∧ n ≤ 7))).fst.snd)], D.v (Value.int IntKind.i64 (vN (cuF l a e n (decide (1 ≤ n ∧ n ≤ 7))).2))]))) := by kernel_rfl
set_option maxHeartbeats 4000000 in
theorem number (l : List Int) (a e : Int) (n : Int) (a0 : -9223372036854775808 ≤ a) (a1 : a ≤ 9223372036854775807) (hB : Bytes l) (hl : l.length ≤ 9223372036854775807) (n1 : n ≤ 9223372036854775807) : PureD Try.prog 46 [.agg [str (l), .v (.int .i64 (a)), .v (.int .i64 (e))], .v (.int .i64 n)] [.agg [str (l), .v (.int .i64 ((cuF l a e n (decide (1 ≤ n ∧ n ≤ 7))).1.1)), .v (.int .i64 ((cuF l a e n (decide (1 ≤ n ∧ n ≤ 7))).1.2))], .v (.int .i64 (vN (cuF l a e n (decide (1 ≤ n ∧ n ≤ 7))).2))] := by
  refine pure_cond (Lp := (fun k => if k = 4 then some ⟨[23, 7], [], [2, 4, 6, 22], []⟩ else none)) (by kernel_rfl) Try.func46 (by kernel_rfl) (by kernel_rfl) ?_
  rw [vc_number l a e n]
  have hw2 : True := trivial
  have hor : True := trivial
  have C1 := cut l a e n (decide (1 ≤ n ∧ n ≤ 7)) a0 a1 hB hl (by intro h; simp at h; omega) n1
  have hsB := cu_bytes hB a e n (decide (1 ≤ n ∧ n ≤ 7))
  have hsl : (cuF l a e n (decide (1 ≤ n ∧ n ≤ 7))).2.length ≤ 7 := by
    have h := cu_len l a e n (decide (1 ≤ n ∧ n ≤ 7))
    by_cases h7 : 1 ≤ n ∧ n ≤ 7
    · omega
    · have : (cuF l a e n (decide (1 ≤ n ∧ n ≤ 7))).2 = [] := by rw [decide_eq_false h7]; unfold cuF; (repeat' split) <;> first | rfl | (exfalso; simp_all; done)
      rw [this]; simp
  generalize cuF l a e n (decide (1 ≤ n ∧ n ≤ 7)) = R at C1 hsB hsl
  obtain ⟨⟨p, e2⟩, s⟩ := R
  simp only at C1 hsB hsl
  have C2 : ∀ b : Bool, b = decide (1 ≤ n ∧ n ≤ 7) → PureD Try.prog 54 [.agg [str l, .v (.int .i64 a), .v (.int .i64 e)], .v (.int .i64 n), .v (.bool b)] _ := fun b h => by rw [h]; exact C1
  repeat' (first
    | (refine ex_some (by simp (disch := omega) only [bin_shr, bin_shl, bin_and, bin_or, bin_xor, len_str, toStr_ofL, bin_add, bin_sub, bin_mul, bin_quo, bin_rem, bin_lss, bin_leq, bin_gtr, bin_geq, bin_eql, bin_neq, eqs_cn, eqs_ci, eqs_cb, eqs_cs, Option.map_some, lenT_ofL, lst_ofL, lstSz_ofL, chunk_one, lst_nil, lst_sl, lstSz_sl, lstSz_nil, Bool.and_true, Bool.true_and, Bool.and_false, Bool.false_and, beq_self_eq_true, beq_bb, bne_bb, un_not, un_neg, conv_int, min2_int, max2_int, w64, w32, wu8, wu16, wu32, wu64, tdiv_nn, tmod_nn, cell_zero, cell_succ, cell_v, cells_v, cells_agg, Bool.not_true, Bool.not_false, Int.reduceLT, Int.reduceLE, Int.reduceEq, Int.reduceNeg, Int.reduceAdd, Int.reduceSub, Int.reduceMul, intOf_v, decide_true, decide_false, hw2, hor, shl8]; rfl) ?_)
    | (refine ex_bool ?_)
    | (refine ⟨_, _, C2 _ (by first | (rw [eq_comm, decide_eq_true_eq]; omega) | (rw [eq_comm, decide_eq_false_iff_not]; omega) | (by_cases h : n ≤ 7 <;> simp [h] <;> omega)), ?_⟩)
    | (refine ⟨(fun r => ∃ i : Nat, i ≤ s.length ∧ r = [.v (.int .i64 (i : Nat)), .v (.int .i64 (vN (s.take i)))]), leftG s.length, ?_⟩)
    | (refine fun (r2 r3 : D) (hI : (fun r => ∃ i : Nat, i ≤ s.length ∧ r = [.v (.int .i64 (i : Nat)), .v (.int .i64 (vN (s.take i)))]) [r2, r3]) => ?_; obtain ⟨i, hi, hl0⟩ := hI; simp only [List.cons.injEq, and_true] at hl0; obtain ⟨rfl, rfl⟩ := hl0; by_cases hlt : i < s.length <;> first | (have hi1 : i < s.length := (by omega); have hw2 := byteAt_str hsB .i64 (n := i) hi1; have i2 := sinb_str (l := s) .i64 (n := (i : Nat)) (by omega) (by omega); have b2 := hsB.getD i; have hn := vN_take hi1; have hv := vN_low hsB (i := i) (by omega); generalize vN (s.take i) = q at hv hn; generalize s.getD i 0 = b at hw2 b2 hn; have hor := or_low (a := q) (b := b) hv.1 (by omega) b2.1 b2.2; have inl : True := trivial) | (have hii : i = s.length := (by omega); subst hii; rw [List.take_length]; have inl2 : True := trivial))
    | (exact i2)
    | (have := inl; refine ⟨i + 1, by omega, ?_⟩)
    | (refine ⟨0, Nat.zero_le _, ?_⟩)
    | (refine And.intro ?_ ?_)
    | (intro hx; have hprop := (show ∀ (p : Prop), p → True from fun _ _ => True.intro) _ hx; clear hprop; first | (cases hx; done) | (exfalso; revert hx; simp (disch := omega) only [decide_eq_true_eq, decide_eq_false_iff_not, Bool.not_eq_true', Bool.not_eq_false', Bool.and_eq_true, Bool.and_eq_false_iff, Int.not_lt, Int.not_le, ne_eq, not_false_eq_true, not_true_eq_false, reduceCtorEq, Bool.true_eq_false, Bool.false_eq_true, beq_iff_eq, bne_iff_ne, beq_eq_false_iff_ne, false_or, or_false, true_and, and_true, hw2, hor, shl8]; done) | (simp (disch := omega) only [decide_eq_true_eq, decide_eq_false_iff_not, Bool.not_eq_true', Bool.not_eq_false', Bool.and_eq_true, Bool.and_eq_false_iff, Int.not_lt, Int.not_le, ne_eq, not_false_eq_true, not_true_eq_false, reduceCtorEq, Bool.true_eq_false, Bool.false_eq_true, beq_iff_eq, bne_iff_ne, beq_eq_false_iff_ne, false_or, or_false, true_and, and_true, hw2, hor, shl8] at hx; first | (exfalso; omega) | skip) | skip)
    | trivial
    | exact fit_ofL _ _
    | (simp (disch := omega) only [notAgg_v, notAgg_sl, plain_v, fits, fitsOne, fitsCells, xsOf, cell_zero, cell_succ, List.range, List.range.loop, List.map, cond_true, cond_false, D.v.injEq, exists_eq', exists_eq, and_self, and_true, true_and, D.agg.injEq, List.length, exists_eq_left', D.sl.injEq, reduceCtorEq, false_or, true_or, or_true, or_false, cell_zero, cell_succ, cell_v, cells_v, cells_agg, List.length_cons, List.length_nil, hw2, hor, shl8]; done))
  all_goals first
    | (exfalso; omega)
    | exact ⟨_, rfl⟩
    | omega
    | (simp only [leftG]; omega)
    | (rw [hn]; rfl)
    | rfl
    | (simp; done)
    | fail

theorem vc_take (l : List Int) (a e : Int) (n : Int) : Cond Try.prog (fun _ => none) Try.f47 [.agg [str (l), .v (.int .i64 (a)), .v (.int .i64 (e))], .v (.int .i64 n)] [.agg [str (l), .v (.int .i64 ((cuF l a e n (decide (0 ≤ n))).1.1)), .v (.int .i64 ((cuF l a e n (decide (0 ≤ n))).1.2))], str (cuF l a e n (decide (0 ≤ n))).2] = (((∃ (cs : List D), D.agg [str l, D.v (Value.int IntKind.i64 a), D.v (Value.int IntKind.i64 e)] = D.agg cs ∧ cs.length = 3) ∧ NotAgg (D.v (Value.int IntKind.i64 n)) ∧ True) ∧ ∃ (r : D), D.bin BinOp.geq (D.v (Value.int IntKind.i64 n)) (D.v (Value.int IntKind.i64 0)) = some r ∧ ∃ (r_1 : D), ∃ (r_2 : D), PureD Try.prog 54 [D.agg [str l, D.v (Value.int IntKind.i64 a), D.v (Value.int IntKind.i64 e)], D.v (Value.int IntKind.i64 n), r] [r_1, r_2] ∧ fits [(true, [none, none, none]), (false, [none])] [r_1, r_2] ∧ ((∃ (y : Value), r_1.cell 0 = D.v y) ∧ (∃ (y : Value), r_1.cell 1 = D.v y) ∧ (∃ (y : Value), r_1.cell 2 = D.v y) ∧ (∃ (y : Value), r_2 = D.v y) ∧ True) ∧ [D.agg [r_1.cell 0, r_1.cell 1, r_1.cell 2], r_2] = [D.agg [str l, D.v (Value.int IntKind.i64 (cuF l a e n (decide (0 ≤ n))).fst.fst), D.v (Value.int IntKind.i64 (cuF l a e n (decide (0 ≤ n))).fst.snd)], str (cuF l a e n (decide (0 ≤ n))).2]) := by kernel_rfl
theorem take (l : List Int) (a e : Int) (n : Int) (a0 : -9223372036854775808 ≤ a) (a1 : a ≤ 9223372036854775807) (hB : Bytes l) (hl : l.length ≤ 9223372036854775807) (n1 : n ≤ 9223372036854775807) : PureD Try.prog 47 [.agg [str (l), .v (.int .i64 (a)), .v (.int .i64 (e))], .v (.int .i64 n)] [.agg [str (l), .v (.int .i64 ((cuF l a e n (decide (0 ≤ n))).1.1)), .v (.int .i64 ((cuF l a e n (decide (0 ≤ n))).1.2))], str (cuF l a e n (decide (0 ≤ n))).2] := by
  refine pure_cond (Lp := (fun _ => none)) (by kernel_rfl) Try.func47 (by kernel_rfl) (by kernel_rfl) ?_
  rw [vc_take l a e n]
  have C1 := cut l a e n (decide (0 ≤ n)) a0 a1 hB hl (by intro h; simpa using h) n1
  repeat' (first
    | (refine ex_some (by simp (disch := omega) only [bin_shr, bin_shl, bin_and, bin_or, bin_xor, len_str, toStr_ofL, bin_add, bin_sub, bin_mul, bin_quo, bin_rem, bin_lss, bin_leq, bin_gtr, bin_geq, bin_eql, bin_neq, eqs_cn, eqs_ci, eqs_cb, eqs_cs, Option.map_some, lenT_ofL, lst_ofL, lstSz_ofL, chunk_one, lst_nil, lst_sl, lstSz_sl, lstSz_nil, Bool.and_true, Bool.true_and, Bool.and_false, Bool.false_and, beq_self_eq_true, beq_bb, bne_bb, un_not, un_neg, conv_int, min2_int, max2_int, w64, w32, wu8, wu16, wu32, wu64, tdiv_nn, tmod_nn, cell_zero, cell_succ, cell_v, cells_v, cells_agg, Bool.not_true, Bool.not_false, Int.reduceLT, Int.reduceLE, Int.reduceEq, Int.reduceNeg, Int.reduceAdd, Int.reduceSub, Int.reduceMul, intOf_v, decide_true, decide_false]; rfl) ?_)
    | (refine ex_bool ?_)
    | (refine ⟨_, _, C1, ?_⟩)
    | (refine And.intro ?_ ?_)
    | (intro hx; have hprop := (show ∀ (p : Prop), p → True from fun _ _ => True.intro) _ hx; clear hprop; first | (cases hx; done) | (exfalso; revert hx; simp (disch := omega) only [decide_eq_true_eq, decide_eq_false_iff_not, Bool.not_eq_true', Bool.not_eq_false', Bool.and_eq_true, Bool.and_eq_false_iff, Int.not_lt, Int.not_le, ne_eq, not_false_eq_true, not_true_eq_false, reduceCtorEq, Bool.true_eq_false, Bool.false_eq_true, beq_iff_eq, bne_iff_ne, beq_eq_false_iff_ne, false_or, or_false, true_and, and_true]; done) | (simp (disch := omega) only [decide_eq_true_eq, decide_eq_false_iff_not, Bool.not_eq_true', Bool.not_eq_false', Bool.and_eq_true, Bool.and_eq_false_iff, Int.not_lt, Int.not_le, ne_eq, not_false_eq_true, not_true_eq_false, reduceCtorEq, Bool.true_eq_false, Bool.false_eq_true, beq_iff_eq, bne_iff_ne, beq_eq_false_iff_ne, false_or, or_false, true_and, and_true] at hx; first | (exfalso; omega) | skip) | skip)
    | trivial
    | exact fit_ofL _ _
    | (simp (disch := omega) only [notAgg_v, notAgg_sl, plain_v, fits, fitsOne, fitsCells, xsOf, cell_zero, cell_succ, List.range, List.range.loop, List.map, cond_true, cond_false, D.v.injEq, exists_eq', exists_eq, and_self, and_true, true_and, D.agg.injEq, List.length, exists_eq_left', D.sl.injEq, reduceCtorEq, false_or, true_or, or_true, or_false, cell_zero, cell_succ, cell_v, cells_v, cells_agg, List.length_cons, List.length_nil]; done))
  all_goals first
    | (exfalso; omega)
    | exact ⟨_, rfl⟩
    | omega
    | (simp only [leftG]; omega)
    | (rw [hn]; rfl)
    | rfl
    | (simp; done)
    | fail

theorem vc_lay (y : D) (bs : List Int) (n : Int) (w : Nat) : Cond Try.prog (fun k => if k = 5 then some ⟨[18], [7], [1, 2, 17], []⟩ else none) Try.f23 [y, .v (.int .i64 n), .v (.int .i64 (w : Nat))] [.sl 1 (ints .u8 (bs ++ be n w))] = ((NotAgg y ∧ NotAgg (D.v (Value.int IntKind.i64 n)) ∧ NotAgg (D.v (Value.int IntKind.i64 ↑w)) ∧ True) ∧ ∃ (ls : List D), (D.sl 1 (chunks false 1 0 [])).lst = some ls ∧ ∃ (lx : List D), D.lstSz 1 y = some lx ∧ (ls.length + lx.length) * 1 ≤ 1099511627776 ∧ ∃ (r : D), PureD Try.prog 41 [D.v (Value.int IntKind.i64 n), D.v (Value.int IntKind.i64 ↑w)] [r] ∧ fits [(false, [none])] [r] ∧ ∃ (r_1 : D), D.un UnOp.not r = some r_1 ∧ ∃ (b : Bool), r_1 = D.v (Value.bool b) ∧ (b = true → (PlainD (D.app 1 (D.sl 1 (chunks false 1 0 [])) lx) ∧ True) ∧ [D.app 1 (D.sl 1 (chunks false 1 0 [])) lx] = [D.sl 1 (ints IntKind.u8 (bs.append (be n w)))]) ∧ (b = false → ∃ (I : List D → Prop), ∃ (μ : List D → Nat), ((D.v (Value.int IntKind.i64 0) = D.v (Value.int IntKind.i64 0) ∧ true = true ∧ D.v (Value.int IntKind.i64 n) = D.v (Value.int IntKind.i64 n) ∧ D.v (Value.int IntKind.i64 ↑w) = D.v (Value.int IntKind.i64 ↑w) ∧ D.v (Value.int IntKind.i64 ↑w) = D.v (Value.int IntKind.i64 ↑w) ∧ True) ∧ ((true = true ∧ D.app 1 (D.sl 1 (chunks false 1 0 [])) lx = D.app 1 (D.sl 1 (chunks false 1 0 [])) lx) ∧ True) ∧ I [D.v (Value.int IntKind.i64 0), D.app 1 (D.sl 1 (chunks false 1 0 [])) lx]) ∧ ∀ (r r_2 : D), I [r, r_2] → ∃ (r_3 : D), D.bin BinOp.lss r (D.v (Value.int IntKind.i64 ↑w)) = some r_3 ∧ ∃ (b : Bool), r_3 = D.v (Value.bool b) ∧ (b = true → ∃ (r_4 : D), D.bin BinOp.sub (D.v (Value.int IntKind.i64 ↑w)) (D.v (Value.int IntKind.i64 1)) = some r_4 ∧ ∃ (r_5 : D), D.bin BinOp.sub r_4 r = some r_5 ∧ ∃ (r_6 : D), D.bin BinOp.mul (D.v (Value.int IntKind.i64 8)) r_5 = some r_6 ∧ ∃ (r_7 : D), D.bin BinOp.shr (D.v (Value.int IntKind.i64 n)) r_6 = some r_7 ∧ ∃ (r_8 : D), D.conv IntKind.u8 r_7 = some r_8 ∧ ∃ (ls : List D), r_2.lst = some ls ∧ ∃ (lx : List D), D.lstSz 1 (D.sl 1 (chunks false 1 1 [r_8])) = some lx ∧ (ls.length + lx.length) * 1 ≤ 1099511627776 ∧ ∃ (r_9 : D), D.bin BinOp.add r (D.v (Value.int IntKind.i64 1)) = some r_9 ∧ (r_9 = r_9 ∧ true = true ∧ D.v (Value.int IntKind.i64 n) = D.v (Value.int IntKind.i64 n) ∧ D.v (Value.int IntKind.i64 ↑w) = D.v (Value.int IntKind.i64 ↑w) ∧ D.v (Value.int IntKind.i64 ↑w) = D.v (Value.int IntKind.i64 ↑w) ∧ True) ∧ ((true = true ∧ D.app 1 r_2 lx = D.app 1 r_2 lx) ∧ True) ∧ I [r_9, D.app 1 r_2 lx] ∧ μ [r_9, D.app 1 r_2 lx] < μ [r, r_2]) ∧ (b = false → (PlainD r_2 ∧ True) ∧ [r_2] = [D.sl 1 (ints IntKind.u8 (bs.append (be n w)))]))) := by kernel_rfl
set_option maxHeartbeats 4000000 in
theorem lay (y : D) (bs : List Int) (n : Int) (w : Nat) (hY : IsL 1 (ints .u8 bs) y) (hbl : bs.length ≤ 100000) (n0 : 0 ≤ n) (hw : 1 ≤ w ∧ w ≤ 7) (hf : fiF n (w : Nat) = true) : PureD Try.prog 23 [y, .v (.int .i64 n), .v (.int .i64 (w : Nat))] [.sl 1 (ints .u8 (bs ++ be n w))] := by
  refine pure_cond (Lp := (fun k => if k = 5 then some ⟨[18], [7], [1, 2, 17], []⟩ else none)) (by kernel_rfl) Try.func23 (by kernel_rfl) (by kernel_rfl) ?_
  rw [vc_lay y bs n w]
  have hsh : True := trivial
  have C1 := fitC n (w : Nat)
  rw [hf] at C1
  have hA : D.app 1 (.sl 1 []) (ints .u8 bs) = .sl 1 (ints .u8 bs) := by rw [app_sl]; rfl
  have hZ := hY.lstSz
  simp only [hY.notAgg, hZ, Option.some.injEq, exists_eq_left']
  repeat' (first
    | (refine ex_some (by simp (disch := omega) only [bin_shr, bin_shl, bin_and, bin_or, bin_xor, len_str, toStr_ofL, bin_add, bin_sub, bin_mul, bin_quo, bin_rem, bin_lss, bin_leq, bin_gtr, bin_geq, bin_eql, bin_neq, eqs_cn, eqs_ci, eqs_cb, eqs_cs, Option.map_some, lenT_ofL, lst_ofL, lstSz_ofL, chunk_one, lst_nil, lst_sl, lstSz_sl, lstSz_nil, Bool.and_true, Bool.true_and, Bool.and_false, Bool.false_and, beq_self_eq_true, beq_bb, bne_bb, un_not, un_neg, conv_int, min2_int, max2_int, w64, w32, wu8, wu16, wu32, wu64, tdiv_nn, tmod_nn, cell_zero, cell_succ, cell_v, cells_v, cells_agg, Bool.not_true, Bool.not_false, Int.reduceLT, Int.reduceLE, Int.reduceEq, Int.reduceNeg, Int.reduceAdd, Int.reduceSub, Int.reduceMul, intOf_v, decide_true, decide_false, hsh, wrap8, hZ]; rfl) ?_)
    | (refine ex_bool ?_)
    | (refine ⟨_, C1, ?_⟩)
    | (refine ⟨(fun r => ∃ i : Nat, i ≤ w ∧ r = [.v (.int .i64 (i : Nat)), .sl 1 (ints .u8 (bs ++ (be n w).take i))]), leftG w, ?_⟩)
    | (refine fun (r2 r3 : D) (hI : (fun r => ∃ i : Nat, i ≤ w ∧ r = [.v (.int .i64 (i : Nat)), .sl 1 (ints .u8 (bs ++ (be n w).take i))]) [r2, r3]) => ?_; obtain ⟨i, hi, hl0⟩ := hI; simp only [List.cons.injEq, and_true] at hl0; obtain ⟨rfl, rfl⟩ := hl0; by_cases hlt : i < w <;> first | (have hjs : i < w := (by omega); obtain ⟨m, hm⟩ : ∃ m : Nat, (w : Int) - 1 - (i : Nat) = (m : Nat) := ⟨w - 1 - i, by omega⟩; have hmj : m = w - 1 - i := (by omega); have hsh : n.fdiv (2 ^ min (8 * ((w : Int) - 1 - (i : Nat))).toNat IntKind.i64.bits) = n / 256 ^ m := (by rw [hm]; exact shr_be (by omega)); have hb : (be n w).take (i + 1) = (be n w).take i ++ [n / 256 ^ m % 256] := (by rw [be_take n (by omega), hmj]); have hll : ((be n w).take i).length ≤ 8 := (by rw [List.length_take, be_len]; omega); have inl : True := trivial) | (have hii : i = w := (by omega); subst hii; rw [List.take_of_length_le (by rw [be_len]; exact Nat.le_refl _)]; have hsh : True := trivial; have inl2 : True := trivial))
    | (have := inl; refine ⟨i + 1, by omega, ?_⟩)
    | (refine ⟨0, Nat.zero_le _, ?_⟩)
    | (refine And.intro ?_ ?_)
    | (intro hx; have hprop := (show ∀ (p : Prop), p → True from fun _ _ => True.intro) _ hx; clear hprop; first | (cases hx; done) | (exfalso; revert hx; simp (disch := omega) only [decide_eq_true_eq, decide_eq_false_iff_not, Bool.not_eq_true', Bool.not_eq_false', Bool.and_eq_true, Bool.and_eq_false_iff, Int.not_lt, Int.not_le, ne_eq, not_false_eq_true, not_true_eq_false, reduceCtorEq, Bool.true_eq_false, Bool.false_eq_true, beq_iff_eq, bne_iff_ne, beq_eq_false_iff_ne, false_or, or_false, true_and, and_true, hsh, wrap8, hZ]; done) | (simp (disch := omega) only [decide_eq_true_eq, decide_eq_false_iff_not, Bool.not_eq_true', Bool.not_eq_false', Bool.and_eq_true, Bool.and_eq_false_iff, Int.not_lt, Int.not_le, ne_eq, not_false_eq_true, not_true_eq_false, reduceCtorEq, Bool.true_eq_false, Bool.false_eq_true, beq_iff_eq, bne_iff_ne, beq_eq_false_iff_ne, false_or, or_false, true_and, and_true, hsh, wrap8, hZ] at hx; first | (exfalso; omega) | skip) | skip)
    | trivial
    | exact fit_ofL _ _
    | (simp (disch := omega) only [notAgg_v, notAgg_sl, plain_v, fits, fitsOne, fitsCells, xsOf, cell_zero, cell_succ, List.range, List.range.loop, List.map, cond_true, cond_false, D.v.injEq, exists_eq', exists_eq, and_self, and_true, true_and, D.agg.injEq, List.length, exists_eq_left', D.sl.injEq, reduceCtorEq, false_or, true_or, or_true, or_false, cell_zero, cell_succ, cell_v, cells_v, cells_agg, List.length_cons, List.length_nil, hsh, wrap8, hZ]; done))
  all_goals first
    | (exfalso; omega)
    | exact ⟨_, rfl⟩
    | omega
    | (simp only [leftG]; omega)
    | (rw [hn]; rfl)
    | rfl
    | exact plain_sl (ints_plain _ _)
    | exact .inr ⟨_, rfl⟩
    | (simp only [ints_length, List.length_append, List.length_cons, List.length_nil]; omega)
    | (rw [hb, app_sl]; simp [ints]; done)
    | (rw [show chunks false 1 0 [] = [] from rfl, hA]; simp; done)
    | (rw [ints_length]; show (0 + bs.length) * 1 ≤ _; omega)
    | (simp; done)
    | fail

end Go.Proofs.Ytioodaefgpkkeaa