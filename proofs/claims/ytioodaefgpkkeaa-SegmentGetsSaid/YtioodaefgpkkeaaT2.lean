/-
  Layer 7: texts with their sums.
-/
import Derived.Test.YtioodaefgpkkeaaT1
namespace Go.Proofs.Ytioodaefgpkkeaa
open Go.RowKit
set_option linter.unusedSimpArgs false
set_option linter.unusedVariables false


def t4 (n : Int) : List Int := [n / 16777216 % 256, n / 65536 % 256, n / 256 % 256, n % 256]
theorem t4_bytes (n : Int) : Bytes (t4 n) := by
  intro x hx
  simp only [t4, List.mem_cons, List.not_mem_nil, or_false] at hx
  rcases hx with rfl | rfl | rfl | rfl <;> omega
theorem t4_len (n : Int) : (t4 n).length = 4 := rfl
def sealF (s : List Int) : List Int := s ++ t4 (sumF s)
theorem seal_bytes {s : List Int} (h : Bytes s) : Bytes (sealF s) := h.append (t4_bytes _)
theorem seal_len (s : List Int) : (sealF s).length = s.length + 4 := by simp [sealF, t4]
def unF (s : List Int) : List Int × Int := if s.length < 4 then ([], 3) else if s = sealF (s.take (s.length - 4)) then (s.take (s.length - 4), 0) else ([], 11)
theorem wrap8 (x : Int) : IntKind.u8.wrap x = x % 256 := rfl
theorem ch4 (a b c d : D) : chunks false 1 4 [a, b, c, d] = [a, b, c, d] := rfl
theorem ts4 (a b c d : Int) : D.toStr (.sl 1 [.v (.int .u8 a), .v (.int .u8 b), .v (.int .u8 c), .v (.int .u8 d)]) = some (str [a, b, c, d]) := toStr_ofL [a, b, c, d]
theorem shrk (z : Int) (k : Int) (n : Nat) (v : Int) (e : min k.toNat IntKind.u32.bits = n) (hv : (2 : Int) ^ n = v) : z.fdiv (2 ^ min k.toNat IntKind.u32.bits) = z / v := by
  rw [e, ← hv, Int.fdiv_eq_ediv_of_nonneg _ (Int.pow_nonneg (by decide))]
theorem take_drop4 {s : List Int} (h : 4 ≤ s.length) (k : List Int) : s.drop (s.take (s.length - 4)).length = k ↔ s = s.take (s.length - 4) ++ k := by
  have e : (s.take (s.length - 4)).length = s.length - 4 := by rw [List.length_take]; omega
  rw [e]
  constructor
  · intro hk; rw [← hk, List.take_append_drop]
  · intro hk
    have := List.take_append_drop (s.length - 4) s
    have h2 := this.trans hk
    exact List.append_cancel_left h2

theorem vc_tail (s : List Int) : Cond Try.prog (fun _ => none) Try.f42 [str s] [str (t4 (sumF s))] = ((NotAgg (str s) ∧ True) ∧ ∃ (r : D), PureD Try.prog 52 [str s] [r] ∧ fits [(false, [none])] [r] ∧ ∃ (r_1 : D), D.bin BinOp.shr r (D.v (Value.int IntKind.u64 24)) = some r_1 ∧ ∃ (r_2 : D), D.conv IntKind.u8 r_1 = some r_2 ∧ ∃ (r_3 : D), D.bin BinOp.shr r (D.v (Value.int IntKind.u64 16)) = some r_3 ∧ ∃ (r_4 : D), D.conv IntKind.u8 r_3 = some r_4 ∧ ∃ (r_5 : D), D.bin BinOp.shr r (D.v (Value.int IntKind.u64 8)) = some r_5 ∧ ∃ (r_6 : D), D.conv IntKind.u8 r_5 = some r_6 ∧ ∃ (r_7 : D), D.conv IntKind.u8 r = some r_7 ∧ ∃ (r : D), (D.sl 1 (chunks false 1 4 [r_2, r_4, r_6, r_7])).toStr = some r ∧ ((∃ (y : Value), r = D.v y) ∧ True) ∧ [r] = [str (t4 (sumF s))]) := by kernel_rfl
theorem tail (s : List Int) (hs : Bytes s) (hl : s.length ≤ 100000) : PureD Try.prog 42 [str s] [str (t4 (sumF s))] := by
  refine pure_cond (Lp := (fun _ => none)) (by kernel_rfl) Try.func42 (by kernel_rfl) (by kernel_rfl) ?_
  rw [vc_tail s]
  have M := sum s hs hl
  have sb := sum_bd s
  have h24 := shrk (sumF s) 24 24 16777216 rfl rfl
  have h16 := shrk (sumF s) 16 16 65536 rfl rfl
  have h8 := shrk (sumF s) 8 8 256 rfl rfl
  generalize sumF s = n at M sb h24 h16 h8
  repeat' (first
    | (refine ex_some (by simp (disch := omega) only [bin_shr, bin_shl, bin_and, bin_or, bin_xor, len_str, toStr_ofL, bin_add, bin_sub, bin_mul, bin_quo, bin_rem, bin_lss, bin_leq, bin_gtr, bin_geq, bin_eql, bin_neq, eqs_cn, eqs_ci, eqs_cb, eqs_cs, Option.map_some, lenT_ofL, lst_ofL, lstSz_ofL, chunk_one, lst_nil, lst_sl, lstSz_sl, lstSz_nil, Bool.and_true, Bool.true_and, Bool.and_false, Bool.false_and, beq_self_eq_true, beq_bb, bne_bb, un_not, un_neg, conv_int, min2_int, max2_int, w64, w32, wu8, wu16, wu32, wu64, tdiv_nn, tmod_nn, cell_zero, cell_succ, cell_v, cells_v, cells_agg, Bool.not_true, Bool.not_false, Int.reduceLT, Int.reduceLE, Int.reduceEq, Int.reduceNeg, Int.reduceAdd, Int.reduceSub, Int.reduceMul, intOf_v, decide_true, decide_false, h24, h16, h8, wrap8, ch4, ts4]; rfl) ?_)
    | (refine ex_bool ?_)
    | (refine ⟨_, M, ?_⟩)
    | (refine And.intro ?_ ?_)
    | (intro hx; have hprop := (show ∀ (p : Prop), p → True from fun _ _ => True.intro) _ hx; clear hprop; first | (cases hx; done) | (exfalso; revert hx; simp (disch := omega) only [decide_eq_true_eq, decide_eq_false_iff_not, Bool.not_eq_true', Bool.not_eq_false', Bool.and_eq_true, Bool.and_eq_false_iff, Int.not_lt, Int.not_le, ne_eq, not_false_eq_true, not_true_eq_false, reduceCtorEq, Bool.true_eq_false, Bool.false_eq_true, beq_iff_eq, bne_iff_ne, beq_eq_false_iff_ne, false_or, or_false, true_and, and_true, h24, h16, h8, wrap8, ch4, ts4]; done) | (simp (disch := omega) only [decide_eq_true_eq, decide_eq_false_iff_not, Bool.not_eq_true', Bool.not_eq_false', Bool.and_eq_true, Bool.and_eq_false_iff, Int.not_lt, Int.not_le, ne_eq, not_false_eq_true, not_true_eq_false, reduceCtorEq, Bool.true_eq_false, Bool.false_eq_true, beq_iff_eq, bne_iff_ne, beq_eq_false_iff_ne, false_or, or_false, true_and, and_true, h24, h16, h8, wrap8, ch4, ts4] at hx; first | (exfalso; omega) | skip) | skip)
    | trivial
    | exact fit_ofL _ _
    | (simp (disch := omega) only [notAgg_v, notAgg_sl, plain_v, fits, fitsOne, fitsCells, xsOf, cell_zero, cell_succ, List.range, List.range.loop, List.map, cond_true, cond_false, D.v.injEq, exists_eq', exists_eq, and_self, and_true, true_and, D.agg.injEq, List.length, exists_eq_left', D.sl.injEq, reduceCtorEq, false_or, true_or, or_true, or_false, cell_zero, cell_succ, cell_v, cells_v, cells_agg, List.length_cons, List.length_nil, h24, h16, h8, wrap8, ch4, ts4]; done))
  all_goals first
    | (exfalso; omega)
    | omega
    | rfl
    | (unfold t4; rw [show n / 16777216 % 256 = n / 16777216 by omega]; done)
    | exact ⟨_, rfl⟩
    | exact notAgg_v _
    | (simp; done)
    | fail

theorem vc_four (n : Int) : Cond Try.prog (fun _ => none) Try.f44 [.v (.int .u32 n)] [str (t4 n)] = ((NotAgg (D.v (Value.int IntKind.u32 n)) ∧ True) ∧ ∃ (r : D), D.bin BinOp.quo (D.v (Value.int IntKind.u32 n)) (D.v (Value.int IntKind.u32 16777216)) = some r ∧ ∃ (r_1 : D), D.conv IntKind.u8 r = some r_1 ∧ ∃ (r : D), D.bin BinOp.quo (D.v (Value.int IntKind.u32 n)) (D.v (Value.int IntKind.u32 65536)) = some r ∧ ∃ (r_2 : D), D.bin BinOp.rem r (D.v (Value.int IntKind.u32 256)) = some r_2 ∧ ∃ (r : D), D.conv IntKind.u8 r_2 = some r ∧ ∃ (r_3 : D), D.bin BinOp.quo (D.v (Value.int IntKind.u32 n)) (D.v (Value.int IntKind.u32 256)) = some r_3 ∧ ∃ (r_4 : D), D.bin BinOp.rem r_3 (D.v (Value.int IntKind.u32 256)) = some r_4 ∧ ∃ (r_5 : D), D.conv IntKind.u8 r_4 = some r_5 ∧ ∃ (r_6 : D), D.bin BinOp.rem (D.v (Value.int IntKind.u32 n)) (D.v (Value.int IntKind.u32 256)) = some r_6 ∧ ∃ (r_7 : D), D.conv IntKind.u8 r_6 = some r_7 ∧ ∃ (r_8 : D), (D.sl 1 (chunks false 1 4 [r_1, r, r_5, r_7])).toStr = some r_8 ∧ ((∃ (y : Value), r_8 = D.v y) ∧ True) ∧ [r_8] = [str (t4 n)]) := by kernel_rfl
theorem four (n : Int) (n0 : 0 ≤ n) (n1 : n < 4294967296) : PureD Try.prog 44 [.v (.int .u32 n)] [str (t4 n)] := by
  refine pure_cond (Lp := (fun _ => none)) (by kernel_rfl) Try.func44 (by kernel_rfl) (by kernel_rfl) ?_
  rw [vc_four n]
  repeat' (first
    | (refine ex_some (by simp (disch := omega) only [bin_shr, bin_shl, bin_and, bin_or, bin_xor, len_str, toStr_ofL, bin_add, bin_sub, bin_mul, bin_quo, bin_rem, bin_lss, bin_leq, bin_gtr, bin_geq, bin_eql, bin_neq, eqs_cn, eqs_ci, eqs_cb, eqs_cs, Option.map_some, lenT_ofL, lst_ofL, lstSz_ofL, chunk_one, lst_nil, lst_sl, lstSz_sl, lstSz_nil, Bool.and_true, Bool.true_and, Bool.and_false, Bool.false_and, beq_self_eq_true, beq_bb, bne_bb, un_not, un_neg, conv_int, min2_int, max2_int, w64, w32, wu8, wu16, wu32, wu64, tdiv_nn, tmod_nn, cell_zero, cell_succ, cell_v, cells_v, cells_agg, Bool.not_true, Bool.not_false, Int.reduceLT, Int.reduceLE, Int.reduceEq, Int.reduceNeg, Int.reduceAdd, Int.reduceSub, Int.reduceMul, intOf_v, decide_true, decide_false, wrap8, ch4, ts4]; rfl) ?_)
    | (refine ex_bool ?_)
    | (refine And.intro ?_ ?_)
    | (intro hx; have hprop := (show ∀ (p : Prop), p → True from fun _ _ => True.intro) _ hx; clear hprop; first | (cases hx; done) | (exfalso; revert hx; simp (disch := omega) only [decide_eq_true_eq, decide_eq_false_iff_not, Bool.not_eq_true', Bool.not_eq_false', Bool.and_eq_true, Bool.and_eq_false_iff, Int.not_lt, Int.not_le, ne_eq, not_false_eq_true, not_true_eq_false, reduceCtorEq, Bool.true_eq_false, Bool.false_eq_true, beq_iff_eq, bne_iff_ne, beq_eq_false_iff_ne, false_or, or_false, true_and, and_true, wrap8, ch4, ts4]; done) | (simp (disch := omega) only [decide_eq_true_eq, decide_eq_false_iff_not, Bool.not_eq_true', Bool.not_eq_false', Bool.and_eq_true, Bool.and_eq_false_iff, Int.not_lt, Int.not_le, ne_eq, not_false_eq_true, not_true_eq_false, reduceCtorEq, Bool.true_eq_false, Bool.false_eq_true, beq_iff_eq, bne_iff_ne, beq_eq_false_iff_ne, false_or, or_false, true_and, and_true, wrap8, ch4, ts4] at hx; first | (exfalso; omega) | skip) | skip)
    | trivial
    | exact fit_ofL _ _
    | (simp (disch := omega) only [notAgg_v, notAgg_sl, plain_v, fits, fitsOne, fitsCells, xsOf, cell_zero, cell_succ, List.range, List.range.loop, List.map, cond_true, cond_false, D.v.injEq, exists_eq', exists_eq, and_self, and_true, true_and, D.agg.injEq, List.length, exists_eq_left', D.sl.injEq, reduceCtorEq, false_or, true_or, or_true, or_false, cell_zero, cell_succ, cell_v, cells_v, cells_agg, List.length_cons, List.length_nil, wrap8, ch4, ts4]; done))
  all_goals first
    | (exfalso; omega)
    | omega
    | rfl
    | (unfold t4; rw [show n / 16777216 % 256 = n / 16777216 by omega]; done)
    | exact ⟨_, rfl⟩
    | exact notAgg_v _
    | (simp; done)
    | fail

theorem vc_sealP (s : List Int) : Cond Try.prog (fun _ => none) Try.f24 [str s] [str (sealF s)] = ((NotAgg (str s) ∧ True) ∧ ∃ (r : D), PureD Try.prog 42 [str s] [r] ∧ fits [(false, [none])] [r] ∧ ∃ (r_1 : D), D.bin BinOp.add (str s) r = some r_1 ∧ ((∃ (y : Value), r_1 = D.v y) ∧ True) ∧ [r_1] = [str (sealF s)]) := by kernel_rfl
theorem sealP (s : List Int) (hs : Bytes s) (hl : s.length ≤ 100000) : PureD Try.prog 24 [str s] [str (sealF s)] := by
  refine pure_cond (Lp := (fun _ => none)) (by kernel_rfl) Try.func24 (by kernel_rfl) (by kernel_rfl) ?_
  rw [vc_sealP s]
  have M := tail s hs hl
  have sa := bin_sadd (a := s) (b := t4 (sumF s)) (by rw [t4_len]; omega)
  repeat' (first
    | (refine ex_some (by simp (disch := omega) only [bin_shr, bin_shl, bin_and, bin_or, bin_xor, len_str, toStr_ofL, bin_add, bin_sub, bin_mul, bin_quo, bin_rem, bin_lss, bin_leq, bin_gtr, bin_geq, bin_eql, bin_neq, eqs_cn, eqs_ci, eqs_cb, eqs_cs, Option.map_some, lenT_ofL, lst_ofL, lstSz_ofL, chunk_one, lst_nil, lst_sl, lstSz_sl, lstSz_nil, Bool.and_true, Bool.true_and, Bool.and_false, Bool.false_and, beq_self_eq_true, beq_bb, bne_bb, un_not, un_neg, conv_int, min2_int, max2_int, w64, w32, wu8, wu16, wu32, wu64, tdiv_nn, tmod_nn, cell_zero, cell_succ, cell_v, cells_v, cells_agg, Bool.not_true, Bool.not_false, Int.reduceLT, Int.reduceLE, Int.reduceEq, Int.reduceNeg, Int.reduceAdd, Int.reduceSub, Int.reduceMul, intOf_v, decide_true, decide_false, sa]; rfl) ?_)
    | (refine ex_bool ?_)
    | (refine ⟨_, M, ?_⟩)
    | (refine And.intro ?_ ?_)
    | (intro hx; have hprop := (show ∀ (p : Prop), p → True from fun _ _ => True.intro) _ hx; clear hprop; first | (cases hx; done) | (exfalso; revert hx; simp (disch := omega) only [decide_eq_true_eq, decide_eq_false_iff_not, Bool.not_eq_true', Bool.not_eq_false', Bool.and_eq_true, Bool.and_eq_false_iff, Int.not_lt, Int.not_le, ne_eq, not_false_eq_true, not_true_eq_false, reduceCtorEq, Bool.true_eq_false, Bool.false_eq_true, beq_iff_eq, bne_iff_ne, beq_eq_false_iff_ne, false_or, or_false, true_and, and_true, sa]; done) | (simp (disch := omega) only [decide_eq_true_eq, decide_eq_false_iff_not, Bool.not_eq_true', Bool.not_eq_false', Bool.and_eq_true, Bool.and_eq_false_iff, Int.not_lt, Int.not_le, ne_eq, not_false_eq_true, not_true_eq_false, reduceCtorEq, Bool.true_eq_false, Bool.false_eq_true, beq_iff_eq, bne_iff_ne, beq_eq_false_iff_ne, false_or, or_false, true_and, and_true, sa] at hx; first | (exfalso; omega) | skip) | skip)
    | trivial
    | exact fit_ofL _ _
    | (simp (disch := omega) only [notAgg_v, notAgg_sl, plain_v, fits, fitsOne, fitsCells, xsOf, cell_zero, cell_succ, List.range, List.range.loop, List.map, cond_true, cond_false, D.v.injEq, exists_eq', exists_eq, and_self, and_true, true_and, D.agg.injEq, List.length, exists_eq_left', D.sl.injEq, reduceCtorEq, false_or, true_or, or_true, or_false, cell_zero, cell_succ, cell_v, cells_v, cells_agg, List.length_cons, List.length_nil, sa]; done))
  all_goals first
    | (exfalso; omega)
    | omega
    | rfl
    | exact ⟨_, rfl⟩
    | exact notAgg_v _
    | (simp; done)
    | fail

theorem vc_rseal (s : List Int) : Cond Try.prog (fun _ => none) Try.f27 [str s] [str (sealF s)] = ((NotAgg (str s) ∧ True) ∧ ∃ (r : D), PureD Try.prog 45 [str s] [r] ∧ fits [(false, [none])] [r] ∧ ∃ (r_1 : D), PureD Try.prog 44 [r] [r_1] ∧ fits [(false, [none])] [r_1] ∧ ∃ (r : D), D.bin BinOp.add (str s) r_1 = some r ∧ ((∃ (y : Value), r = D.v y) ∧ True) ∧ [r] = [str (sealF s)]) := by kernel_rfl
theorem rseal (s : List Int) (hs : Bytes s) (hl : s.length ≤ 100000) : PureD Try.prog 27 [str s] [str (sealF s)] := by
  refine pure_cond (Lp := (fun _ => none)) (by kernel_rfl) Try.func27 (by kernel_rfl) (by kernel_rfl) ?_
  rw [vc_rseal s]
  have M := rsum s hs hl
  have sb := sum_bd s
  have F := four (sumF s) sb.1 sb.2
  have sa := bin_sadd (a := s) (b := t4 (sumF s)) (by rw [t4_len]; omega)
  repeat' (first
    | (refine ex_some (by simp (disch := omega) only [bin_shr, bin_shl, bin_and, bin_or, bin_xor, len_str, toStr_ofL, bin_add, bin_sub, bin_mul, bin_quo, bin_rem, bin_lss, bin_leq, bin_gtr, bin_geq, bin_eql, bin_neq, eqs_cn, eqs_ci, eqs_cb, eqs_cs, Option.map_some, lenT_ofL, lst_ofL, lstSz_ofL, chunk_one, lst_nil, lst_sl, lstSz_sl, lstSz_nil, Bool.and_true, Bool.true_and, Bool.and_false, Bool.false_and, beq_self_eq_true, beq_bb, bne_bb, un_not, un_neg, conv_int, min2_int, max2_int, w64, w32, wu8, wu16, wu32, wu64, tdiv_nn, tmod_nn, cell_zero, cell_succ, cell_v, cells_v, cells_agg, Bool.not_true, Bool.not_false, Int.reduceLT, Int.reduceLE, Int.reduceEq, Int.reduceNeg, Int.reduceAdd, Int.reduceSub, Int.reduceMul, intOf_v, decide_true, decide_false, sa]; rfl) ?_)
    | (refine ex_bool ?_)
    | (refine ⟨_, M, ?_⟩)
    | (refine ⟨_, F, ?_⟩)
    | (refine And.intro ?_ ?_)
    | (intro hx; have hprop := (show ∀ (p : Prop), p → True from fun _ _ => True.intro) _ hx; clear hprop; first | (cases hx; done) | (exfalso; revert hx; simp (disch := omega) only [decide_eq_true_eq, decide_eq_false_iff_not, Bool.not_eq_true', Bool.not_eq_false', Bool.and_eq_true, Bool.and_eq_false_iff, Int.not_lt, Int.not_le, ne_eq, not_false_eq_true, not_true_eq_false, reduceCtorEq, Bool.true_eq_false, Bool.false_eq_true, beq_iff_eq, bne_iff_ne, beq_eq_false_iff_ne, false_or, or_false, true_and, and_true, sa]; done) | (simp (disch := omega) only [decide_eq_true_eq, decide_eq_false_iff_not, Bool.not_eq_true', Bool.not_eq_false', Bool.and_eq_true, Bool.and_eq_false_iff, Int.not_lt, Int.not_le, ne_eq, not_false_eq_true, not_true_eq_false, reduceCtorEq, Bool.true_eq_false, Bool.false_eq_true, beq_iff_eq, bne_iff_ne, beq_eq_false_iff_ne, false_or, or_false, true_and, and_true, sa] at hx; first | (exfalso; omega) | skip) | skip)
    | trivial
    | exact fit_ofL _ _
    | (simp (disch := omega) only [notAgg_v, notAgg_sl, plain_v, fits, fitsOne, fitsCells, xsOf, cell_zero, cell_succ, List.range, List.range.loop, List.map, cond_true, cond_false, D.v.injEq, exists_eq', exists_eq, and_self, and_true, true_and, D.agg.injEq, List.length, exists_eq_left', D.sl.injEq, reduceCtorEq, false_or, true_or, or_true, or_false, cell_zero, cell_succ, cell_v, cells_v, cells_agg, List.length_cons, List.length_nil, sa]; done))
  all_goals first
    | (exfalso; omega)
    | omega
    | rfl
    | exact ⟨_, rfl⟩
    | exact notAgg_v _
    | (simp; done)
    | fail

theorem vc_lseal (s : List Int) : Cond Try.prog (fun _ => none) Try.f21 [str s] [str (sealF s)] = ((NotAgg (str s) ∧ True) ∧ ∃ (r : D), PureD Try.prog 24 [str s] [r] ∧ fits [(false, [none])] [r] ∧ ((∃ (y : Value), r = D.v y) ∧ True) ∧ [r] = [str (sealF s)]) := by kernel_rfl
theorem lseal (s : List Int) (hs : Bytes s) (hl : s.length ≤ 100000) : PureD Try.prog 21 [str s] [str (sealF s)] := by
  refine pure_cond (Lp := (fun _ => none)) (by kernel_rfl) Try.func21 (by kernel_rfl) (by kernel_rfl) ?_
  rw [vc_lseal s]
  have M := sealP s hs hl
  repeat' (first
    | (refine ex_some (by simp (disch := omega) only [bin_shr, bin_shl, bin_and, bin_or, bin_xor, len_str, toStr_ofL, bin_add, bin_sub, bin_mul, bin_quo, bin_rem, bin_lss, bin_leq, bin_gtr, bin_geq, bin_eql, bin_neq, eqs_cn, eqs_ci, eqs_cb, eqs_cs, Option.map_some, lenT_ofL, lst_ofL, lstSz_ofL, chunk_one, lst_nil, lst_sl, lstSz_sl, lstSz_nil, Bool.and_true, Bool.true_and, Bool.and_false, Bool.false_and, beq_self_eq_true, beq_bb, bne_bb, un_not, un_neg, conv_int, min2_int, max2_int, w64, w32, wu8, wu16, wu32, wu64, tdiv_nn, tmod_nn, cell_zero, cell_succ, cell_v, cells_v, cells_agg, Bool.not_true, Bool.not_false, Int.reduceLT, Int.reduceLE, Int.reduceEq, Int.reduceNeg, Int.reduceAdd, Int.reduceSub, Int.reduceMul, intOf_v, decide_true, decide_false]; rfl) ?_)
    | (refine ex_bool ?_)
    | (refine ⟨_, M, ?_⟩)
    | (refine And.intro ?_ ?_)
    | (intro hx; have hprop := (show ∀ (p : Prop), p → True from fun _ _ => True.intro) _ hx; clear hprop; first | (cases hx; done) | (exfalso; revert hx; simp (disch := omega) only [decide_eq_true_eq, decide_eq_false_iff_not, Bool.not_eq_true', Bool.not_eq_false', Bool.and_eq_true, Bool.and_eq_false_iff, Int.not_lt, Int.not_le, ne_eq, not_false_eq_true, not_true_eq_false, reduceCtorEq, Bool.true_eq_false, Bool.false_eq_true, beq_iff_eq, bne_iff_ne, beq_eq_false_iff_ne, false_or, or_false, true_and, and_true]; done) | (simp (disch := omega) only [decide_eq_true_eq, decide_eq_false_iff_not, Bool.not_eq_true', Bool.not_eq_false', Bool.and_eq_true, Bool.and_eq_false_iff, Int.not_lt, Int.not_le, ne_eq, not_false_eq_true, not_true_eq_false, reduceCtorEq, Bool.true_eq_false, Bool.false_eq_true, beq_iff_eq, bne_iff_ne, beq_eq_false_iff_ne, false_or, or_false, true_and, and_true] at hx; first | (exfalso; omega) | skip) | skip)
    | trivial
    | exact fit_ofL _ _
    | (simp (disch := omega) only [notAgg_v, notAgg_sl, plain_v, fits, fitsOne, fitsCells, xsOf, cell_zero, cell_succ, List.range, List.range.loop, List.map, cond_true, cond_false, D.v.injEq, exists_eq', exists_eq, and_self, and_true, true_and, D.agg.injEq, List.length, exists_eq_left', D.sl.injEq, reduceCtorEq, false_or, true_or, or_true, or_false, cell_zero, cell_succ, cell_v, cells_v, cells_agg, List.length_cons, List.length_nil]; done))
  all_goals first
    | (exfalso; omega)
    | omega
    | rfl
    | exact ⟨_, rfl⟩
    | exact notAgg_v _
    | (simp; done)
    | fail

theorem vc_unsealP (s : List Int) : Cond Try.prog (fun _ => none) Try.f29 [str s] [str (unF s).1, .v (.int .i64 (unF s).2)] = ((NotAgg (str s) ∧ True) ∧ ∃ (r : D), D.lenT TypeDesc.string (str s) = some r ∧ ∃ (r_1 : D), D.bin BinOp.lss r (D.v (Value.int IntKind.i64 4)) = some r_1 ∧ ∃ (b : Bool), r_1 = D.v (Value.bool b) ∧ (b = true → (True ∧ True ∧ True) ∧ [D.v (Value.string { data := { toList := [] } }), D.v (Value.int IntKind.i64 3)] = [str (unF s).1, D.v (Value.int IntKind.i64 (unF s).snd)]) ∧ (b = false → ∃ (r : D), D.lenT TypeDesc.string (str s) = some r ∧ ∃ (r_2 : D), D.bin BinOp.sub r (D.v (Value.int IntKind.i64 4)) = some r_2 ∧ ∃ (r : D), (str s).cutS none (some r_2) = some r ∧ ∃ (r_3 : D), D.lenT TypeDesc.string r = some r_3 ∧ ∃ (r_4 : D), (str s).cutS (some r_3) none = some r_4 ∧ ∃ (r_5 : D), PureD Try.prog 42 [r] [r_5] ∧ fits [(false, [none])] [r_5] ∧ ∃ (r_6 : D), D.bin BinOp.neq r_4 r_5 = some r_6 ∧ ∃ (b : Bool), r_6 = D.v (Value.bool b) ∧ (b = true → (True ∧ True ∧ True) ∧ [D.v (Value.string { data := { toList := [] } }), D.v (Value.int IntKind.i64 11)] = [str (unF s).1, D.v (Value.int IntKind.i64 (unF s).snd)]) ∧ (b = false → ((∃ (y : Value), r = D.v y) ∧ True ∧ True) ∧ [r, D.v (Value.int IntKind.i64 0)] = [str (unF s).1, D.v (Value.int IntKind.i64 (unF s).snd)]))) := by kernel_rfl
theorem unsealP (s : List Int) (hs : Bytes s) (hl : s.length ≤ 100000) : PureD Try.prog 29 [str s] [str (unF s).1, .v (.int .i64 (unF s).2)] := by
  refine pure_cond (Lp := (fun _ => none)) (by kernel_rfl) Try.func29 (by kernel_rfl) (by kernel_rfl) ?_
  rw [vc_unsealP s]
  by_cases h4 : s.length < 4
  · have hU : unF s = ([], 3) := if_pos h4
    rw [hU]
    repeat' (first
      | (refine ex_some (by simp (disch := omega) only [bin_shr, bin_shl, bin_and, bin_or, bin_xor, len_str, toStr_ofL, bin_add, bin_sub, bin_mul, bin_quo, bin_rem, bin_lss, bin_leq, bin_gtr, bin_geq, bin_eql, bin_neq, eqs_cn, eqs_ci, eqs_cb, eqs_cs, Option.map_some, lenT_ofL, lst_ofL, lstSz_ofL, chunk_one, lst_nil, lst_sl, lstSz_sl, lstSz_nil, Bool.and_true, Bool.true_and, Bool.and_false, Bool.false_and, beq_self_eq_true, beq_bb, bne_bb, un_not, un_neg, conv_int, min2_int, max2_int, w64, w32, wu8, wu16, wu32, wu64, tdiv_nn, tmod_nn, cell_zero, cell_succ, cell_v, cells_v, cells_agg, Bool.not_true, Bool.not_false, Int.reduceLT, Int.reduceLE, Int.reduceEq, Int.reduceNeg, Int.reduceAdd, Int.reduceSub, Int.reduceMul, intOf_v, decide_true, decide_false]; rfl) ?_)
      | (refine ex_bool ?_)
      | (refine And.intro ?_ ?_)
      | (intro hx; have hprop := (show ∀ (p : Prop), p → True from fun _ _ => True.intro) _ hx; clear hprop; first | (cases hx; done) | (exfalso; revert hx; simp (disch := omega) only [decide_eq_true_eq, decide_eq_false_iff_not, Bool.not_eq_true', Bool.not_eq_false', Bool.and_eq_true, Bool.and_eq_false_iff, Int.not_lt, Int.not_le, ne_eq, not_false_eq_true, not_true_eq_false, reduceCtorEq, Bool.true_eq_false, Bool.false_eq_true, beq_iff_eq, bne_iff_ne, beq_eq_false_iff_ne, false_or, or_false, true_and, and_true]; done) | (simp (disch := omega) only [decide_eq_true_eq, decide_eq_false_iff_not, Bool.not_eq_true', Bool.not_eq_false', Bool.and_eq_true, Bool.and_eq_false_iff, Int.not_lt, Int.not_le, ne_eq, not_false_eq_true, not_true_eq_false, reduceCtorEq, Bool.true_eq_false, Bool.false_eq_true, beq_iff_eq, bne_iff_ne, beq_eq_false_iff_ne, false_or, or_false, true_and, and_true] at hx; first | (exfalso; omega) | skip) | skip)
      | trivial
      | exact fit_ofL _ _
      | (simp (disch := omega) only [notAgg_v, notAgg_sl, plain_v, fits, fitsOne, fitsCells, xsOf, cell_zero, cell_succ, List.range, List.range.loop, List.map, cond_true, cond_false, D.v.injEq, exists_eq', exists_eq, and_self, and_true, true_and, D.agg.injEq, List.length, exists_eq_left', D.sl.injEq, reduceCtorEq, false_or, true_or, or_true, or_false, cell_zero, cell_succ, cell_v, cells_v, cells_agg, List.length_cons, List.length_nil]; done))
    all_goals first
      | (exfalso; omega)
      | omega
      | rfl
      | exact ⟨_, rfl⟩
      | exact notAgg_v _
      | (exfalso; apply he; exact (take_drop4 (by omega) _).1 (by assumption))
      | (exfalso; exact hx ((take_drop4 (by omega) _).2 he))
      | (exfalso; exact he (by assumption))
      | (exfalso; exact hx he)
      | (simp; done)
      | fail
  · have c1 : (str s).cutS none (some (.v (.int .i64 ((s.length : Nat) - 4)))) = some (str (s.take (s.length - 4))) := by rw [show ((s.length : Nat) : Int) - 4 = ((s.length - 4 : Nat) : Int) by omega]; exact cutS_to s .i64 (by omega)
    have hlt : (s.take (s.length - 4)).length = s.length - 4 := by rw [List.length_take]; omega
    have c2 : (str s).cutS (some (.v (.int .i64 ((s.take (s.length - 4)).length : Nat)))) none = some (str (s.drop (s.take (s.length - 4)).length)) := cutS_from s .i64 (by omega)
    have M := tail (s.take (s.length - 4)) (hs.take _) (by omega)
    have bn := bin_sneq (hs.drop (s.take (s.length - 4)).length) (t4_bytes (sumF (s.take (s.length - 4))))
    by_cases he : s = sealF (s.take (s.length - 4))
    · have hU : unF s = (s.take (s.length - 4), 0) := by unfold unF; rw [if_neg h4, if_pos he]
      rw [hU]
      repeat' (first
        | (refine ex_some (by simp (disch := omega) only [bin_shr, bin_shl, bin_and, bin_or, bin_xor, len_str, toStr_ofL, bin_add, bin_sub, bin_mul, bin_quo, bin_rem, bin_lss, bin_leq, bin_gtr, bin_geq, bin_eql, bin_neq, eqs_cn, eqs_ci, eqs_cb, eqs_cs, Option.map_some, lenT_ofL, lst_ofL, lstSz_ofL, chunk_one, lst_nil, lst_sl, lstSz_sl, lstSz_nil, Bool.and_true, Bool.true_and, Bool.and_false, Bool.false_and, beq_self_eq_true, beq_bb, bne_bb, un_not, un_neg, conv_int, min2_int, max2_int, w64, w32, wu8, wu16, wu32, wu64, tdiv_nn, tmod_nn, cell_zero, cell_succ, cell_v, cells_v, cells_agg, Bool.not_true, Bool.not_false, Int.reduceLT, Int.reduceLE, Int.reduceEq, Int.reduceNeg, Int.reduceAdd, Int.reduceSub, Int.reduceMul, intOf_v, decide_true, decide_false, bn]; rfl) ?_)
        | (refine ex_bool ?_)
        | (refine ⟨_, M, ?_⟩)
        | (refine ex_some c1 ?_)
        | (refine ex_some c2 ?_)
        | (refine And.intro ?_ ?_)
        | (intro hx; have hprop := (show ∀ (p : Prop), p → True from fun _ _ => True.intro) _ hx; clear hprop; first | (cases hx; done) | (exfalso; revert hx; simp (disch := omega) only [decide_eq_true_eq, decide_eq_false_iff_not, Bool.not_eq_true', Bool.not_eq_false', Bool.and_eq_true, Bool.and_eq_false_iff, Int.not_lt, Int.not_le, ne_eq, not_false_eq_true, not_true_eq_false, reduceCtorEq, Bool.true_eq_false, Bool.false_eq_true, beq_iff_eq, bne_iff_ne, beq_eq_false_iff_ne, false_or, or_false, true_and, and_true, bn]; done) | (simp (disch := omega) only [decide_eq_true_eq, decide_eq_false_iff_not, Bool.not_eq_true', Bool.not_eq_false', Bool.and_eq_true, Bool.and_eq_false_iff, Int.not_lt, Int.not_le, ne_eq, not_false_eq_true, not_true_eq_false, reduceCtorEq, Bool.true_eq_false, Bool.false_eq_true, beq_iff_eq, bne_iff_ne, beq_eq_false_iff_ne, false_or, or_false, true_and, and_true, bn] at hx; first | (exfalso; omega) | skip) | skip)
        | trivial
        | exact fit_ofL _ _
        | (simp (disch := omega) only [notAgg_v, notAgg_sl, plain_v, fits, fitsOne, fitsCells, xsOf, cell_zero, cell_succ, List.range, List.range.loop, List.map, cond_true, cond_false, D.v.injEq, exists_eq', exists_eq, and_self, and_true, true_and, D.agg.injEq, List.length, exists_eq_left', D.sl.injEq, reduceCtorEq, false_or, true_or, or_true, or_false, cell_zero, cell_succ, cell_v, cells_v, cells_agg, List.length_cons, List.length_nil, bn]; done))
      all_goals first
        | (exfalso; omega)
        | omega
        | rfl
        | exact ⟨_, rfl⟩
        | exact notAgg_v _
        | (exfalso; apply he; exact (take_drop4 (by omega) _).1 (by assumption))
        | (exfalso; exact hx ((take_drop4 (by omega) _).2 he))
        | (exfalso; exact he (by assumption))
        | (exfalso; exact hx he)
        | (simp; done)
        | fail
    · have hU : unF s = ([], 11) := by unfold unF; rw [if_neg h4, if_neg he]
      rw [hU]
      repeat' (first
        | (refine ex_some (by simp (disch := omega) only [bin_shr, bin_shl, bin_and, bin_or, bin_xor, len_str, toStr_ofL, bin_add, bin_sub, bin_mul, bin_quo, bin_rem, bin_lss, bin_leq, bin_gtr, bin_geq, bin_eql, bin_neq, eqs_cn, eqs_ci, eqs_cb, eqs_cs, Option.map_some, lenT_ofL, lst_ofL, lstSz_ofL, chunk_one, lst_nil, lst_sl, lstSz_sl, lstSz_nil, Bool.and_true, Bool.true_and, Bool.and_false, Bool.false_and, beq_self_eq_true, beq_bb, bne_bb, un_not, un_neg, conv_int, min2_int, max2_int, w64, w32, wu8, wu16, wu32, wu64, tdiv_nn, tmod_nn, cell_zero, cell_succ, cell_v, cells_v, cells_agg, Bool.not_true, Bool.not_false, Int.reduceLT, Int.reduceLE, Int.reduceEq, Int.reduceNeg, Int.reduceAdd, Int.reduceSub, Int.reduceMul, intOf_v, decide_true, decide_false, bn]; rfl) ?_)
        | (refine ex_bool ?_)
        | (refine ⟨_, M, ?_⟩)
        | (refine ex_some c1 ?_)
        | (refine ex_some c2 ?_)
        | (refine And.intro ?_ ?_)
        | (intro hx; have hprop := (show ∀ (p : Prop), p → True from fun _ _ => True.intro) _ hx; clear hprop; first | (cases hx; done) | (exfalso; revert hx; simp (disch := omega) only [decide_eq_true_eq, decide_eq_false_iff_not, Bool.not_eq_true', Bool.not_eq_false', Bool.and_eq_true, Bool.and_eq_false_iff, Int.not_lt, Int.not_le, ne_eq, not_false_eq_true, not_true_eq_false, reduceCtorEq, Bool.true_eq_false, Bool.false_eq_true, beq_iff_eq, bne_iff_ne, beq_eq_false_iff_ne, false_or, or_false, true_and, and_true, bn]; done) | (simp (disch := omega) only [decide_eq_true_eq, decide_eq_false_iff_not, Bool.not_eq_true', Bool.not_eq_false', Bool.and_eq_true, Bool.and_eq_false_iff, Int.not_lt, Int.not_le, ne_eq, not_false_eq_true, not_true_eq_false, reduceCtorEq, Bool.true_eq_false, Bool.false_eq_true, beq_iff_eq, bne_iff_ne, beq_eq_false_iff_ne, false_or, or_false, true_and, and_true, bn] at hx; first | (exfalso; omega) | skip) | skip)
        | trivial
        | exact fit_ofL _ _
        | (simp (disch := omega) only [notAgg_v, notAgg_sl, plain_v, fits, fitsOne, fitsCells, xsOf, cell_zero, cell_succ, List.range, List.range.loop, List.map, cond_true, cond_false, D.v.injEq, exists_eq', exists_eq, and_self, and_true, true_and, D.agg.injEq, List.length, exists_eq_left', D.sl.injEq, reduceCtorEq, false_or, true_or, or_true, or_false, cell_zero, cell_succ, cell_v, cells_v, cells_agg, List.length_cons, List.length_nil, bn]; done))
      all_goals first
        | (exfalso; omega)
        | omega
        | rfl
        | exact ⟨_, rfl⟩
        | exact notAgg_v _
        | (exfalso; apply he; exact (take_drop4 (by omega) _).1 (by assumption))
        | (exfalso; exact hx ((take_drop4 (by omega) _).2 he))
        | (exfalso; exact he (by assumption))
        | (exfalso; exact hx he)
        | (simp; done)
        | fail

theorem vc_runseal (s : List Int) : Cond Try.prog (fun _ => none) Try.f36 [str s] [str (unF s).1, .v (.int .i64 (unF s).2)] = ((NotAgg (str s) ∧ True) ∧ ∃ (r : D), D.lenT TypeDesc.string (str s) = some r ∧ ∃ (r_1 : D), D.bin BinOp.lss r (D.v (Value.int IntKind.i64 4)) = some r_1 ∧ ∃ (b : Bool), r_1 = D.v (Value.bool b) ∧ (b = true → (True ∧ True ∧ True) ∧ [D.v (Value.string { data := { toList := [] } }), D.v (Value.int IntKind.i64 3)] = [str (unF s).1, D.v (Value.int IntKind.i64 (unF s).snd)]) ∧ (b = false → ∃ (r : D), D.lenT TypeDesc.string (str s) = some r ∧ ∃ (r_2 : D), D.bin BinOp.sub r (D.v (Value.int IntKind.i64 4)) = some r_2 ∧ ∃ (r : D), (str s).cutS none (some r_2) = some r ∧ ∃ (r_3 : D), PureD Try.prog 27 [r] [r_3] ∧ fits [(false, [none])] [r_3] ∧ ∃ (r_4 : D), D.bin BinOp.neq (str s) r_3 = some r_4 ∧ ∃ (b : Bool), r_4 = D.v (Value.bool b) ∧ (b = true → (True ∧ True ∧ True) ∧ [D.v (Value.string { data := { toList := [] } }), D.v (Value.int IntKind.i64 11)] = [str (unF s).1, D.v (Value.int IntKind.i64 (unF s).snd)]) ∧ (b = false → ((∃ (y : Value), r = D.v y) ∧ True ∧ True) ∧ [r, D.v (Value.int IntKind.i64 0)] = [str (unF s).1, D.v (Value.int IntKind.i64 (unF s).snd)]))) := by kernel_rfl
theorem runseal (s : List Int) (hs : Bytes s) (hl : s.length ≤ 100000) : PureD Try.prog 36 [str s] [str (unF s).1, .v (.int .i64 (unF s).2)] := by
  refine pure_cond (Lp := (fun _ => none)) (by kernel_rfl) Try.func36 (by kernel_rfl) (by kernel_rfl) ?_
  rw [vc_runseal s]
  by_cases h4 : s.length < 4
  · have hU : unF s = ([], 3) := if_pos h4
    rw [hU]
    repeat' (first
      | (refine ex_some (by simp (disch := omega) only [bin_shr, bin_shl, bin_and, bin_or, bin_xor, len_str, toStr_ofL, bin_add, bin_sub, bin_mul, bin_quo, bin_rem, bin_lss, bin_leq, bin_gtr, bin_geq, bin_eql, bin_neq, eqs_cn, eqs_ci, eqs_cb, eqs_cs, Option.map_some, lenT_ofL, lst_ofL, lstSz_ofL, chunk_one, lst_nil, lst_sl, lstSz_sl, lstSz_nil, Bool.and_true, Bool.true_and, Bool.and_false, Bool.false_and, beq_self_eq_true, beq_bb, bne_bb, un_not, un_neg, conv_int, min2_int, max2_int, w64, w32, wu8, wu16, wu32, wu64, tdiv_nn, tmod_nn, cell_zero, cell_succ, cell_v, cells_v, cells_agg, Bool.not_true, Bool.not_false, Int.reduceLT, Int.reduceLE, Int.reduceEq, Int.reduceNeg, Int.reduceAdd, Int.reduceSub, Int.reduceMul, intOf_v, decide_true, decide_false]; rfl) ?_)
      | (refine ex_bool ?_)
      | (refine And.intro ?_ ?_)
      | (intro hx; have hprop := (show ∀ (p : Prop), p → True from fun _ _ => True.intro) _ hx; clear hprop; first | (cases hx; done) | (exfalso; revert hx; simp (disch := omega) only [decide_eq_true_eq, decide_eq_false_iff_not, Bool.not_eq_true', Bool.not_eq_false', Bool.and_eq_true, Bool.and_eq_false_iff, Int.not_lt, Int.not_le, ne_eq, not_false_eq_true, not_true_eq_false, reduceCtorEq, Bool.true_eq_false, Bool.false_eq_true, beq_iff_eq, bne_iff_ne, beq_eq_false_iff_ne, false_or, or_false, true_and, and_true]; done) | (simp (disch := omega) only [decide_eq_true_eq, decide_eq_false_iff_not, Bool.not_eq_true', Bool.not_eq_false', Bool.and_eq_true, Bool.and_eq_false_iff, Int.not_lt, Int.not_le, ne_eq, not_false_eq_true, not_true_eq_false, reduceCtorEq, Bool.true_eq_false, Bool.false_eq_true, beq_iff_eq, bne_iff_ne, beq_eq_false_iff_ne, false_or, or_false, true_and, and_true] at hx; first | (exfalso; omega) | skip) | skip)
      | trivial
      | exact fit_ofL _ _
      | (simp (disch := omega) only [notAgg_v, notAgg_sl, plain_v, fits, fitsOne, fitsCells, xsOf, cell_zero, cell_succ, List.range, List.range.loop, List.map, cond_true, cond_false, D.v.injEq, exists_eq', exists_eq, and_self, and_true, true_and, D.agg.injEq, List.length, exists_eq_left', D.sl.injEq, reduceCtorEq, false_or, true_or, or_true, or_false, cell_zero, cell_succ, cell_v, cells_v, cells_agg, List.length_cons, List.length_nil]; done))
    all_goals first
      | (exfalso; omega)
      | omega
      | rfl
      | exact ⟨_, rfl⟩
      | exact notAgg_v _
      | (exfalso; apply he; exact (take_drop4 (by omega) _).1 (by assumption))
      | (exfalso; exact hx ((take_drop4 (by omega) _).2 he))
      | (exfalso; exact he (by assumption))
      | (exfalso; exact hx he)
      | (simp; done)
      | fail
  · have c1 : (str s).cutS none (some (.v (.int .i64 ((s.length : Nat) - 4)))) = some (str (s.take (s.length - 4))) := by rw [show ((s.length : Nat) : Int) - 4 = ((s.length - 4 : Nat) : Int) by omega]; exact cutS_to s .i64 (by omega)
    have hlt : (s.take (s.length - 4)).length = s.length - 4 := by rw [List.length_take]; omega
    have M := rseal (s.take (s.length - 4)) (hs.take _) (by omega)
    have bn := bin_sneq hs (seal_bytes (hs.take (s.length - 4)))
    by_cases he : s = sealF (s.take (s.length - 4))
    · have hU : unF s = (s.take (s.length - 4), 0) := by unfold unF; rw [if_neg h4, if_pos he]
      rw [hU]
      repeat' (first
        | (refine ex_some (by simp (disch := omega) only [bin_shr, bin_shl, bin_and, bin_or, bin_xor, len_str, toStr_ofL, bin_add, bin_sub, bin_mul, bin_quo, bin_rem, bin_lss, bin_leq, bin_gtr, bin_geq, bin_eql, bin_neq, eqs_cn, eqs_ci, eqs_cb, eqs_cs, Option.map_some, lenT_ofL, lst_ofL, lstSz_ofL, chunk_one, lst_nil, lst_sl, lstSz_sl, lstSz_nil, Bool.and_true, Bool.true_and, Bool.and_false, Bool.false_and, beq_self_eq_true, beq_bb, bne_bb, un_not, un_neg, conv_int, min2_int, max2_int, w64, w32, wu8, wu16, wu32, wu64, tdiv_nn, tmod_nn, cell_zero, cell_succ, cell_v, cells_v, cells_agg, Bool.not_true, Bool.not_false, Int.reduceLT, Int.reduceLE, Int.reduceEq, Int.reduceNeg, Int.reduceAdd, Int.reduceSub, Int.reduceMul, intOf_v, decide_true, decide_false, bn]; rfl) ?_)
        | (refine ex_bool ?_)
        | (refine ⟨_, M, ?_⟩)
        | (refine ex_some c1 ?_)
        | (refine And.intro ?_ ?_)
        | (intro hx; have hprop := (show ∀ (p : Prop), p → True from fun _ _ => True.intro) _ hx; clear hprop; first | (cases hx; done) | (exfalso; revert hx; simp (disch := omega) only [decide_eq_true_eq, decide_eq_false_iff_not, Bool.not_eq_true', Bool.not_eq_false', Bool.and_eq_true, Bool.and_eq_false_iff, Int.not_lt, Int.not_le, ne_eq, not_false_eq_true, not_true_eq_false, reduceCtorEq, Bool.true_eq_false, Bool.false_eq_true, beq_iff_eq, bne_iff_ne, beq_eq_false_iff_ne, false_or, or_false, true_and, and_true, bn]; done) | (simp (disch := omega) only [decide_eq_true_eq, decide_eq_false_iff_not, Bool.not_eq_true', Bool.not_eq_false', Bool.and_eq_true, Bool.and_eq_false_iff, Int.not_lt, Int.not_le, ne_eq, not_false_eq_true, not_true_eq_false, reduceCtorEq, Bool.true_eq_false, Bool.false_eq_true, beq_iff_eq, bne_iff_ne, beq_eq_false_iff_ne, false_or, or_false, true_and, and_true, bn] at hx; first | (exfalso; omega) | skip) | skip)
        | trivial
        | exact fit_ofL _ _
        | (simp (disch := omega) only [notAgg_v, notAgg_sl, plain_v, fits, fitsOne, fitsCells, xsOf, cell_zero, cell_succ, List.range, List.range.loop, List.map, cond_true, cond_false, D.v.injEq, exists_eq', exists_eq, and_self, and_true, true_and, D.agg.injEq, List.length, exists_eq_left', D.sl.injEq, reduceCtorEq, false_or, true_or, or_true, or_false, cell_zero, cell_succ, cell_v, cells_v, cells_agg, List.length_cons, List.length_nil, bn]; done))
      all_goals first
        | (exfalso; omega)
        | omega
        | rfl
        | exact ⟨_, rfl⟩
        | exact notAgg_v _
        | (exfalso; apply he; exact (take_drop4 (by omega) _).1 (by assumption))
        | (exfalso; exact hx ((take_drop4 (by omega) _).2 he))
        | (exfalso; exact he (by assumption))
        | (exfalso; exact hx he)
        | (simp; done)
        | fail
    · have hU : unF s = ([], 11) := by unfold unF; rw [if_neg h4, if_neg he]
      rw [hU]
      repeat' (first
        | (refine ex_some (by simp (disch := omega) only [bin_shr, bin_shl, bin_and, bin_or, bin_xor, len_str, toStr_ofL, bin_add, bin_sub, bin_mul, bin_quo, bin_rem, bin_lss, bin_leq, bin_gtr, bin_geq, bin_eql, bin_neq, eqs_cn, eqs_ci, eqs_cb, eqs_cs, Option.map_some, lenT_ofL, lst_ofL, lstSz_ofL, chunk_one, lst_nil, lst_sl, lstSz_sl, lstSz_nil, Bool.and_true, Bool.true_and, Bool.and_false, Bool.false_and, beq_self_eq_true, beq_bb, bne_bb, un_not, un_neg, conv_int, min2_int, max2_int, w64, w32, wu8, wu16, wu32, wu64, tdiv_nn, tmod_nn, cell_zero, cell_succ, cell_v, cells_v, cells_agg, Bool.not_true, Bool.not_false, Int.reduceLT, Int.reduceLE, Int.reduceEq, Int.reduceNeg, Int.reduceAdd, Int.reduceSub, Int.reduceMul, intOf_v, decide_true, decide_false, bn]; rfl) ?_)
        | (refine ex_bool ?_)
        | (refine ⟨_, M, ?_⟩)
        | (refine ex_some c1 ?_)
        | (refine And.intro ?_ ?_)
        | (intro hx; have hprop := (show ∀ (p : Prop), p → True from fun _ _ => True.intro) _ hx; clear hprop; first | (cases hx; done) | (exfalso; revert hx; simp (disch := omega) only [decide_eq_true_eq, decide_eq_false_iff_not, Bool.not_eq_true', Bool.not_eq_false', Bool.and_eq_true, Bool.and_eq_false_iff, Int.not_lt, Int.not_le, ne_eq, not_false_eq_true, not_true_eq_false, reduceCtorEq, Bool.true_eq_false, Bool.false_eq_true, beq_iff_eq, bne_iff_ne, beq_eq_false_iff_ne, false_or, or_false, true_and, and_true, bn]; done) | (simp (disch := omega) only [decide_eq_true_eq, decide_eq_false_iff_not, Bool.not_eq_true', Bool.not_eq_false', Bool.and_eq_true, Bool.and_eq_false_iff, Int.not_lt, Int.not_le, ne_eq, not_false_eq_true, not_true_eq_false, reduceCtorEq, Bool.true_eq_false, Bool.false_eq_true, beq_iff_eq, bne_iff_ne, beq_eq_false_iff_ne, false_or, or_false, true_and, and_true, bn] at hx; first | (exfalso; omega) | skip) | skip)
        | trivial
        | exact fit_ofL _ _
        | (simp (disch := omega) only [notAgg_v, notAgg_sl, plain_v, fits, fitsOne, fitsCells, xsOf, cell_zero, cell_succ, List.range, List.range.loop, List.map, cond_true, cond_false, D.v.injEq, exists_eq', exists_eq, and_self, and_true, true_and, D.agg.injEq, List.length, exists_eq_left', D.sl.injEq, reduceCtorEq, false_or, true_or, or_true, or_false, cell_zero, cell_succ, cell_v, cells_v, cells_agg, List.length_cons, List.length_nil, bn]; done))
      all_goals first
        | (exfalso; omega)
        | omega
        | rfl
        | exact ⟨_, rfl⟩
        | exact notAgg_v _
        | (exfalso; apply he; exact (take_drop4 (by omega) _).1 (by assumption))
        | (exfalso; exact hx ((take_drop4 (by omega) _).2 he))
        | (exfalso; exact he (by assumption))
        | (exfalso; exact hx he)
        | (simp; done)
        | fail

end Go.Proofs.Ytioodaefgpkkeaa