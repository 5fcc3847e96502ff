/-
  Layer 2: what is got.
-/
import Derived.Test.YtojbpgkjenghaaaT2
namespace Go.Proofs.Ytojbpgkjenghaaa
open Go.RowKit
set_option linter.unusedSimpArgs false
set_option linter.unusedVariables false


def sz0 (c : Int) : Nat := if c < 64 then 1 else if c < 128 then 2 else if c < 192 then 4 else 8
def vF (l : List Int) : Nat → Int
  | 0 => 0
  | 1 => l.getD 0 0 % 64
  | k + 2 => vF l (k + 1) * 256 + l.getD (k + 1) 0
def getF (l : List Int) : Int × Int × Int :=
  if l = [] then (0, 0, 3) else if l.length < sz0 (l.getD 0 0) then (0, 0, 3) else
  if szF (vF l (sz0 (l.getD 0 0))) = (sz0 (l.getD 0 0) : Nat) then (vF l (sz0 (l.getD 0 0)), (sz0 (l.getD 0 0) : Nat), 0) else (0, 0, 4)
theorem sz0_le (c : Int) : 1 ≤ sz0 c ∧ sz0 c ≤ 8 := by unfold sz0; (repeat' split) <;> omega
theorem vF_bd {l : List Int} (h : Bytes l) : ∀ k : Nat, 0 ≤ vF l (k + 1) ∧ vF l (k + 1) < 64 * 256 ^ k
  | 0 => by have := h.getD 0; simp only [vF]; omega
  | k + 1 => by
    have ih := vF_bd h k
    have := h.getD (k + 1)
    have e : (64 : Int) * 256 ^ (k + 1) = 64 * 256 ^ k * 256 := by rw [Int.pow_succ]; rw [Int.mul_assoc]
    simp only [vF]
    rw [e]
    omega
theorem vF_low {l : List Int} (h : Bytes l) {k : Nat} (hk : k < 7) : 0 ≤ vF l (k + 1) ∧ vF l (k + 1) < 18014398509481984 := by
  have := vF_bd h k
  have e : (64 : Int) * 256 ^ k ≤ 64 * 256 ^ 6 := by
    rcases (show k = 0 ∨ k = 1 ∨ k = 2 ∨ k = 3 ∨ k = 4 ∨ k = 5 ∨ k = 6 by omega) with rfl | rfl | rfl | rfl | rfl | rfl | rfl <;> decide
  have e2 : (64 : Int) * 256 ^ 6 = 18014398509481984 := by decide
  omega
theorem shr6 {c : Int} : c.fdiv (2 ^ min (6 : Int).toNat IntKind.u8.bits) = c / 64 := by
  show c.fdiv 64 = _
  exact Int.fdiv_eq_ediv_of_nonneg _ (by decide)
theorem one_shl {c : Int} (h0 : 0 ≤ c) (h1 : c < 256) : (1 : Int) * 2 ^ min (c / 64).toNat IntKind.i64.bits = (sz0 c : Nat) := by
  unfold sz0
  rcases (show c / 64 = 0 ∨ c / 64 = 1 ∨ c / 64 = 2 ∨ c / 64 = 3 by omega) with h | h | h | h <;> rw [h] <;> (repeat' split) <;> first | rfl | (exfalso; omega)
theorem shl8 : (2 : Int) ^ min (8 : Int).toNat IntKind.i64.bits = 256 := rfl
def leftG (n : Nat) : List D → Nat
  | .v (.int _ i) :: _ => n - i.toNat
  | _ => 0
def rlong (c : Int) : Int := (sz0 c : Nat)
theorem rlong_div {c : Int} (h0 : 0 ≤ c) (h1 : c < 256) : ((c / 64 = 0 → sz0 c = 1) ∧ (c / 64 = 1 → sz0 c = 2) ∧ (c / 64 = 2 → sz0 c = 4) ∧ (c / 64 = 3 → sz0 c = 8)) := by
  unfold sz0; refine ⟨?_, ?_, ?_, ?_⟩ <;> intro h <;> (repeat' split) <;> omega

theorem vc_long (c : Int) : Cond Try.prog (fun _ => none) Try.f21 [.v (.int .u8 c)] [.v (.int .i64 (sz0 c : Nat))] = ((NotAgg (D.v (Value.int IntKind.u8 c)) ∧ True) ∧ ∃ (r : D), D.bin BinOp.quo (D.v (Value.int IntKind.u8 c)) (D.v (Value.int IntKind.u8 64)) = some r ∧ ∃ (r_1 : D), D.bin BinOp.eql r (D.v (Value.int IntKind.u8 0)) = some r_1 ∧ ∃ (b : Bool), r_1 = D.v (Value.bool b) ∧ (b = true → (True ∧ True) ∧ [D.v (Value.int IntKind.i64 1)] = [D.v (Value.int IntKind.i64 ↑(sz0 c))]) ∧ (b = false → ∃ (r_2 : D), D.bin BinOp.eql r (D.v (Value.int IntKind.u8 1)) = some r_2 ∧ ∃ (b : Bool), r_2 = D.v (Value.bool b) ∧ (b = true → (True ∧ True) ∧ [D.v (Value.int IntKind.i64 2)] = [D.v (Value.int IntKind.i64 ↑(sz0 c))]) ∧ (b = false → ∃ (r_3 : D), D.bin BinOp.eql r (D.v (Value.int IntKind.u8 2)) = some r_3 ∧ ∃ (b : Bool), r_3 = D.v (Value.bool b) ∧ (b = true → (True ∧ True) ∧ [D.v (Value.int IntKind.i64 4)] = [D.v (Value.int IntKind.i64 ↑(sz0 c))]) ∧ (b = false → (True ∧ True) ∧ [D.v (Value.int IntKind.i64 8)] = [D.v (Value.int IntKind.i64 ↑(sz0 c))])))) := by kernel_rfl
theorem long (c : Int) (h0 : 0 ≤ c) (h1 : c < 256) : PureD Try.prog 21 [.v (.int .u8 c)] [.v (.int .i64 (sz0 c : Nat))] := by
  refine pure_cond (Lp := (fun _ => none)) (by kernel_rfl) Try.func21 (by kernel_rfl) (by kernel_rfl) ?_
  rw [vc_long c]
  have H := rlong_div h0 h1
  repeat' (first
    | (refine ex_some (by simp (disch := omega) only [bin_shr, bin_shl, bin_and, bin_or, bin_xor, len_str, toStr_ofL, bin_add, bin_sub, bin_mul, bin_quo, bin_rem, bin_lss, bin_leq, bin_gtr, bin_geq, bin_eql, bin_neq, eqs_cn, eqs_ci, eqs_cb, eqs_cs, Option.map_some, lenT_ofL, lst_ofL, lstSz_ofL, chunk_one, lst_nil, lst_sl, lstSz_sl, lstSz_nil, Bool.and_true, Bool.true_and, Bool.and_false, Bool.false_and, beq_self_eq_true, beq_bb, bne_bb, un_not, un_neg, conv_int, min2_int, max2_int, w64, w32, wu8, wu16, wu32, wu64, tdiv_nn, tmod_nn, cell_zero, cell_succ, cell_v, cells_v, cells_agg, Bool.not_true, Bool.not_false, Int.reduceLT, Int.reduceLE, Int.reduceEq, Int.reduceNeg, Int.reduceAdd, Int.reduceSub, Int.reduceMul, intOf_v, decide_true, decide_false]; rfl) ?_)
    | (refine ex_bool ?_)
    | (refine And.intro ?_ ?_)
    | (intro hx; first | (cases hx; done) | (exfalso; revert hx; simp (disch := omega) only [decide_eq_true_eq, decide_eq_false_iff_not, Bool.not_eq_true', Bool.not_eq_false', Bool.and_eq_true, Bool.and_eq_false_iff, Int.not_lt, Int.not_le, ne_eq, not_false_eq_true, not_true_eq_false, reduceCtorEq, Bool.true_eq_false, Bool.false_eq_true, beq_iff_eq, bne_iff_ne, beq_eq_false_iff_ne, false_or, or_false, true_and, and_true]; done) | (simp (disch := omega) only [decide_eq_true_eq, decide_eq_false_iff_not, Bool.not_eq_true', Bool.not_eq_false', Bool.and_eq_true, Bool.and_eq_false_iff, Int.not_lt, Int.not_le, ne_eq, not_false_eq_true, not_true_eq_false, reduceCtorEq, Bool.true_eq_false, Bool.false_eq_true, beq_iff_eq, bne_iff_ne, beq_eq_false_iff_ne, false_or, or_false, true_and, and_true] at hx; first | (exfalso; omega) | skip) | skip)
    | trivial
    | exact fit_ofL _ _
    | (simp (disch := omega) only [notAgg_v, notAgg_sl, plain_v, fits, fitsOne, fitsCells, xsOf, cell_zero, cell_succ, List.range, List.range.loop, List.map, cond_true, cond_false, D.v.injEq, exists_eq', exists_eq, and_self, and_true, true_and, D.agg.injEq, List.length, exists_eq_left', D.sl.injEq, reduceCtorEq, false_or, true_or, or_true, or_false, cell_zero, cell_succ, cell_v, cells_v, cells_agg, List.length_cons, List.length_nil]; done))
  all_goals first | (rw [H.1 (by omega)]; rfl) | (rw [H.2.1 (by omega)]; rfl) | (rw [H.2.2.1 (by omega)]; rfl) | (rw [H.2.2.2 (by omega)]; rfl) | fail

theorem vc_get (l : List Int) : Cond Try.prog (fun k => if k = 8 then some ⟨[7, 6], [], [0, 5], []⟩ else none) Try.f14 [str l] [.v (.int .i64 (getF l).1), .v (.int .i64 (getF l).2.1), .v (.int .i64 (getF l).2.2)] = ((NotAgg (str l) ∧ True) ∧ ∃ (r : D), D.bin BinOp.eql (str l) (D.v (Value.string { data := { toList := [] } })) = some r ∧ ∃ (b : Bool), r = D.v (Value.bool b) ∧ (b = true → (True ∧ True ∧ True ∧ True) ∧ [D.v (Value.int IntKind.i64 0), D.v (Value.int IntKind.i64 0), D.v (Value.int IntKind.i64 3)] = [D.v (Value.int IntKind.i64 (getF l).fst), D.v (Value.int IntKind.i64 (getF l).snd.fst), D.v (Value.int IntKind.i64 (getF l).snd.snd)]) ∧ (b = false → (str l).sinb (D.v (Value.int IntKind.i64 0)) ∧ ∃ (r : D), D.bin BinOp.shr ((str l).byteAt (D.v (Value.int IntKind.i64 0))) (D.v (Value.int IntKind.u64 6)) = some r ∧ ∃ (r_1 : D), D.bin BinOp.shl (D.v (Value.int IntKind.i64 1)) r = some r_1 ∧ ∃ (r : D), D.lenT TypeDesc.string (str l) = some r ∧ ∃ (r_2 : D), D.bin BinOp.lss r r_1 = some r_2 ∧ ∃ (b : Bool), r_2 = D.v (Value.bool b) ∧ (b = true → (True ∧ True ∧ True ∧ True) ∧ [D.v (Value.int IntKind.i64 0), D.v (Value.int IntKind.i64 0), D.v (Value.int IntKind.i64 3)] = [D.v (Value.int IntKind.i64 (getF l).fst), D.v (Value.int IntKind.i64 (getF l).snd.fst), D.v (Value.int IntKind.i64 (getF l).snd.snd)]) ∧ (b = false → (str l).sinb (D.v (Value.int IntKind.i64 0)) ∧ ∃ (r : D), D.bin BinOp.and ((str l).byteAt (D.v (Value.int IntKind.i64 0))) (D.v (Value.int IntKind.u8 63)) = some r ∧ ∃ (r_3 : D), D.conv IntKind.i64 r = some r_3 ∧ ∃ (I : List D → Prop), ∃ (μ : List D → Nat), ((D.v (Value.int IntKind.i64 1) = D.v (Value.int IntKind.i64 1) ∧ r_3 = r_3 ∧ str l = str l ∧ r_1 = r_1 ∧ True) ∧ True ∧ I [D.v (Value.int IntKind.i64 1), r_3]) ∧ ∀ (r r_4 : D), I [r, r_4] → ∃ (r_5 : D), D.bin BinOp.lss r r_1 = some r_5 ∧ ∃ (b : Bool), r_5 = D.v (Value.bool b) ∧ (b = true → ∃ (r_6 : D), D.bin BinOp.shl r_4 (D.v (Value.int IntKind.u64 8)) = some r_6 ∧ (str l).sinb r ∧ ∃ (r_7 : D), D.conv IntKind.i64 ((str l).byteAt r) = some r_7 ∧ ∃ (r_8 : D), D.bin BinOp.or r_6 r_7 = some r_8 ∧ ∃ (r_9 : D), D.bin BinOp.add r (D.v (Value.int IntKind.i64 1)) = some r_9 ∧ (r_9 = r_9 ∧ r_8 = r_8 ∧ str l = str l ∧ r_1 = r_1 ∧ True) ∧ True ∧ I [r_9, r_8] ∧ μ [r_9, r_8] < μ [r, r_4]) ∧ (b = false → ∃ (r : D), PureD Try.prog 12 [r_4] [r] ∧ fits [(false, [none])] [r] ∧ ∃ (r_6 : D), D.bin BinOp.neq r r_1 = some r_6 ∧ ∃ (b : Bool), r_6 = D.v (Value.bool b) ∧ (b = true → (True ∧ True ∧ True ∧ True) ∧ [D.v (Value.int IntKind.i64 0), D.v (Value.int IntKind.i64 0), D.v (Value.int IntKind.i64 4)] = [D.v (Value.int IntKind.i64 (getF l).fst), D.v (Value.int IntKind.i64 (getF l).snd.fst), D.v (Value.int IntKind.i64 (getF l).snd.snd)]) ∧ (b = false → ((∃ (y : Value), r_4 = D.v y) ∧ (∃ (y : Value), r_1 = D.v y) ∧ True ∧ True) ∧ [r_4, r_1, D.v (Value.int IntKind.i64 0)] = [D.v (Value.int IntKind.i64 (getF l).fst), D.v (Value.int IntKind.i64 (getF l).snd.fst), D.v (Value.int IntKind.i64 (getF l).snd.snd)]))))) := by kernel_rfl
set_option maxHeartbeats 4000000 in
theorem get (l : List Int) (hB : Bytes l) (hl : l.length ≤ 1000) : PureD Try.prog 14 [str l] [.v (.int .i64 (getF l).1), .v (.int .i64 (getF l).2.1), .v (.int .i64 (getF l).2.2)] := by
  refine pure_cond (Lp := (fun k => if k = 8 then some ⟨[7, 6], [], [0, 5], []⟩ else none)) (by kernel_rfl) Try.func14 (by kernel_rfl) (by kernel_rfl) ?_
  rw [vc_get l]
  have e1 : D.bin .eql (str l) (.v (.string ⟨#[]⟩)) = some (.v (.bool (decide (l = [])))) := bin_seql hB Bytes.nil
  have h1 : True := trivial
  have hw1 : True := trivial
  have hw2 : True := trivial
  have hor : True := trivial
  by_cases hl0 : l = []
  · have hg : getF l = (0, 0, 3) := by unfold getF; rw [if_pos hl0]
    rw [hg]
    repeat' (first
      | (refine ex_some (by simp (disch := omega) only [bin_shr, bin_shl, bin_and, bin_or, bin_xor, len_str, toStr_ofL, bin_add, bin_sub, bin_mul, bin_quo, bin_rem, bin_lss, bin_leq, bin_gtr, bin_geq, bin_eql, bin_neq, eqs_cn, eqs_ci, eqs_cb, eqs_cs, Option.map_some, lenT_ofL, lst_ofL, lstSz_ofL, chunk_one, lst_nil, lst_sl, lstSz_sl, lstSz_nil, Bool.and_true, Bool.true_and, Bool.and_false, Bool.false_and, beq_self_eq_true, beq_bb, bne_bb, un_not, un_neg, conv_int, min2_int, max2_int, w64, w32, wu8, wu16, wu32, wu64, tdiv_nn, tmod_nn, cell_zero, cell_succ, cell_v, cells_v, cells_agg, Bool.not_true, Bool.not_false, Int.reduceLT, Int.reduceLE, Int.reduceEq, Int.reduceNeg, Int.reduceAdd, Int.reduceSub, Int.reduceMul, intOf_v, decide_true, decide_false]; rfl) ?_)
      | (refine ex_bool ?_)
      | (exact notAgg_v _)
      | (refine ex_some e1 ?_)
      | (refine And.intro ?_ ?_)
      | (intro hx; first | (cases hx; done) | (exfalso; revert hx; simp (disch := omega) only [decide_eq_true_eq, decide_eq_false_iff_not, Bool.not_eq_true', Bool.not_eq_false', Bool.and_eq_true, Bool.and_eq_false_iff, Int.not_lt, Int.not_le, ne_eq, not_false_eq_true, not_true_eq_false, reduceCtorEq, Bool.true_eq_false, Bool.false_eq_true, beq_iff_eq, bne_iff_ne, beq_eq_false_iff_ne, false_or, or_false, true_and, and_true]; done) | (simp (disch := omega) only [decide_eq_true_eq, decide_eq_false_iff_not, Bool.not_eq_true', Bool.not_eq_false', Bool.and_eq_true, Bool.and_eq_false_iff, Int.not_lt, Int.not_le, ne_eq, not_false_eq_true, not_true_eq_false, reduceCtorEq, Bool.true_eq_false, Bool.false_eq_true, beq_iff_eq, bne_iff_ne, beq_eq_false_iff_ne, false_or, or_false, true_and, and_true] at hx; first | (exfalso; omega) | skip) | skip)
      | trivial
      | exact fit_ofL _ _
      | (simp (disch := omega) only [notAgg_v, notAgg_sl, plain_v, fits, fitsOne, fitsCells, xsOf, cell_zero, cell_succ, List.range, List.range.loop, List.map, cond_true, cond_false, D.v.injEq, exists_eq', exists_eq, and_self, and_true, true_and, D.agg.injEq, List.length, exists_eq_left', D.sl.injEq, reduceCtorEq, false_or, true_or, or_true, or_false, cell_zero, cell_succ, cell_v, cells_v, cells_agg, List.length_cons, List.length_nil]; done))
    all_goals first | (exfalso; simp_all; done) | (simp_all; done) | fail
  · have hlen : 0 < l.length := List.length_pos_iff.2 hl0
    have c0 := hB.getD 0
    have h1 : (str l).byteAt (.v (.int .i64 0)) = .v (.int .u8 (l.getD 0 0)) := byteAt_str hB .i64 (n := 0) hlen
    have i1 : D.sinb (str l) (.v (.int .i64 0)) := sinb_str .i64 (by omega) (by omega)
    have hs := sz0_le (l.getD 0 0)
    have hv1 : vF l 1 = l.getD 0 0 % 64 := rfl
    have hgg : getF l = ((if l.length < sz0 (l.getD 0 0) then (0, 0, 3) else if szF (vF l (sz0 (l.getD 0 0))) = (sz0 (l.getD 0 0) : Nat) then (vF l (sz0 (l.getD 0 0)), (sz0 (l.getD 0 0) : Nat), 0) else (0, 0, 4)) : Int × Int × Int) := by unfold getF; rw [if_neg hl0]
    have hw1 := one_shl c0.1 c0.2
    have hw2 := and_63 c0.1 c0.2
    have C2 := long _ c0.1 c0.2
    generalize hcc : l.getD 0 0 = c at h1 hs hgg hw1 hw2 c0 hv1 C2
    generalize sz0 c = s at hs hgg hw1 C2
    have C3 := C2
    rw [← h1] at C3
    by_cases hls : l.length < s
    · rw [if_pos hls] at hgg
      rw [hgg]
      repeat' (first
        | (refine ex_some (by simp (disch := omega) only [bin_shr, bin_shl, bin_and, bin_or, bin_xor, len_str, toStr_ofL, bin_add, bin_sub, bin_mul, bin_quo, bin_rem, bin_lss, bin_leq, bin_gtr, bin_geq, bin_eql, bin_neq, eqs_cn, eqs_ci, eqs_cb, eqs_cs, Option.map_some, lenT_ofL, lst_ofL, lstSz_ofL, chunk_one, lst_nil, lst_sl, lstSz_sl, lstSz_nil, Bool.and_true, Bool.true_and, Bool.and_false, Bool.false_and, beq_self_eq_true, beq_bb, bne_bb, un_not, un_neg, conv_int, min2_int, max2_int, w64, w32, wu8, wu16, wu32, wu64, tdiv_nn, tmod_nn, cell_zero, cell_succ, cell_v, cells_v, cells_agg, Bool.not_true, Bool.not_false, Int.reduceLT, Int.reduceLE, Int.reduceEq, Int.reduceNeg, Int.reduceAdd, Int.reduceSub, Int.reduceMul, intOf_v, decide_true, decide_false, h1, hw1, hw2, shr6, shl8]; rfl) ?_)
        | (refine ex_bool ?_)
        | (exact notAgg_v _)
        | (refine ex_some e1 ?_)
        | (exact i1)
        | (refine ⟨_, C3, ?_⟩)
        | (refine And.intro ?_ ?_)
        | (intro hx; first | (cases hx; done) | (exfalso; revert hx; simp (disch := omega) only [decide_eq_true_eq, decide_eq_false_iff_not, Bool.not_eq_true', Bool.not_eq_false', Bool.and_eq_true, Bool.and_eq_false_iff, Int.not_lt, Int.not_le, ne_eq, not_false_eq_true, not_true_eq_false, reduceCtorEq, Bool.true_eq_false, Bool.false_eq_true, beq_iff_eq, bne_iff_ne, beq_eq_false_iff_ne, false_or, or_false, true_and, and_true, h1, hw1, hw2, shr6, shl8]; done) | (simp (disch := omega) only [decide_eq_true_eq, decide_eq_false_iff_not, Bool.not_eq_true', Bool.not_eq_false', Bool.and_eq_true, Bool.and_eq_false_iff, Int.not_lt, Int.not_le, ne_eq, not_false_eq_true, not_true_eq_false, reduceCtorEq, Bool.true_eq_false, Bool.false_eq_true, beq_iff_eq, bne_iff_ne, beq_eq_false_iff_ne, false_or, or_false, true_and, and_true, h1, hw1, hw2, shr6, shl8] at hx; first | (exfalso; omega) | skip) | skip)
        | trivial
        | exact fit_ofL _ _
        | (simp (disch := omega) only [notAgg_v, notAgg_sl, plain_v, fits, fitsOne, fitsCells, xsOf, cell_zero, cell_succ, List.range, List.range.loop, List.map, cond_true, cond_false, D.v.injEq, exists_eq', exists_eq, and_self, and_true, true_and, D.agg.injEq, List.length, exists_eq_left', D.sl.injEq, reduceCtorEq, false_or, true_or, or_true, or_false, cell_zero, cell_succ, cell_v, cells_v, cells_agg, List.length_cons, List.length_nil, h1, hw1, hw2, shr6, shl8]; done))
      all_goals first
        | (exfalso; omega)
        | omega
        | (simp only [leftG]; omega)
          | (rw [hn, Int.mul_comm 256 q]; rfl)
        | (rw [if_pos (by omega)]; done)
        | (rw [if_neg (by omega)]; done)
        | (simp_all; done)
        | fail
    · rw [if_neg hls] at hgg
      rw [hgg]
      have h2 : True := trivial
      have hor : True := trivial
      repeat' (first
        | (refine ex_some (by simp (disch := omega) only [bin_shr, bin_shl, bin_and, bin_or, bin_xor, len_str, toStr_ofL, bin_add, bin_sub, bin_mul, bin_quo, bin_rem, bin_lss, bin_leq, bin_gtr, bin_geq, bin_eql, bin_neq, eqs_cn, eqs_ci, eqs_cb, eqs_cs, Option.map_some, lenT_ofL, lst_ofL, lstSz_ofL, chunk_one, lst_nil, lst_sl, lstSz_sl, lstSz_nil, Bool.and_true, Bool.true_and, Bool.and_false, Bool.false_and, beq_self_eq_true, beq_bb, bne_bb, un_not, un_neg, conv_int, min2_int, max2_int, w64, w32, wu8, wu16, wu32, wu64, tdiv_nn, tmod_nn, cell_zero, cell_succ, cell_v, cells_v, cells_agg, Bool.not_true, Bool.not_false, Int.reduceLT, Int.reduceLE, Int.reduceEq, Int.reduceNeg, Int.reduceAdd, Int.reduceSub, Int.reduceMul, intOf_v, decide_true, decide_false, h1, h2, hw1, hw2, hor, shr6, shl8]; rfl) ?_)
        | (refine ex_bool ?_)
        | (exact notAgg_v _)
        | (refine ex_some e1 ?_)
        | (exact i1)
        | (refine ⟨_, C3, ?_⟩)
        | (refine ⟨_, C1, ?_⟩)
        | (refine ⟨(fun r => ∃ i : Nat, 1 ≤ i ∧ i ≤ s ∧ r = [.v (.int .i64 (i : Nat)), .v (.int .i64 (vF l i))]), leftG s, ?_⟩)
        | (refine fun (r2 r3 : D) (hI : (fun r => ∃ i : Nat, 1 ≤ i ∧ i ≤ s ∧ r = [.v (.int .i64 (i : Nat)), .v (.int .i64 (vF l i))]) [r2, r3]) => ?_; obtain ⟨i, hi, his, hl1⟩ := hI; simp only [List.cons.injEq, and_true] at hl1; obtain ⟨rfl, rfl⟩ := hl1; by_cases hlt : i < s <;> first | (have hi1 : i < s := (by omega); have h2 := byteAt_str hB .i64 (n := i) (by omega); have i2 := sinb_str (l := l) .i64 (n := (i : Nat)) (by omega) (by omega); have b2 := hB.getD i; obtain ⟨j, rfl⟩ : ∃ j, i = j + 1 := ⟨i - 1, by omega⟩; have hv := vF_low hB (k := j) (by omega); have hn : vF l (j + 1 + 1) = vF l (j + 1) * 256 + l.getD (j + 1) 0 := rfl; generalize vF l (j + 1) = q at hv hn; generalize l.getD (j + 1) 0 = b at h2 b2 hn; have hor := or_low (a := q) (b := b) hv.1 (by omega) b2.1 b2.2; have inl : True := trivial) | (have hii : i = s := (by omega); subst hii; have C1 := size (vF l i); have h2 : True := trivial))
        | (exact i2)
        | (have := inl; refine ⟨j + 1 + 1, by omega, by omega, ?_⟩)
        | (refine ⟨1, Nat.le_refl _, by omega, ?_⟩)
        | (refine And.intro ?_ ?_)
        | (intro hx; first | (cases hx; done) | (exfalso; revert hx; simp (disch := omega) only [decide_eq_true_eq, decide_eq_false_iff_not, Bool.not_eq_true', Bool.not_eq_false', Bool.and_eq_true, Bool.and_eq_false_iff, Int.not_lt, Int.not_le, ne_eq, not_false_eq_true, not_true_eq_false, reduceCtorEq, Bool.true_eq_false, Bool.false_eq_true, beq_iff_eq, bne_iff_ne, beq_eq_false_iff_ne, false_or, or_false, true_and, and_true, h1, h2, hw1, hw2, hor, shr6, shl8]; done) | (simp (disch := omega) only [decide_eq_true_eq, decide_eq_false_iff_not, Bool.not_eq_true', Bool.not_eq_false', Bool.and_eq_true, Bool.and_eq_false_iff, Int.not_lt, Int.not_le, ne_eq, not_false_eq_true, not_true_eq_false, reduceCtorEq, Bool.true_eq_false, Bool.false_eq_true, beq_iff_eq, bne_iff_ne, beq_eq_false_iff_ne, false_or, or_false, true_and, and_true, h1, h2, hw1, hw2, hor, shr6, shl8] at hx; first | (exfalso; omega) | skip) | skip)
        | trivial
        | exact fit_ofL _ _
        | (simp (disch := omega) only [notAgg_v, notAgg_sl, plain_v, fits, fitsOne, fitsCells, xsOf, cell_zero, cell_succ, List.range, List.range.loop, List.map, cond_true, cond_false, D.v.injEq, exists_eq', exists_eq, and_self, and_true, true_and, D.agg.injEq, List.length, exists_eq_left', D.sl.injEq, reduceCtorEq, false_or, true_or, or_true, or_false, cell_zero, cell_succ, cell_v, cells_v, cells_agg, List.length_cons, List.length_nil, h1, h2, hw1, hw2, hor, shr6, shl8]; done))
      all_goals first
        | (exfalso; omega)
        | omega
        | (simp only [leftG]; omega)
        | (rw [hn]; rfl)
        | (rw [hn, Int.mul_comm 256 q]; rfl)
        | (rw [if_pos (by omega)]; done)
        | (rw [if_neg (by omega)]; done)
        | (simp_all; done)
        | fail

theorem vc_rget (l : List Int) : Cond Try.prog (fun k => if k = 6 then some ⟨[7, 6], [], [0, 5], []⟩ else none) Try.f15 [str l] [.v (.int .i64 (getF l).1), .v (.int .i64 (getF l).2.1), .v (.int .i64 (getF l).2.2)] = ((NotAgg (str l) ∧ True) ∧ ∃ (r : D), D.bin BinOp.eql (str l) (D.v (Value.string { data := { toList := [] } })) = some r ∧ ∃ (b : Bool), r = D.v (Value.bool b) ∧ (b = false → ∃ (r : D), D.lenT TypeDesc.string (str l) = some r ∧ (str l).sinb (D.v (Value.int IntKind.i64 0)) ∧ ∃ (r_1 : D), PureD Try.prog 21 [(str l).byteAt (D.v (Value.int IntKind.i64 0))] [r_1] ∧ fits [(false, [none])] [r_1] ∧ ∃ (r_2 : D), D.bin BinOp.lss r r_1 = some r_2 ∧ ∃ (b : Bool), r_2 = D.v (Value.bool b) ∧ (b = true → (True ∧ True ∧ True ∧ True) ∧ [D.v (Value.int IntKind.i64 0), D.v (Value.int IntKind.i64 0), D.v (Value.int IntKind.i64 3)] = [D.v (Value.int IntKind.i64 (getF l).fst), D.v (Value.int IntKind.i64 (getF l).snd.fst), D.v (Value.int IntKind.i64 (getF l).snd.snd)]) ∧ (b = false → (str l).sinb (D.v (Value.int IntKind.i64 0)) ∧ ∃ (r : D), PureD Try.prog 21 [(str l).byteAt (D.v (Value.int IntKind.i64 0))] [r] ∧ fits [(false, [none])] [r] ∧ (str l).sinb (D.v (Value.int IntKind.i64 0)) ∧ ∃ (r_3 : D), D.bin BinOp.rem ((str l).byteAt (D.v (Value.int IntKind.i64 0))) (D.v (Value.int IntKind.u8 64)) = some r_3 ∧ ∃ (r_4 : D), D.conv IntKind.i64 r_3 = some r_4 ∧ ∃ (I : List D → Prop), ∃ (μ : List D → Nat), ((D.v (Value.int IntKind.i64 1) = D.v (Value.int IntKind.i64 1) ∧ r_4 = r_4 ∧ str l = str l ∧ r = r ∧ True) ∧ True ∧ I [D.v (Value.int IntKind.i64 1), r_4]) ∧ ∀ (r_5 r_6 : D), I [r_5, r_6] → ∃ (r_7 : D), D.bin BinOp.lss r_5 r = some r_7 ∧ ∃ (b : Bool), r_7 = D.v (Value.bool b) ∧ (b = true → ∃ (r_8 : D), D.bin BinOp.mul (D.v (Value.int IntKind.i64 256)) r_6 = some r_8 ∧ (str l).sinb r_5 ∧ ∃ (r_9 : D), D.conv IntKind.i64 ((str l).byteAt r_5) = some r_9 ∧ ∃ (r_10 : D), D.bin BinOp.add r_8 r_9 = some r_10 ∧ ∃ (r_11 : D), D.bin BinOp.add r_5 (D.v (Value.int IntKind.i64 1)) = some r_11 ∧ (r_11 = r_11 ∧ r_10 = r_10 ∧ str l = str l ∧ r = r ∧ True) ∧ True ∧ I [r_11, r_10] ∧ μ [r_11, r_10] < μ [r_5, r_6]) ∧ (b = false → ∃ (r_8 : D), PureD Try.prog 13 [r_6] [r_8] ∧ fits [(false, [none])] [r_8] ∧ ∃ (r_9 : D), D.bin BinOp.neq r_8 r = some r_9 ∧ ∃ (b : Bool), r_9 = D.v (Value.bool b) ∧ (b = true → (True ∧ True ∧ True ∧ True) ∧ [D.v (Value.int IntKind.i64 0), D.v (Value.int IntKind.i64 0), D.v (Value.int IntKind.i64 4)] = [D.v (Value.int IntKind.i64 (getF l).fst), D.v (Value.int IntKind.i64 (getF l).snd.fst), D.v (Value.int IntKind.i64 (getF l).snd.snd)]) ∧ (b = false → ((∃ (y : Value), r_6 = D.v y) ∧ (∃ (y : Value), r = D.v y) ∧ True ∧ True) ∧ [r_6, r, D.v (Value.int IntKind.i64 0)] = [D.v (Value.int IntKind.i64 (getF l).fst), D.v (Value.int IntKind.i64 (getF l).snd.fst), D.v (Value.int IntKind.i64 (getF l).snd.snd)])))) ∧ (b = true → (True ∧ True ∧ True ∧ True) ∧ [D.v (Value.int IntKind.i64 0), D.v (Value.int IntKind.i64 0), D.v (Value.int IntKind.i64 3)] = [D.v (Value.int IntKind.i64 (getF l).fst), D.v (Value.int IntKind.i64 (getF l).snd.fst), D.v (Value.int IntKind.i64 (getF l).snd.snd)])) := by kernel_rfl
set_option maxHeartbeats 4000000 in
theorem rget (l : List Int) (hB : Bytes l) (hl : l.length ≤ 1000) : PureD Try.prog 15 [str l] [.v (.int .i64 (getF l).1), .v (.int .i64 (getF l).2.1), .v (.int .i64 (getF l).2.2)] := by
  refine pure_cond (Lp := (fun k => if k = 6 then some ⟨[7, 6], [], [0, 5], []⟩ else none)) (by kernel_rfl) Try.func15 (by kernel_rfl) (by kernel_rfl) ?_
  rw [vc_rget l]
  have e1 : D.bin .eql (str l) (.v (.string ⟨#[]⟩)) = some (.v (.bool (decide (l = [])))) := bin_seql hB Bytes.nil
  have h1 : True := trivial
  have hw1 : True := trivial
  have hw2 : True := trivial
  have hor : True := trivial
  by_cases hl0 : l = []
  · have hg : getF l = (0, 0, 3) := by unfold getF; rw [if_pos hl0]
    rw [hg]
    repeat' (first
      | (refine ex_some (by simp (disch := omega) only [bin_shr, bin_shl, bin_and, bin_or, bin_xor, len_str, toStr_ofL, bin_add, bin_sub, bin_mul, bin_quo, bin_rem, bin_lss, bin_leq, bin_gtr, bin_geq, bin_eql, bin_neq, eqs_cn, eqs_ci, eqs_cb, eqs_cs, Option.map_some, lenT_ofL, lst_ofL, lstSz_ofL, chunk_one, lst_nil, lst_sl, lstSz_sl, lstSz_nil, Bool.and_true, Bool.true_and, Bool.and_false, Bool.false_and, beq_self_eq_true, beq_bb, bne_bb, un_not, un_neg, conv_int, min2_int, max2_int, w64, w32, wu8, wu16, wu32, wu64, tdiv_nn, tmod_nn, cell_zero, cell_succ, cell_v, cells_v, cells_agg, Bool.not_true, Bool.not_false, Int.reduceLT, Int.reduceLE, Int.reduceEq, Int.reduceNeg, Int.reduceAdd, Int.reduceSub, Int.reduceMul, intOf_v, decide_true, decide_false]; rfl) ?_)
      | (refine ex_bool ?_)
      | (exact notAgg_v _)
      | (refine ex_some e1 ?_)
      | (refine And.intro ?_ ?_)
      | (intro hx; first | (cases hx; done) | (exfalso; revert hx; simp (disch := omega) only [decide_eq_true_eq, decide_eq_false_iff_not, Bool.not_eq_true', Bool.not_eq_false', Bool.and_eq_true, Bool.and_eq_false_iff, Int.not_lt, Int.not_le, ne_eq, not_false_eq_true, not_true_eq_false, reduceCtorEq, Bool.true_eq_false, Bool.false_eq_true, beq_iff_eq, bne_iff_ne, beq_eq_false_iff_ne, false_or, or_false, true_and, and_true]; done) | (simp (disch := omega) only [decide_eq_true_eq, decide_eq_false_iff_not, Bool.not_eq_true', Bool.not_eq_false', Bool.and_eq_true, Bool.and_eq_false_iff, Int.not_lt, Int.not_le, ne_eq, not_false_eq_true, not_true_eq_false, reduceCtorEq, Bool.true_eq_false, Bool.false_eq_true, beq_iff_eq, bne_iff_ne, beq_eq_false_iff_ne, false_or, or_false, true_and, and_true] at hx; first | (exfalso; omega) | skip) | skip)
      | trivial
      | exact fit_ofL _ _
      | (simp (disch := omega) only [notAgg_v, notAgg_sl, plain_v, fits, fitsOne, fitsCells, xsOf, cell_zero, cell_succ, List.range, List.range.loop, List.map, cond_true, cond_false, D.v.injEq, exists_eq', exists_eq, and_self, and_true, true_and, D.agg.injEq, List.length, exists_eq_left', D.sl.injEq, reduceCtorEq, false_or, true_or, or_true, or_false, cell_zero, cell_succ, cell_v, cells_v, cells_agg, List.length_cons, List.length_nil]; done))
    all_goals first | (exfalso; simp_all; done) | (simp_all; done) | fail
  · have hlen : 0 < l.length := List.length_pos_iff.2 hl0
    have c0 := hB.getD 0
    have h1 : (str l).byteAt (.v (.int .i64 0)) = .v (.int .u8 (l.getD 0 0)) := byteAt_str hB .i64 (n := 0) hlen
    have i1 : D.sinb (str l) (.v (.int .i64 0)) := sinb_str .i64 (by omega) (by omega)
    have hs := sz0_le (l.getD 0 0)
    have hv1 : vF l 1 = l.getD 0 0 % 64 := rfl
    have hgg : getF l = ((if l.length < sz0 (l.getD 0 0) then (0, 0, 3) else if szF (vF l (sz0 (l.getD 0 0))) = (sz0 (l.getD 0 0) : Nat) then (vF l (sz0 (l.getD 0 0)), (sz0 (l.getD 0 0) : Nat), 0) else (0, 0, 4)) : Int × Int × Int) := by unfold getF; rw [if_neg hl0]
    have hw1 := one_shl c0.1 c0.2
    have hw2 := and_63 c0.1 c0.2
    have C2 := long _ c0.1 c0.2
    generalize hcc : l.getD 0 0 = c at h1 hs hgg hw1 hw2 c0 hv1 C2
    generalize sz0 c = s at hs hgg hw1 C2
    have C3 := C2
    rw [← h1] at C3
    by_cases hls : l.length < s
    · rw [if_pos hls] at hgg
      rw [hgg]
      repeat' (first
        | (refine ex_some (by simp (disch := omega) only [bin_shr, bin_shl, bin_and, bin_or, bin_xor, len_str, toStr_ofL, bin_add, bin_sub, bin_mul, bin_quo, bin_rem, bin_lss, bin_leq, bin_gtr, bin_geq, bin_eql, bin_neq, eqs_cn, eqs_ci, eqs_cb, eqs_cs, Option.map_some, lenT_ofL, lst_ofL, lstSz_ofL, chunk_one, lst_nil, lst_sl, lstSz_sl, lstSz_nil, Bool.and_true, Bool.true_and, Bool.and_false, Bool.false_and, beq_self_eq_true, beq_bb, bne_bb, un_not, un_neg, conv_int, min2_int, max2_int, w64, w32, wu8, wu16, wu32, wu64, tdiv_nn, tmod_nn, cell_zero, cell_succ, cell_v, cells_v, cells_agg, Bool.not_true, Bool.not_false, Int.reduceLT, Int.reduceLE, Int.reduceEq, Int.reduceNeg, Int.reduceAdd, Int.reduceSub, Int.reduceMul, intOf_v, decide_true, decide_false, h1, hw1, hw2, shr6, shl8]; rfl) ?_)
        | (refine ex_bool ?_)
        | (exact notAgg_v _)
        | (refine ex_some e1 ?_)
        | (exact i1)
        | (refine ⟨_, C3, ?_⟩)
        | (refine And.intro ?_ ?_)
        | (intro hx; first | (cases hx; done) | (exfalso; revert hx; simp (disch := omega) only [decide_eq_true_eq, decide_eq_false_iff_not, Bool.not_eq_true', Bool.not_eq_false', Bool.and_eq_true, Bool.and_eq_false_iff, Int.not_lt, Int.not_le, ne_eq, not_false_eq_true, not_true_eq_false, reduceCtorEq, Bool.true_eq_false, Bool.false_eq_true, beq_iff_eq, bne_iff_ne, beq_eq_false_iff_ne, false_or, or_false, true_and, and_true, h1, hw1, hw2, shr6, shl8]; done) | (simp (disch := omega) only [decide_eq_true_eq, decide_eq_false_iff_not, Bool.not_eq_true', Bool.not_eq_false', Bool.and_eq_true, Bool.and_eq_false_iff, Int.not_lt, Int.not_le, ne_eq, not_false_eq_true, not_true_eq_false, reduceCtorEq, Bool.true_eq_false, Bool.false_eq_true, beq_iff_eq, bne_iff_ne, beq_eq_false_iff_ne, false_or, or_false, true_and, and_true, h1, hw1, hw2, shr6, shl8] at hx; first | (exfalso; omega) | skip) | skip)
        | trivial
        | exact fit_ofL _ _
        | (simp (disch := omega) only [notAgg_v, notAgg_sl, plain_v, fits, fitsOne, fitsCells, xsOf, cell_zero, cell_succ, List.range, List.range.loop, List.map, cond_true, cond_false, D.v.injEq, exists_eq', exists_eq, and_self, and_true, true_and, D.agg.injEq, List.length, exists_eq_left', D.sl.injEq, reduceCtorEq, false_or, true_or, or_true, or_false, cell_zero, cell_succ, cell_v, cells_v, cells_agg, List.length_cons, List.length_nil, h1, hw1, hw2, shr6, shl8]; done))
      all_goals first
        | (exfalso; omega)
        | omega
        | (simp only [leftG]; omega)
          | (rw [hn, Int.mul_comm 256 q]; rfl)
        | (rw [if_pos (by omega)]; done)
        | (rw [if_neg (by omega)]; done)
        | (simp_all; done)
        | fail
    · rw [if_neg hls] at hgg
      rw [hgg]
      have h2 : True := trivial
      have hor : True := trivial
      repeat' (first
        | (refine ex_some (by simp (disch := omega) only [bin_shr, bin_shl, bin_and, bin_or, bin_xor, len_str, toStr_ofL, bin_add, bin_sub, bin_mul, bin_quo, bin_rem, bin_lss, bin_leq, bin_gtr, bin_geq, bin_eql, bin_neq, eqs_cn, eqs_ci, eqs_cb, eqs_cs, Option.map_some, lenT_ofL, lst_ofL, lstSz_ofL, chunk_one, lst_nil, lst_sl, lstSz_sl, lstSz_nil, Bool.and_true, Bool.true_and, Bool.and_false, Bool.false_and, beq_self_eq_true, beq_bb, bne_bb, un_not, un_neg, conv_int, min2_int, max2_int, w64, w32, wu8, wu16, wu32, wu64, tdiv_nn, tmod_nn, cell_zero, cell_succ, cell_v, cells_v, cells_agg, Bool.not_true, Bool.not_false, Int.reduceLT, Int.reduceLE, Int.reduceEq, Int.reduceNeg, Int.reduceAdd, Int.reduceSub, Int.reduceMul, intOf_v, decide_true, decide_false, h1, h2, hw1, hw2, hor, shr6, shl8]; rfl) ?_)
        | (refine ex_bool ?_)
        | (exact notAgg_v _)
        | (refine ex_some e1 ?_)
        | (exact i1)
        | (refine ⟨_, C3, ?_⟩)
        | (refine ⟨_, C1, ?_⟩)
        | (refine ⟨(fun r => ∃ i : Nat, 1 ≤ i ∧ i ≤ s ∧ r = [.v (.int .i64 (i : Nat)), .v (.int .i64 (vF l i))]), leftG s, ?_⟩)
        | (refine fun (r2 r3 : D) (hI : (fun r => ∃ i : Nat, 1 ≤ i ∧ i ≤ s ∧ r = [.v (.int .i64 (i : Nat)), .v (.int .i64 (vF l i))]) [r2, r3]) => ?_; obtain ⟨i, hi, his, hl1⟩ := hI; simp only [List.cons.injEq, and_true] at hl1; obtain ⟨rfl, rfl⟩ := hl1; by_cases hlt : i < s <;> first | (have hi1 : i < s := (by omega); have h2 := byteAt_str hB .i64 (n := i) (by omega); have i2 := sinb_str (l := l) .i64 (n := (i : Nat)) (by omega) (by omega); have b2 := hB.getD i; obtain ⟨j, rfl⟩ : ∃ j, i = j + 1 := ⟨i - 1, by omega⟩; have hv := vF_low hB (k := j) (by omega); have hn : vF l (j + 1 + 1) = vF l (j + 1) * 256 + l.getD (j + 1) 0 := rfl; generalize vF l (j + 1) = q at hv hn; generalize l.getD (j + 1) 0 = b at h2 b2 hn; have hor := or_low (a := q) (b := b) hv.1 (by omega) b2.1 b2.2; have inl : True := trivial) | (have hii : i = s := (by omega); subst hii; have C1 := rsize (vF l i); have h2 : True := trivial))
        | (exact i2)
        | (have := inl; refine ⟨j + 1 + 1, by omega, by omega, ?_⟩)
        | (refine ⟨1, Nat.le_refl _, by omega, ?_⟩)
        | (refine And.intro ?_ ?_)
        | (intro hx; first | (cases hx; done) | (exfalso; revert hx; simp (disch := omega) only [decide_eq_true_eq, decide_eq_false_iff_not, Bool.not_eq_true', Bool.not_eq_false', Bool.and_eq_true, Bool.and_eq_false_iff, Int.not_lt, Int.not_le, ne_eq, not_false_eq_true, not_true_eq_false, reduceCtorEq, Bool.true_eq_false, Bool.false_eq_true, beq_iff_eq, bne_iff_ne, beq_eq_false_iff_ne, false_or, or_false, true_and, and_true, h1, h2, hw1, hw2, hor, shr6, shl8]; done) | (simp (disch := omega) only [decide_eq_true_eq, decide_eq_false_iff_not, Bool.not_eq_true', Bool.not_eq_false', Bool.and_eq_true, Bool.and_eq_false_iff, Int.not_lt, Int.not_le, ne_eq, not_false_eq_true, not_true_eq_false, reduceCtorEq, Bool.true_eq_false, Bool.false_eq_true, beq_iff_eq, bne_iff_ne, beq_eq_false_iff_ne, false_or, or_false, true_and, and_true, h1, h2, hw1, hw2, hor, shr6, shl8] at hx; first | (exfalso; omega) | skip) | skip)
        | trivial
        | exact fit_ofL _ _
        | (simp (disch := omega) only [notAgg_v, notAgg_sl, plain_v, fits, fitsOne, fitsCells, xsOf, cell_zero, cell_succ, List.range, List.range.loop, List.map, cond_true, cond_false, D.v.injEq, exists_eq', exists_eq, and_self, and_true, true_and, D.agg.injEq, List.length, exists_eq_left', D.sl.injEq, reduceCtorEq, false_or, true_or, or_true, or_false, cell_zero, cell_succ, cell_v, cells_v, cells_agg, List.length_cons, List.length_nil, h1, h2, hw1, hw2, hor, shr6, shl8]; done))
      all_goals first
        | (exfalso; omega)
        | omega
        | (simp only [leftG]; omega)
        | (rw [hn]; rfl)
        | (rw [hn, Int.mul_comm 256 q]; rfl)
        | (rw [if_pos (by omega)]; done)
        | (rw [if_neg (by omega)]; done)
        | (simp_all; done)
        | fail

end Go.Proofs.Ytojbpgkjenghaaa