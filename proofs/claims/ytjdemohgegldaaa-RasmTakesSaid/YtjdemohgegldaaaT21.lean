/-
  Layer 24: what is put, and read.
-/
import Derived.Test.YtjdemohgegldaaaT1
import Derived.Test.YtjdemohgegldaaaT2
import Derived.Test.YtjdemohgegldaaaT3
import Derived.Test.YtjdemohgegldaaaT4
import Derived.Test.YtjdemohgegldaaaT6
import Derived.Test.YtjdemohgegldaaaT7
import Derived.Test.YtjdemohgegldaaaT8
import Derived.Test.YtjdemohgegldaaaT10
import Derived.Test.YtjdemohgegldaaaT11
import Derived.Test.YtjdemohgegldaaaT13
import Derived.Test.YtjdemohgegldaaaT15
import Derived.Test.YtjdemohgegldaaaT16
import Derived.Test.YtjdemohgegldaaaT17
import Derived.Test.YtjdemohgegldaaaT18
import Derived.Test.YtjdemohgegldaaaT19
import Derived.Test.YtjdemohgegldaaaT20
namespace Go.Proofs.Ytjdemohgegldaaa
open Go.RowKit
set_option linter.unusedSimpArgs false
set_option linter.unusedVariables false


def shutF (b : Int) (ps : List Pt) (e v : Int) (n : Nat) (fin : Bool) : Prop := (e ≠ -1 ∧ (e < v + n ∨ (fin = true ∧ v + n ≠ e))) ∨ (fin = true ∧ v + n < highF b ps)
instance (b : Int) (ps : List Pt) (e v : Int) (n : Nat) (fin : Bool) : Decidable (shutF b ps e v n fin) := by unfold shutF; infer_instance

theorem vc_rkput_bad (x : D) (ps : List Pt) (b : Int) (r : List Int) (e : Int) (s : List Int) (v : Int) (fin : Bool) (b2 e2 n2 cd : Int) (r2 : List Int) (y : D) : CondR Try.prog (fun _ => none) Try.f9 [.agg [.v (.int .i64 b), str r, x, .v (.int .i64 e)], .v (.int .i64 v), str s, .v (.bool fin)] [.agg [.v (.int .i64 b2), str r2, y, .v (.int .i64 e2)], .v (.int .i64 n2), .v (.int .u32 cd)] = (((∃ (cs : List D), D.agg [D.v (Value.int IntKind.i64 b), str r, x, D.v (Value.int IntKind.i64 e)] = D.agg cs ∧ cs.length = 4) ∧ NotAgg (D.v (Value.int IntKind.i64 v)) ∧ NotAgg (str s) ∧ NotAgg (D.v (Value.bool fin)) ∧ True) ∧ ∃ (r_1 : D), PureD Try.prog 13 [D.agg [D.v (Value.int IntKind.i64 b), str r, x, D.v (Value.int IntKind.i64 e)]] [r_1] ∧ fits [(false, [none])] [r_1] ∧ ∃ (r_2 : D), D.bin BinOp.neq r_1 (D.v (Value.int IntKind.i64 0)) = some r_2 ∧ ∃ (b_1 : Bool), r_2 = D.v (Value.bool b_1) ∧ (b_1 = false → ∃ (r_3 : D), D.bin BinOp.lss (D.v (Value.int IntKind.i64 v)) (D.v (Value.int IntKind.i64 0)) = some r_3 ∧ ∃ (b_2 : Bool), r_3 = D.v (Value.bool b_2) ∧ (b_2 = false → ∃ (r_4 : D), D.lenT TypeDesc.string (str s) = some r_4 ∧ ∃ (r_5 : D), D.bin BinOp.sub (D.v (Value.int IntKind.i64 1099511627776)) r_4 = some r_5 ∧ ∃ (r_6 : D), D.bin BinOp.gtr (D.v (Value.int IntKind.i64 v)) r_5 = some r_6 ∧ ∃ (b_3 : Bool), r_6 = D.v (Value.bool b_3) ∧ (b_3 = true → [D.agg [D.v (Value.int IntKind.i64 b), str r, x, D.v (Value.int IntKind.i64 e)], D.v (Value.int IntKind.i64 0), D.v (Value.int IntKind.u32 2)] = [D.agg [D.v (Value.int IntKind.i64 b2), str r2, y, D.v (Value.int IntKind.i64 e2)], D.v (Value.int IntKind.i64 n2), D.v (Value.int IntKind.u32 cd)]) ∧ (b_3 = false → ∃ (r_7 : D), D.lenT TypeDesc.string (str s) = some r_7 ∧ ∃ (r_8 : D), D.bin BinOp.add (D.v (Value.int IntKind.i64 v)) r_7 = some r_8 ∧ ∃ (r_9 : D), D.bin BinOp.neq (D.v (Value.int IntKind.i64 e)) (D.v (Value.int IntKind.i64 (-1))) = some r_9 ∧ ∃ (b_4 : Bool), r_9 = D.v (Value.bool b_4) ∧ (b_4 = true → ∃ (r_10 : D), D.bin BinOp.gtr r_8 (D.v (Value.int IntKind.i64 e)) = some r_10 ∧ ∃ (b_5 : Bool), r_10 = D.v (Value.bool b_5) ∧ (b_5 = false → ∃ (b_6 : Bool), D.v (Value.bool fin) = D.v (Value.bool b_6) ∧ (b_6 = true → ∃ (r_11 : D), D.bin BinOp.neq r_8 (D.v (Value.int IntKind.i64 e)) = some r_11 ∧ ∃ (b_7 : Bool), r_11 = D.v (Value.bool b_7) ∧ (b_7 = false → ∃ (b_8 : Bool), D.v (Value.bool fin) = D.v (Value.bool b_8) ∧ (b_8 = true → ∃ (r_12 : D), PureD Try.prog 19 [D.agg [D.v (Value.int IntKind.i64 b), str r, x, D.v (Value.int IntKind.i64 e)]] [r_12] ∧ fits [(false, [none])] [r_12] ∧ ∃ (r_13 : D), D.bin BinOp.lss r_8 r_12 = some r_13 ∧ ∃ (b_9 : Bool), r_13 = D.v (Value.bool b_9) ∧ (b_9 = true → [D.agg [D.v (Value.int IntKind.i64 b), str r, x, D.v (Value.int IntKind.i64 e)], D.v (Value.int IntKind.i64 0), D.v (Value.int IntKind.u32 5)] = [D.agg [D.v (Value.int IntKind.i64 b2), str r2, y, D.v (Value.int IntKind.i64 e2)], D.v (Value.int IntKind.i64 n2), D.v (Value.int IntKind.u32 cd)]) ∧ (b_9 = false → ∃ (r_14 : D), ∃ (r_15 : D), ReadD Try.prog 26 [D.agg [D.v (Value.int IntKind.i64 b), str r, x], D.v (Value.int IntKind.i64 v), str s] [r_14, r_15] ∧ ((∃ (cs : List D), r_14 = D.agg cs ∧ cs.length = [none, none, some 2].length) ∧ NotAgg r_15 ∧ True) ∧ ∃ (b : Bool), D.v (Value.bool fin) = D.v (Value.bool b) ∧ (b = true → [D.agg [r_14.cell 0, r_14.cell 1, r_14.cell 2, r_8], r_15, D.v (Value.int IntKind.u32 0)] = [D.agg [D.v (Value.int IntKind.i64 b2), str r2, y, D.v (Value.int IntKind.i64 e2)], D.v (Value.int IntKind.i64 n2), D.v (Value.int IntKind.u32 cd)]) ∧ (b = false → [D.agg [r_14.cell 0, r_14.cell 1, r_14.cell 2, D.v (Value.int IntKind.i64 e)], r_15, D.v (Value.int IntKind.u32 0)] = [D.agg [D.v (Value.int IntKind.i64 b2), str r2, y, D.v (Value.int IntKind.i64 e2)], D.v (Value.int IntKind.i64 n2), D.v (Value.int IntKind.u32 cd)]))) ∧ (b_8 = false → ∃ (r_12 : D), ∃ (r_13 : D), ReadD Try.prog 26 [D.agg [D.v (Value.int IntKind.i64 b), str r, x], D.v (Value.int IntKind.i64 v), str s] [r_12, r_13] ∧ ((∃ (cs : List D), r_12 = D.agg cs ∧ cs.length = [none, none, some 2].length) ∧ NotAgg r_13 ∧ True) ∧ ∃ (b : Bool), D.v (Value.bool fin) = D.v (Value.bool b) ∧ (b = true → [D.agg [r_12.cell 0, r_12.cell 1, r_12.cell 2, r_8], r_13, D.v (Value.int IntKind.u32 0)] = [D.agg [D.v (Value.int IntKind.i64 b2), str r2, y, D.v (Value.int IntKind.i64 e2)], D.v (Value.int IntKind.i64 n2), D.v (Value.int IntKind.u32 cd)]) ∧ (b = false → [D.agg [r_12.cell 0, r_12.cell 1, r_12.cell 2, D.v (Value.int IntKind.i64 e)], r_13, D.v (Value.int IntKind.u32 0)] = [D.agg [D.v (Value.int IntKind.i64 b2), str r2, y, D.v (Value.int IntKind.i64 e2)], D.v (Value.int IntKind.i64 n2), D.v (Value.int IntKind.u32 cd)]))) ∧ (b_7 = true → [D.agg [D.v (Value.int IntKind.i64 b), str r, x, D.v (Value.int IntKind.i64 e)], D.v (Value.int IntKind.i64 0), D.v (Value.int IntKind.u32 5)] = [D.agg [D.v (Value.int IntKind.i64 b2), str r2, y, D.v (Value.int IntKind.i64 e2)], D.v (Value.int IntKind.i64 n2), D.v (Value.int IntKind.u32 cd)])) ∧ (b_6 = false → ∃ (b_7 : Bool), D.v (Value.bool fin) = D.v (Value.bool b_7) ∧ (b_7 = true → ∃ (r_11 : D), PureD Try.prog 19 [D.agg [D.v (Value.int IntKind.i64 b), str r, x, D.v (Value.int IntKind.i64 e)]] [r_11] ∧ fits [(false, [none])] [r_11] ∧ ∃ (r_12 : D), D.bin BinOp.lss r_8 r_11 = some r_12 ∧ ∃ (b_8 : Bool), r_12 = D.v (Value.bool b_8) ∧ (b_8 = true → [D.agg [D.v (Value.int IntKind.i64 b), str r, x, D.v (Value.int IntKind.i64 e)], D.v (Value.int IntKind.i64 0), D.v (Value.int IntKind.u32 5)] = [D.agg [D.v (Value.int IntKind.i64 b2), str r2, y, D.v (Value.int IntKind.i64 e2)], D.v (Value.int IntKind.i64 n2), D.v (Value.int IntKind.u32 cd)]) ∧ (b_8 = false → ∃ (r_13 : D), ∃ (r_14 : D), ReadD Try.prog 26 [D.agg [D.v (Value.int IntKind.i64 b), str r, x], D.v (Value.int IntKind.i64 v), str s] [r_13, r_14] ∧ ((∃ (cs : List D), r_13 = D.agg cs ∧ cs.length = [none, none, some 2].length) ∧ NotAgg r_14 ∧ True) ∧ ∃ (b : Bool), D.v (Value.bool fin) = D.v (Value.bool b) ∧ (b = true → [D.agg [r_13.cell 0, r_13.cell 1, r_13.cell 2, r_8], r_14, D.v (Value.int IntKind.u32 0)] = [D.agg [D.v (Value.int IntKind.i64 b2), str r2, y, D.v (Value.int IntKind.i64 e2)], D.v (Value.int IntKind.i64 n2), D.v (Value.int IntKind.u32 cd)]) ∧ (b = false → [D.agg [r_13.cell 0, r_13.cell 1, r_13.cell 2, D.v (Value.int IntKind.i64 e)], r_14, D.v (Value.int IntKind.u32 0)] = [D.agg [D.v (Value.int IntKind.i64 b2), str r2, y, D.v (Value.int IntKind.i64 e2)], D.v (Value.int IntKind.i64 n2), D.v (Value.int IntKind.u32 cd)]))) ∧ (b_7 = false → ∃ (r_11 : D), ∃ (r_12 : D), ReadD Try.prog 26 [D.agg [D.v (Value.int IntKind.i64 b), str r, x], D.v (Value.int IntKind.i64 v), str s] [r_11, r_12] ∧ ((∃ (cs : List D), r_11 = D.agg cs ∧ cs.length = [none, none, some 2].length) ∧ NotAgg r_12 ∧ True) ∧ ∃ (b : Bool), D.v (Value.bool fin) = D.v (Value.bool b) ∧ (b = true → [D.agg [r_11.cell 0, r_11.cell 1, r_11.cell 2, r_8], r_12, D.v (Value.int IntKind.u32 0)] = [D.agg [D.v (Value.int IntKind.i64 b2), str r2, y, D.v (Value.int IntKind.i64 e2)], D.v (Value.int IntKind.i64 n2), D.v (Value.int IntKind.u32 cd)]) ∧ (b = false → [D.agg [r_11.cell 0, r_11.cell 1, r_11.cell 2, D.v (Value.int IntKind.i64 e)], r_12, D.v (Value.int IntKind.u32 0)] = [D.agg [D.v (Value.int IntKind.i64 b2), str r2, y, D.v (Value.int IntKind.i64 e2)], D.v (Value.int IntKind.i64 n2), D.v (Value.int IntKind.u32 cd)])))) ∧ (b_5 = true → [D.agg [D.v (Value.int IntKind.i64 b), str r, x, D.v (Value.int IntKind.i64 e)], D.v (Value.int IntKind.i64 0), D.v (Value.int IntKind.u32 5)] = [D.agg [D.v (Value.int IntKind.i64 b2), str r2, y, D.v (Value.int IntKind.i64 e2)], D.v (Value.int IntKind.i64 n2), D.v (Value.int IntKind.u32 cd)])) ∧ (b_4 = false → ∃ (b_5 : Bool), D.v (Value.bool fin) = D.v (Value.bool b_5) ∧ (b_5 = true → ∃ (r_10 : D), PureD Try.prog 19 [D.agg [D.v (Value.int IntKind.i64 b), str r, x, D.v (Value.int IntKind.i64 e)]] [r_10] ∧ fits [(false, [none])] [r_10] ∧ ∃ (r_11 : D), D.bin BinOp.lss r_8 r_10 = some r_11 ∧ ∃ (b_6 : Bool), r_11 = D.v (Value.bool b_6) ∧ (b_6 = true → [D.agg [D.v (Value.int IntKind.i64 b), str r, x, D.v (Value.int IntKind.i64 e)], D.v (Value.int IntKind.i64 0), D.v (Value.int IntKind.u32 5)] = [D.agg [D.v (Value.int IntKind.i64 b2), str r2, y, D.v (Value.int IntKind.i64 e2)], D.v (Value.int IntKind.i64 n2), D.v (Value.int IntKind.u32 cd)]) ∧ (b_6 = false → ∃ (r_12 : D), ∃ (r_13 : D), ReadD Try.prog 26 [D.agg [D.v (Value.int IntKind.i64 b), str r, x], D.v (Value.int IntKind.i64 v), str s] [r_12, r_13] ∧ ((∃ (cs : List D), r_12 = D.agg cs ∧ cs.length = [none, none, some 2].length) ∧ NotAgg r_13 ∧ True) ∧ ∃ (b : Bool), D.v (Value.bool fin) = D.v (Value.bool b) ∧ (b = true → [D.agg [r_12.cell 0, r_12.cell 1, r_12.cell 2, r_8], r_13, D.v (Value.int IntKind.u32 0)] = [D.agg [D.v (Value.int IntKind.i64 b2), str r2, y, D.v (Value.int IntKind.i64 e2)], D.v (Value.int IntKind.i64 n2), D.v (Value.int IntKind.u32 cd)]) ∧ (b = false → [D.agg [r_12.cell 0, r_12.cell 1, r_12.cell 2, D.v (Value.int IntKind.i64 e)], r_13, D.v (Value.int IntKind.u32 0)] = [D.agg [D.v (Value.int IntKind.i64 b2), str r2, y, D.v (Value.int IntKind.i64 e2)], D.v (Value.int IntKind.i64 n2), D.v (Value.int IntKind.u32 cd)]))) ∧ (b_5 = false → ∃ (r_10 : D), ∃ (r_11 : D), ReadD Try.prog 26 [D.agg [D.v (Value.int IntKind.i64 b), str r, x], D.v (Value.int IntKind.i64 v), str s] [r_10, r_11] ∧ ((∃ (cs : List D), r_10 = D.agg cs ∧ cs.length = [none, none, some 2].length) ∧ NotAgg r_11 ∧ True) ∧ ∃ (b : Bool), D.v (Value.bool fin) = D.v (Value.bool b) ∧ (b = true → [D.agg [r_10.cell 0, r_10.cell 1, r_10.cell 2, r_8], r_11, D.v (Value.int IntKind.u32 0)] = [D.agg [D.v (Value.int IntKind.i64 b2), str r2, y, D.v (Value.int IntKind.i64 e2)], D.v (Value.int IntKind.i64 n2), D.v (Value.int IntKind.u32 cd)]) ∧ (b = false → [D.agg [r_10.cell 0, r_10.cell 1, r_10.cell 2, D.v (Value.int IntKind.i64 e)], r_11, D.v (Value.int IntKind.u32 0)] = [D.agg [D.v (Value.int IntKind.i64 b2), str r2, y, D.v (Value.int IntKind.i64 e2)], D.v (Value.int IntKind.i64 n2), D.v (Value.int IntKind.u32 cd)]))))) ∧ (b_2 = true → [D.agg [D.v (Value.int IntKind.i64 b), str r, x, D.v (Value.int IntKind.i64 e)], D.v (Value.int IntKind.i64 0), D.v (Value.int IntKind.u32 2)] = [D.agg [D.v (Value.int IntKind.i64 b2), str r2, y, D.v (Value.int IntKind.i64 e2)], D.v (Value.int IntKind.i64 n2), D.v (Value.int IntKind.u32 cd)])) ∧ (b_1 = true → [D.agg [D.v (Value.int IntKind.i64 b), str r, x, D.v (Value.int IntKind.i64 e)], D.v (Value.int IntKind.i64 0), D.v (Value.int IntKind.u32 2)] = [D.agg [D.v (Value.int IntKind.i64 b2), str r2, y, D.v (Value.int IntKind.i64 e2)], D.v (Value.int IntKind.i64 n2), D.v (Value.int IntKind.u32 cd)])) := by kernel_rfl
set_option maxHeartbeats 4000000 in
theorem rkput_bad (x : D) (ps : List Pt) (b : Int) (r : List Int) (e : Int) (s : List Int) (v : Int) (fin : Bool) (b2 e2 n2 cd : Int) (r2 : List Int) (y : D) (hX : IsL 2 (ps.map ptD) x) (hP : AllB ps) (hm : ps.length ≤ 90000) (hr : r.length ≤ 100000)(hs : s.length ≤ 100000) (v0 : I64 v) (hc : chkR b r.length ps e ≠ 0 ∨ v < 0 ∨ 1099511627776 - (s.length : Nat) < v) (e1 : b = b2) (q2 : r = r2) (e3 : x = y) (e4 : e = e2) (e5 : 0 = n2) (e6 : 2 = cd) : ReadD Try.prog 9 [.agg [.v (.int .i64 b), str r, x, .v (.int .i64 e)], .v (.int .i64 v), str s, .v (.bool fin)] [.agg [.v (.int .i64 b2), str r2, y, .v (.int .i64 e2)], .v (.int .i64 n2), .v (.int .u32 cd)] := by
  refine read_cond (Lp := (fun _ => none)) (by kernel_rfl) Try.func9 (by kernel_rfl) (by kernel_rfl) ?_
  rw [vc_rkput_bad x ps b r e s v fin b2 e2 n2 cd r2 y]
  subst e1; subst q2; subst e3; subst e4; subst e5; subst e6
  obtain ⟨v0, v1⟩ := v0
  have CK := rkcheck x ps b r e hX hP hm hr
  have hbd := chkR_bd b r.length ps e
  by_cases hz : chkR b r.length ps e = 0
  · rw [hz] at CK
    have hh : v < 0 ∨ 1099511627776 - (s.length : Nat) < v := by omega
    clear hc
    repeat' (first
      | (refine ex_some (by simp (disch := omega) only [bin_shr, bin_shl, bin_and, bin_or, bin_xor, len_str, toStr_ofL, bin_add, bin_sub, bin_mul, bin_quo, bin_rem, bin_lss, bin_leq, bin_gtr, bin_geq, bin_eql, bin_neq, eqs_cn, eqs_ci, eqs_cb, eqs_cs, Option.map_some, lenT_ofL, lst_ofL, lstSz_ofL, chunk_one, lst_nil, lst_sl, lstSz_sl, lstSz_nil, Bool.and_true, Bool.true_and, Bool.and_false, Bool.false_and, beq_self_eq_true, beq_bb, bne_bb, un_not, un_neg, conv_int, min2_int, max2_int, w64, w32, wu8, wu16, wu32, wu64, tdiv_nn, tmod_nn, cell_zero, cell_succ, cell_v, cells_v, cells_agg, Bool.not_true, Bool.not_false, Int.reduceLT, Int.reduceLE, Int.reduceEq, Int.reduceNeg, Int.reduceAdd, Int.reduceSub, Int.reduceMul, intOf_v, decide_true, decide_false]; rfl) ?_)
      | (refine ex_bool ?_)
      | (refine ⟨_, CK, ?_⟩)
      | (refine And.intro ?_ ?_)
      | (intro hx; have hprop := (show ∀ (p : Prop), p → True from fun _ _ => True.intro) _ hx; clear hprop; first | (cases hx; done) | (exfalso; revert hx; simp (disch := omega) only [decide_eq_true_eq, decide_eq_false_iff_not, Bool.not_eq_true', Bool.not_eq_false', Bool.and_eq_true, Bool.and_eq_false_iff, Int.not_lt, Int.not_le, ne_eq, not_false_eq_true, not_true_eq_false, reduceCtorEq, Bool.true_eq_false, Bool.false_eq_true, beq_iff_eq, bne_iff_ne, beq_eq_false_iff_ne, false_or, or_false, true_and, and_true]; done) | (simp (disch := omega) only [decide_eq_true_eq, decide_eq_false_iff_not, Bool.not_eq_true', Bool.not_eq_false', Bool.and_eq_true, Bool.and_eq_false_iff, Int.not_lt, Int.not_le, ne_eq, not_false_eq_true, not_true_eq_false, reduceCtorEq, Bool.true_eq_false, Bool.false_eq_true, beq_iff_eq, bne_iff_ne, beq_eq_false_iff_ne, false_or, or_false, true_and, and_true] at hx; first | (exfalso; omega) | skip) | skip)
      | trivial
      | exact fit_ofL _ _
      | (simp (disch := omega) only [notAgg_v, notAgg_sl, plain_v, fits, fitsOne, fitsCells, xsOf, cell_zero, cell_succ, List.range, List.range.loop, List.map, cond_true, cond_false, D.v.injEq, exists_eq', exists_eq, and_self, and_true, true_and, D.agg.injEq, List.length, exists_eq_left', D.sl.injEq, reduceCtorEq, false_or, true_or, or_true, or_false, cell_zero, cell_succ, cell_v, cells_v, cells_agg, List.length_cons, List.length_nil]; done))
    all_goals first
      | (exfalso; omega)
      | omega
      | exact hX.notAgg
      | exact fitP hX
      | exact plainP hX
      | exact notAgg_v _
      | exact ⟨_, rfl⟩
      | exact ⟨_, rfl, rfl⟩
      | rfl
      | assumption
      | (rw [h1]; show _ ≤ 2; omega)
      | (simp; done)
      | (simp [*]; done)
      | (rw [w64 (by omega) (by omega)]; done)
      | fail
  · generalize chkR b r.length ps e = ck at *
    repeat' (first
      | (refine ex_some (by simp (disch := omega) only [bin_shr, bin_shl, bin_and, bin_or, bin_xor, len_str, toStr_ofL, bin_add, bin_sub, bin_mul, bin_quo, bin_rem, bin_lss, bin_leq, bin_gtr, bin_geq, bin_eql, bin_neq, eqs_cn, eqs_ci, eqs_cb, eqs_cs, Option.map_some, lenT_ofL, lst_ofL, lstSz_ofL, chunk_one, lst_nil, lst_sl, lstSz_sl, lstSz_nil, Bool.and_true, Bool.true_and, Bool.and_false, Bool.false_and, beq_self_eq_true, beq_bb, bne_bb, un_not, un_neg, conv_int, min2_int, max2_int, w64, w32, wu8, wu16, wu32, wu64, tdiv_nn, tmod_nn, cell_zero, cell_succ, cell_v, cells_v, cells_agg, Bool.not_true, Bool.not_false, Int.reduceLT, Int.reduceLE, Int.reduceEq, Int.reduceNeg, Int.reduceAdd, Int.reduceSub, Int.reduceMul, intOf_v, decide_true, decide_false]; rfl) ?_)
      | (refine ex_bool ?_)
      | (refine ⟨_, CK, ?_⟩)
      | (refine And.intro ?_ ?_)
      | (intro hx; have hprop := (show ∀ (p : Prop), p → True from fun _ _ => True.intro) _ hx; clear hprop; first | (cases hx; done) | (exfalso; revert hx; simp (disch := omega) only [decide_eq_true_eq, decide_eq_false_iff_not, Bool.not_eq_true', Bool.not_eq_false', Bool.and_eq_true, Bool.and_eq_false_iff, Int.not_lt, Int.not_le, ne_eq, not_false_eq_true, not_true_eq_false, reduceCtorEq, Bool.true_eq_false, Bool.false_eq_true, beq_iff_eq, bne_iff_ne, beq_eq_false_iff_ne, false_or, or_false, true_and, and_true]; done) | (simp (disch := omega) only [decide_eq_true_eq, decide_eq_false_iff_not, Bool.not_eq_true', Bool.not_eq_false', Bool.and_eq_true, Bool.and_eq_false_iff, Int.not_lt, Int.not_le, ne_eq, not_false_eq_true, not_true_eq_false, reduceCtorEq, Bool.true_eq_false, Bool.false_eq_true, beq_iff_eq, bne_iff_ne, beq_eq_false_iff_ne, false_or, or_false, true_and, and_true] at hx; first | (exfalso; omega) | skip) | skip)
      | trivial
      | exact fit_ofL _ _
      | (simp (disch := omega) only [notAgg_v, notAgg_sl, plain_v, fits, fitsOne, fitsCells, xsOf, cell_zero, cell_succ, List.range, List.range.loop, List.map, cond_true, cond_false, D.v.injEq, exists_eq', exists_eq, and_self, and_true, true_and, D.agg.injEq, List.length, exists_eq_left', D.sl.injEq, reduceCtorEq, false_or, true_or, or_true, or_false, cell_zero, cell_succ, cell_v, cells_v, cells_agg, List.length_cons, List.length_nil]; done))
    all_goals first
      | (exfalso; omega)
      | omega
      | exact hX.notAgg
      | exact fitP hX
      | exact plainP hX
      | exact notAgg_v _
      | exact ⟨_, rfl⟩
      | exact ⟨_, rfl, rfl⟩
      | rfl
      | assumption
      | (rw [h1]; show _ ≤ 2; omega)
      | (simp; done)
      | (simp [*]; done)
      | (rw [w64 (by omega) (by omega)]; done)
      | fail

set_option maxHeartbeats 8000000 in
theorem rkput_shut (x : D) (ps : List Pt) (b : Int) (r : List Int) (e : Int) (s : List Int) (v : Int) (fin : Bool) (b2 e2 n2 cd : Int) (r2 : List Int) (y : D) (hX : IsL 2 (ps.map ptD) x) (hP : AllB ps) (hm : ps.length ≤ 90000) (hr : r.length ≤ 100000)(hs : s.length ≤ 100000) (v0 : I64 v) (hz : chkR b r.length ps e = 0) (w0 : 0 ≤ v) (w1 : v ≤ 1099511627776 - (s.length : Nat)) (hs2 : shutF b ps e v s.length fin) (e1 : b = b2) (q2 : r = r2) (e3 : x = y) (e4 : e = e2) (e5 : 0 = n2) (e6 : 5 = cd) : ReadD Try.prog 9 [.agg [.v (.int .i64 b), str r, x, .v (.int .i64 e)], .v (.int .i64 v), str s, .v (.bool fin)] [.agg [.v (.int .i64 b2), str r2, y, .v (.int .i64 e2)], .v (.int .i64 n2), .v (.int .u32 cd)] := by
  refine read_cond (Lp := (fun _ => none)) (by kernel_rfl) Try.func9 (by kernel_rfl) (by kernel_rfl) ?_
  rw [vc_rkput_bad x ps b r e s v fin b2 e2 n2 cd r2 y]
  subst e1; subst q2; subst e3; subst e4; subst e5; subst e6
  obtain ⟨v0, v1⟩ := v0
  have CK := rkcheck x ps b r e hX hP hm hr
  rw [hz] at CK
  have hF : chkF b r.length ps = 0 := by
    by_cases h : chkF b r.length ps = 0
    · exact h
    · rw [chkR_bad h] at hz; exact absurd hz h
  have ho : (SS.mk b r ps).Ok := chk_ok.1 hF
  have HI := high x ps b r e hX ho hP
  have hb := high_bd ho
  have hlm : (SS.mk b r ps).lim ≤ 1099511627776 := by rw [SS.lim_o]; omega
  simp only at hb
  have hee : e = -1 ∨ (highF b ps ≤ e ∧ e ≤ 1099511627776) := by
    rw [chkR_ok hF] at hz
    split at hz
    · cases hz
    · rename_i h; omega
  simp only [shutF] at hs2
  generalize highF b ps = hg at *
  cases fin
  all_goals simp only [Bool.false_eq_true, false_and, or_false, true_and] at hs2
  repeat' (first
    | (refine ex_some (by simp (disch := omega) only [bin_shr, bin_shl, bin_and, bin_or, bin_xor, len_str, toStr_ofL, bin_add, bin_sub, bin_mul, bin_quo, bin_rem, bin_lss, bin_leq, bin_gtr, bin_geq, bin_eql, bin_neq, eqs_cn, eqs_ci, eqs_cb, eqs_cs, Option.map_some, lenT_ofL, lst_ofL, lstSz_ofL, chunk_one, lst_nil, lst_sl, lstSz_sl, lstSz_nil, Bool.and_true, Bool.true_and, Bool.and_false, Bool.false_and, beq_self_eq_true, beq_bb, bne_bb, un_not, un_neg, conv_int, min2_int, max2_int, w64, w32, wu8, wu16, wu32, wu64, tdiv_nn, tmod_nn, cell_zero, cell_succ, cell_v, cells_v, cells_agg, Bool.not_true, Bool.not_false, Int.reduceLT, Int.reduceLE, Int.reduceEq, Int.reduceNeg, Int.reduceAdd, Int.reduceSub, Int.reduceMul, intOf_v, decide_true, decide_false]; rfl) ?_)
    | (refine ex_bool ?_)
    | (refine ⟨_, CK, ?_⟩)
    | (refine ⟨_, HI, ?_⟩)
    | (refine And.intro ?_ ?_)
    | (intro hx; have hprop := (show ∀ (p : Prop), p → True from fun _ _ => True.intro) _ hx; clear hprop; first | (cases hx; done) | (exfalso; revert hx; simp (disch := omega) only [decide_eq_true_eq, decide_eq_false_iff_not, Bool.not_eq_true', Bool.not_eq_false', Bool.and_eq_true, Bool.and_eq_false_iff, Int.not_lt, Int.not_le, ne_eq, not_false_eq_true, not_true_eq_false, reduceCtorEq, Bool.true_eq_false, Bool.false_eq_true, beq_iff_eq, bne_iff_ne, beq_eq_false_iff_ne, false_or, or_false, true_and, and_true]; done) | (simp (disch := omega) only [decide_eq_true_eq, decide_eq_false_iff_not, Bool.not_eq_true', Bool.not_eq_false', Bool.and_eq_true, Bool.and_eq_false_iff, Int.not_lt, Int.not_le, ne_eq, not_false_eq_true, not_true_eq_false, reduceCtorEq, Bool.true_eq_false, Bool.false_eq_true, beq_iff_eq, bne_iff_ne, beq_eq_false_iff_ne, false_or, or_false, true_and, and_true] at hx; first | (exfalso; omega) | skip) | skip)
    | trivial
    | exact fit_ofL _ _
    | (simp (disch := omega) only [notAgg_v, notAgg_sl, plain_v, fits, fitsOne, fitsCells, xsOf, cell_zero, cell_succ, List.range, List.range.loop, List.map, cond_true, cond_false, D.v.injEq, exists_eq', exists_eq, and_self, and_true, true_and, D.agg.injEq, List.length, exists_eq_left', D.sl.injEq, reduceCtorEq, false_or, true_or, or_true, or_false, cell_zero, cell_succ, cell_v, cells_v, cells_agg, List.length_cons, List.length_nil]; done))
  all_goals first
    | (exfalso; omega)
    | omega
    | exact hX.notAgg
    | exact fitP hX
    | exact plainP hX
    | exact notAgg_v _
    | exact ⟨_, rfl⟩
    | exact ⟨_, rfl, rfl⟩
    | rfl
    | assumption
    | (rw [h1]; show _ ≤ 2; omega)
    | (simp; done)
    | (simp [*]; done)
    | (rw [w64 (by omega) (by omega)]; done)
    | fail

theorem vc_rkput_fine (x : D) (ps : List Pt) (b : Int) (r : List Int) (e : Int) (s : List Int) (v : Int) (fin : Bool) (b2 e2 n2 cd : Int) (r2 : List Int) (y : D) (qs : List D) : CondR Try.prog (fun _ => none) Try.f9 [.agg [.v (.int .i64 b), str r, x, .v (.int .i64 e)], .v (.int .i64 v), str s, .v (.bool fin)] [.agg [.v (.int .i64 b2), str r2, y, .v (.int .i64 e2)], .v (.int .i64 n2), .v (.int .u32 cd)] = (((∃ (cs : List D), D.agg [D.v (Value.int IntKind.i64 b), str r, x, D.v (Value.int IntKind.i64 e)] = D.agg cs ∧ cs.length = 4) ∧ NotAgg (D.v (Value.int IntKind.i64 v)) ∧ NotAgg (str s) ∧ NotAgg (D.v (Value.bool fin)) ∧ True) ∧ ∃ (r_1 : D), PureD Try.prog 13 [D.agg [D.v (Value.int IntKind.i64 b), str r, x, D.v (Value.int IntKind.i64 e)]] [r_1] ∧ fits [(false, [none])] [r_1] ∧ ∃ (r_2 : D), D.bin BinOp.neq r_1 (D.v (Value.int IntKind.i64 0)) = some r_2 ∧ ∃ (b_1 : Bool), r_2 = D.v (Value.bool b_1) ∧ (b_1 = false → ∃ (r_3 : D), D.bin BinOp.lss (D.v (Value.int IntKind.i64 v)) (D.v (Value.int IntKind.i64 0)) = some r_3 ∧ ∃ (b_2 : Bool), r_3 = D.v (Value.bool b_2) ∧ (b_2 = false → ∃ (r_4 : D), D.lenT TypeDesc.string (str s) = some r_4 ∧ ∃ (r_5 : D), D.bin BinOp.sub (D.v (Value.int IntKind.i64 1099511627776)) r_4 = some r_5 ∧ ∃ (r_6 : D), D.bin BinOp.gtr (D.v (Value.int IntKind.i64 v)) r_5 = some r_6 ∧ ∃ (b_3 : Bool), r_6 = D.v (Value.bool b_3) ∧ (b_3 = true → [D.agg [D.v (Value.int IntKind.i64 b), str r, x, D.v (Value.int IntKind.i64 e)], D.v (Value.int IntKind.i64 0), D.v (Value.int IntKind.u32 2)] = [D.agg [D.v (Value.int IntKind.i64 b2), str r2, y, D.v (Value.int IntKind.i64 e2)], D.v (Value.int IntKind.i64 n2), D.v (Value.int IntKind.u32 cd)]) ∧ (b_3 = false → ∃ (r_7 : D), D.lenT TypeDesc.string (str s) = some r_7 ∧ ∃ (r_8 : D), D.bin BinOp.add (D.v (Value.int IntKind.i64 v)) r_7 = some r_8 ∧ ∃ (r_9 : D), D.bin BinOp.neq (D.v (Value.int IntKind.i64 e)) (D.v (Value.int IntKind.i64 (-1))) = some r_9 ∧ ∃ (b_4 : Bool), r_9 = D.v (Value.bool b_4) ∧ (b_4 = true → ∃ (r_10 : D), D.bin BinOp.gtr r_8 (D.v (Value.int IntKind.i64 e)) = some r_10 ∧ ∃ (b_5 : Bool), r_10 = D.v (Value.bool b_5) ∧ (b_5 = false → ∃ (b_6 : Bool), D.v (Value.bool fin) = D.v (Value.bool b_6) ∧ (b_6 = true → ∃ (r_11 : D), D.bin BinOp.neq r_8 (D.v (Value.int IntKind.i64 e)) = some r_11 ∧ ∃ (b_7 : Bool), r_11 = D.v (Value.bool b_7) ∧ (b_7 = false → ∃ (b_8 : Bool), D.v (Value.bool fin) = D.v (Value.bool b_8) ∧ (b_8 = true → ∃ (r_12 : D), PureD Try.prog 19 [D.agg [D.v (Value.int IntKind.i64 b), str r, x, D.v (Value.int IntKind.i64 e)]] [r_12] ∧ fits [(false, [none])] [r_12] ∧ ∃ (r_13 : D), D.bin BinOp.lss r_8 r_12 = some r_13 ∧ ∃ (b_9 : Bool), r_13 = D.v (Value.bool b_9) ∧ (b_9 = true → [D.agg [D.v (Value.int IntKind.i64 b), str r, x, D.v (Value.int IntKind.i64 e)], D.v (Value.int IntKind.i64 0), D.v (Value.int IntKind.u32 5)] = [D.agg [D.v (Value.int IntKind.i64 b2), str r2, y, D.v (Value.int IntKind.i64 e2)], D.v (Value.int IntKind.i64 n2), D.v (Value.int IntKind.u32 cd)]) ∧ (b_9 = false → ∃ (r_14 : D), ∃ (r_15 : D), ReadD Try.prog 26 [D.agg [D.v (Value.int IntKind.i64 b), str r, x], D.v (Value.int IntKind.i64 v), str s] [r_14, r_15] ∧ ((∃ (cs : List D), r_14 = D.agg cs ∧ cs.length = [none, none, some 2].length) ∧ NotAgg r_15 ∧ True) ∧ ∃ (b : Bool), D.v (Value.bool fin) = D.v (Value.bool b) ∧ (b = true → [D.agg [r_14.cell 0, r_14.cell 1, r_14.cell 2, r_8], r_15, D.v (Value.int IntKind.u32 0)] = [D.agg [D.v (Value.int IntKind.i64 b2), str r2, y, D.v (Value.int IntKind.i64 e2)], D.v (Value.int IntKind.i64 n2), D.v (Value.int IntKind.u32 cd)]) ∧ (b = false → [D.agg [r_14.cell 0, r_14.cell 1, r_14.cell 2, D.v (Value.int IntKind.i64 e)], r_15, D.v (Value.int IntKind.u32 0)] = [D.agg [D.v (Value.int IntKind.i64 b2), str r2, y, D.v (Value.int IntKind.i64 e2)], D.v (Value.int IntKind.i64 n2), D.v (Value.int IntKind.u32 cd)]))) ∧ (b_8 = false → ∃ (r_12 : D), ∃ (r_13 : D), ReadD Try.prog 26 [D.agg [D.v (Value.int IntKind.i64 b), str r, x], D.v (Value.int IntKind.i64 v), str s] [r_12, r_13] ∧ ((∃ (cs : List D), r_12 = D.agg cs ∧ cs.length = [none, none, some 2].length) ∧ NotAgg r_13 ∧ True) ∧ ∃ (b : Bool), D.v (Value.bool fin) = D.v (Value.bool b) ∧ (b = true → [D.agg [r_12.cell 0, r_12.cell 1, r_12.cell 2, r_8], r_13, D.v (Value.int IntKind.u32 0)] = [D.agg [D.v (Value.int IntKind.i64 b2), str r2, y, D.v (Value.int IntKind.i64 e2)], D.v (Value.int IntKind.i64 n2), D.v (Value.int IntKind.u32 cd)]) ∧ (b = false → [D.agg [r_12.cell 0, r_12.cell 1, r_12.cell 2, D.v (Value.int IntKind.i64 e)], r_13, D.v (Value.int IntKind.u32 0)] = [D.agg [D.v (Value.int IntKind.i64 b2), str r2, y, D.v (Value.int IntKind.i64 e2)], D.v (Value.int IntKind.i64 n2), D.v (Value.int IntKind.u32 cd)]))) ∧ (b_7 = true → [D.agg [D.v (Value.int IntKind.i64 b), str r, x, D.v (Value.int IntKind.i64 e)], D.v (Value.int IntKind.i64 0), D.v (Value.int IntKind.u32 5)] = [D.agg [D.v (Value.int IntKind.i64 b2), str r2, y, D.v (Value.int IntKind.i64 e2)], D.v (Value.int IntKind.i64 n2), D.v (Value.int IntKind.u32 cd)])) ∧ (b_6 = false → ∃ (b_7 : Bool), D.v (Value.bool fin) = D.v (Value.bool b_7) ∧ (b_7 = true → ∃ (r_11 : D), PureD Try.prog 19 [D.agg [D.v (Value.int IntKind.i64 b), str r, x, D.v (Value.int IntKind.i64 e)]] [r_11] ∧ fits [(false, [none])] [r_11] ∧ ∃ (r_12 : D), D.bin BinOp.lss r_8 r_11 = some r_12 ∧ ∃ (b_8 : Bool), r_12 = D.v (Value.bool b_8) ∧ (b_8 = true → [D.agg [D.v (Value.int IntKind.i64 b), str r, x, D.v (Value.int IntKind.i64 e)], D.v (Value.int IntKind.i64 0), D.v (Value.int IntKind.u32 5)] = [D.agg [D.v (Value.int IntKind.i64 b2), str r2, y, D.v (Value.int IntKind.i64 e2)], D.v (Value.int IntKind.i64 n2), D.v (Value.int IntKind.u32 cd)]) ∧ (b_8 = false → ∃ (r_13 : D), ∃ (r_14 : D), ReadD Try.prog 26 [D.agg [D.v (Value.int IntKind.i64 b), str r, x], D.v (Value.int IntKind.i64 v), str s] [r_13, r_14] ∧ ((∃ (cs : List D), r_13 = D.agg cs ∧ cs.length = [none, none, some 2].length) ∧ NotAgg r_14 ∧ True) ∧ ∃ (b : Bool), D.v (Value.bool fin) = D.v (Value.bool b) ∧ (b = true → [D.agg [r_13.cell 0, r_13.cell 1, r_13.cell 2, r_8], r_14, D.v (Value.int IntKind.u32 0)] = [D.agg [D.v (Value.int IntKind.i64 b2), str r2, y, D.v (Value.int IntKind.i64 e2)], D.v (Value.int IntKind.i64 n2), D.v (Value.int IntKind.u32 cd)]) ∧ (b = false → [D.agg [r_13.cell 0, r_13.cell 1, r_13.cell 2, D.v (Value.int IntKind.i64 e)], r_14, D.v (Value.int IntKind.u32 0)] = [D.agg [D.v (Value.int IntKind.i64 b2), str r2, y, D.v (Value.int IntKind.i64 e2)], D.v (Value.int IntKind.i64 n2), D.v (Value.int IntKind.u32 cd)]))) ∧ (b_7 = false → ∃ (r_11 : D), ∃ (r_12 : D), ReadD Try.prog 26 [D.agg [D.v (Value.int IntKind.i64 b), str r, x], D.v (Value.int IntKind.i64 v), str s] [r_11, r_12] ∧ ((∃ (cs : List D), r_11 = D.agg cs ∧ cs.length = [none, none, some 2].length) ∧ NotAgg r_12 ∧ True) ∧ ∃ (b : Bool), D.v (Value.bool fin) = D.v (Value.bool b) ∧ (b = true → [D.agg [r_11.cell 0, r_11.cell 1, r_11.cell 2, r_8], r_12, D.v (Value.int IntKind.u32 0)] = [D.agg [D.v (Value.int IntKind.i64 b2), str r2, y, D.v (Value.int IntKind.i64 e2)], D.v (Value.int IntKind.i64 n2), D.v (Value.int IntKind.u32 cd)]) ∧ (b = false → [D.agg [r_11.cell 0, r_11.cell 1, r_11.cell 2, D.v (Value.int IntKind.i64 e)], r_12, D.v (Value.int IntKind.u32 0)] = [D.agg [D.v (Value.int IntKind.i64 b2), str r2, y, D.v (Value.int IntKind.i64 e2)], D.v (Value.int IntKind.i64 n2), D.v (Value.int IntKind.u32 cd)])))) ∧ (b_5 = true → [D.agg [D.v (Value.int IntKind.i64 b), str r, x, D.v (Value.int IntKind.i64 e)], D.v (Value.int IntKind.i64 0), D.v (Value.int IntKind.u32 5)] = [D.agg [D.v (Value.int IntKind.i64 b2), str r2, y, D.v (Value.int IntKind.i64 e2)], D.v (Value.int IntKind.i64 n2), D.v (Value.int IntKind.u32 cd)])) ∧ (b_4 = false → ∃ (b_5 : Bool), D.v (Value.bool fin) = D.v (Value.bool b_5) ∧ (b_5 = true → ∃ (r_10 : D), PureD Try.prog 19 [D.agg [D.v (Value.int IntKind.i64 b), str r, x, D.v (Value.int IntKind.i64 e)]] [r_10] ∧ fits [(false, [none])] [r_10] ∧ ∃ (r_11 : D), D.bin BinOp.lss r_8 r_10 = some r_11 ∧ ∃ (b_6 : Bool), r_11 = D.v (Value.bool b_6) ∧ (b_6 = true → [D.agg [D.v (Value.int IntKind.i64 b), str r, x, D.v (Value.int IntKind.i64 e)], D.v (Value.int IntKind.i64 0), D.v (Value.int IntKind.u32 5)] = [D.agg [D.v (Value.int IntKind.i64 b2), str r2, y, D.v (Value.int IntKind.i64 e2)], D.v (Value.int IntKind.i64 n2), D.v (Value.int IntKind.u32 cd)]) ∧ (b_6 = false → ∃ (r_12 : D), ∃ (r_13 : D), ReadD Try.prog 26 [D.agg [D.v (Value.int IntKind.i64 b), str r, x], D.v (Value.int IntKind.i64 v), str s] [r_12, r_13] ∧ ((∃ (cs : List D), r_12 = D.agg cs ∧ cs.length = [none, none, some 2].length) ∧ NotAgg r_13 ∧ True) ∧ ∃ (b : Bool), D.v (Value.bool fin) = D.v (Value.bool b) ∧ (b = true → [D.agg [r_12.cell 0, r_12.cell 1, r_12.cell 2, r_8], r_13, D.v (Value.int IntKind.u32 0)] = [D.agg [D.v (Value.int IntKind.i64 b2), str r2, y, D.v (Value.int IntKind.i64 e2)], D.v (Value.int IntKind.i64 n2), D.v (Value.int IntKind.u32 cd)]) ∧ (b = false → [D.agg [r_12.cell 0, r_12.cell 1, r_12.cell 2, D.v (Value.int IntKind.i64 e)], r_13, D.v (Value.int IntKind.u32 0)] = [D.agg [D.v (Value.int IntKind.i64 b2), str r2, y, D.v (Value.int IntKind.i64 e2)], D.v (Value.int IntKind.i64 n2), D.v (Value.int IntKind.u32 cd)]))) ∧ (b_5 = false → ∃ (r_10 : D), ∃ (r_11 : D), ReadD Try.prog 26 [D.agg [D.v (Value.int IntKind.i64 b), str r, x], D.v (Value.int IntKind.i64 v), str s] [r_10, r_11] ∧ ((∃ (cs : List D), r_10 = D.agg cs ∧ cs.length = [none, none, some 2].length) ∧ NotAgg r_11 ∧ True) ∧ ∃ (b : Bool), D.v (Value.bool fin) = D.v (Value.bool b) ∧ (b = true → [D.agg [r_10.cell 0, r_10.cell 1, r_10.cell 2, r_8], r_11, D.v (Value.int IntKind.u32 0)] = [D.agg [D.v (Value.int IntKind.i64 b2), str r2, y, D.v (Value.int IntKind.i64 e2)], D.v (Value.int IntKind.i64 n2), D.v (Value.int IntKind.u32 cd)]) ∧ (b = false → [D.agg [r_10.cell 0, r_10.cell 1, r_10.cell 2, D.v (Value.int IntKind.i64 e)], r_11, D.v (Value.int IntKind.u32 0)] = [D.agg [D.v (Value.int IntKind.i64 b2), str r2, y, D.v (Value.int IntKind.i64 e2)], D.v (Value.int IntKind.i64 n2), D.v (Value.int IntKind.u32 cd)]))))) ∧ (b_2 = true → [D.agg [D.v (Value.int IntKind.i64 b), str r, x, D.v (Value.int IntKind.i64 e)], D.v (Value.int IntKind.i64 0), D.v (Value.int IntKind.u32 2)] = [D.agg [D.v (Value.int IntKind.i64 b2), str r2, y, D.v (Value.int IntKind.i64 e2)], D.v (Value.int IntKind.i64 n2), D.v (Value.int IntKind.u32 cd)])) ∧ (b_1 = true → [D.agg [D.v (Value.int IntKind.i64 b), str r, x, D.v (Value.int IntKind.i64 e)], D.v (Value.int IntKind.i64 0), D.v (Value.int IntKind.u32 2)] = [D.agg [D.v (Value.int IntKind.i64 b2), str r2, y, D.v (Value.int IntKind.i64 e2)], D.v (Value.int IntKind.i64 n2), D.v (Value.int IntKind.u32 cd)])) := by kernel_rfl
set_option maxHeartbeats 8000000 in
theorem rkput_fine (x : D) (ps : List Pt) (b : Int) (r : List Int) (e : Int) (s : List Int) (v : Int) (fin : Bool) (b2 e2 n2 cd : Int) (r2 : List Int) (y : D) (qs : List D) (hX : IsL 2 (ps.map ptD) x) (hP : AllB ps) (hm : ps.length ≤ 90000) (hr : r.length ≤ 100000)(hs : s.length ≤ 100000) (v0 : I64 v) (hz : chkR b r.length ps e = 0) (w0 : 0 ≤ v) (w1 : v ≤ 1099511627776 - (s.length : Nat)) (hs2 : ¬ shutF b ps e v s.length fin) (hY : IsL 2 qs y) (P : ReadD Try.prog 26 [.agg [.v (.int .i64 b), str r, x], .v (.int .i64 v), str s] [.agg [.v (.int .i64 b2), str r2, y], .v (.int .i64 n2)]) (e4 : (if fin = true then v + s.length else e) = e2) (e6 : 0 = cd) : ReadD Try.prog 9 [.agg [.v (.int .i64 b), str r, x, .v (.int .i64 e)], .v (.int .i64 v), str s, .v (.bool fin)] [.agg [.v (.int .i64 b2), str r2, y, .v (.int .i64 e2)], .v (.int .i64 n2), .v (.int .u32 cd)] := by
  refine read_cond (Lp := (fun _ => none)) (by kernel_rfl) Try.func9 (by kernel_rfl) (by kernel_rfl) ?_
  rw [vc_rkput_fine x ps b r e s v fin b2 e2 n2 cd r2 y qs]
  subst e4; subst e6
  obtain ⟨v0, v1⟩ := v0
  have CK := rkcheck x ps b r e hX hP hm hr
  rw [hz] at CK
  have hF : chkF b r.length ps = 0 := by
    by_cases h : chkF b r.length ps = 0
    · exact h
    · rw [chkR_bad h] at hz; exact absurd hz h
  have ho : (SS.mk b r ps).Ok := chk_ok.1 hF
  have HI := high x ps b r e hX ho hP
  have hb := high_bd ho
  have hlm : (SS.mk b r ps).lim ≤ 1099511627776 := by rw [SS.lim_o]; omega
  simp only at hb
  have hee : e = -1 ∨ (highF b ps ≤ e ∧ e ≤ 1099511627776) := by
    rw [chkR_ok hF] at hz
    split at hz
    · cases hz
    · rename_i h; omega
  simp only [shutF] at hs2
  generalize highF b ps = hg at *
  cases fin
  all_goals simp only [Bool.false_eq_true, false_and, or_false, true_and, if_true, if_false] at hs2 ⊢
  repeat' (first
    | (refine ex_some (by simp (disch := omega) only [bin_shr, bin_shl, bin_and, bin_or, bin_xor, len_str, toStr_ofL, bin_add, bin_sub, bin_mul, bin_quo, bin_rem, bin_lss, bin_leq, bin_gtr, bin_geq, bin_eql, bin_neq, eqs_cn, eqs_ci, eqs_cb, eqs_cs, Option.map_some, lenT_ofL, lst_ofL, lstSz_ofL, chunk_one, lst_nil, lst_sl, lstSz_sl, lstSz_nil, Bool.and_true, Bool.true_and, Bool.and_false, Bool.false_and, beq_self_eq_true, beq_bb, bne_bb, un_not, un_neg, conv_int, min2_int, max2_int, w64, w32, wu8, wu16, wu32, wu64, tdiv_nn, tmod_nn, cell_zero, cell_succ, cell_v, cells_v, cells_agg, Bool.not_true, Bool.not_false, Int.reduceLT, Int.reduceLE, Int.reduceEq, Int.reduceNeg, Int.reduceAdd, Int.reduceSub, Int.reduceMul, intOf_v, decide_true, decide_false]; rfl) ?_)
    | (refine ex_bool ?_)
    | (refine ⟨_, CK, ?_⟩)
    | (refine ⟨_, HI, ?_⟩)
    | (refine ⟨_, _, P, ?_⟩)
    | (refine And.intro ?_ ?_)
    | (intro hx; have hprop := (show ∀ (p : Prop), p → True from fun _ _ => True.intro) _ hx; clear hprop; first | (cases hx; done) | (exfalso; revert hx; simp (disch := omega) only [decide_eq_true_eq, decide_eq_false_iff_not, Bool.not_eq_true', Bool.not_eq_false', Bool.and_eq_true, Bool.and_eq_false_iff, Int.not_lt, Int.not_le, ne_eq, not_false_eq_true, not_true_eq_false, reduceCtorEq, Bool.true_eq_false, Bool.false_eq_true, beq_iff_eq, bne_iff_ne, beq_eq_false_iff_ne, false_or, or_false, true_and, and_true]; done) | (simp (disch := omega) only [decide_eq_true_eq, decide_eq_false_iff_not, Bool.not_eq_true', Bool.not_eq_false', Bool.and_eq_true, Bool.and_eq_false_iff, Int.not_lt, Int.not_le, ne_eq, not_false_eq_true, not_true_eq_false, reduceCtorEq, Bool.true_eq_false, Bool.false_eq_true, beq_iff_eq, bne_iff_ne, beq_eq_false_iff_ne, false_or, or_false, true_and, and_true] at hx; first | (exfalso; omega) | skip) | skip)
    | trivial
    | exact fit_ofL _ _
    | (simp (disch := omega) only [notAgg_v, notAgg_sl, plain_v, fits, fitsOne, fitsCells, xsOf, cell_zero, cell_succ, List.range, List.range.loop, List.map, cond_true, cond_false, D.v.injEq, exists_eq', exists_eq, and_self, and_true, true_and, D.agg.injEq, List.length, exists_eq_left', D.sl.injEq, reduceCtorEq, false_or, true_or, or_true, or_false, cell_zero, cell_succ, cell_v, cells_v, cells_agg, List.length_cons, List.length_nil]; done))
  all_goals first
    | (exfalso; omega)
    | omega
    | exact hX.notAgg
    | exact hY.notAgg
    | exact fitP hX
    | exact plainP hX
    | exact notAgg_v _
    | exact ⟨_, rfl⟩
    | exact ⟨_, rfl, rfl⟩
    | rfl
    | assumption
    | (rw [h1]; show _ ≤ 2; omega)
    | (simp; done)
    | (simp [*]; done)
    | (rw [w64 (by omega) (by omega)]; done)
    | fail

theorem vc_rrput_bad (x : D) (ps : List Pt) (b : Int) (r : List Int) (e : Int) (s : List Int) (v : Int) (fin : Bool) (b2 e2 n2 cd : Int) (r2 : List Int) (y : D) : CondR Try.prog (fun _ => none) Try.f10 [.agg [.v (.int .i64 b), str r, x, .v (.int .i64 e)], .v (.int .i64 v), str s, .v (.bool fin)] [.agg [.v (.int .i64 b2), str r2, y, .v (.int .i64 e2)], .v (.int .i64 n2), .v (.int .i64 cd)] = (((∃ (cs : List D), D.agg [D.v (Value.int IntKind.i64 b), str r, x, D.v (Value.int IntKind.i64 e)] = D.agg cs ∧ cs.length = 4) ∧ NotAgg (D.v (Value.int IntKind.i64 v)) ∧ NotAgg (str s) ∧ NotAgg (D.v (Value.bool fin)) ∧ True) ∧ ∃ (r_1 : D), PureD Try.prog 14 [D.agg [D.v (Value.int IntKind.i64 b), str r, x, D.v (Value.int IntKind.i64 e)]] [r_1] ∧ fits [(false, [none])] [r_1] ∧ ∃ (r_2 : D), D.bin BinOp.neq r_1 (D.v (Value.int IntKind.i64 0)) = some r_2 ∧ ∃ (b_1 : Bool), r_2 = D.v (Value.bool b_1) ∧ (b_1 = false → ∃ (r_3 : D), D.bin BinOp.lss (D.v (Value.int IntKind.i64 v)) (D.v (Value.int IntKind.i64 0)) = some r_3 ∧ ∃ (b_2 : Bool), r_3 = D.v (Value.bool b_2) ∧ (b_2 = false → ∃ (r_4 : D), D.lenT TypeDesc.string (str s) = some r_4 ∧ ∃ (r_5 : D), D.bin BinOp.sub (D.v (Value.int IntKind.i64 1099511627776)) r_4 = some r_5 ∧ ∃ (r_6 : D), D.bin BinOp.gtr (D.v (Value.int IntKind.i64 v)) r_5 = some r_6 ∧ ∃ (b_3 : Bool), r_6 = D.v (Value.bool b_3) ∧ (b_3 = true → [D.agg [D.v (Value.int IntKind.i64 b), str r, x, D.v (Value.int IntKind.i64 e)], D.v (Value.int IntKind.i64 0), D.v (Value.int IntKind.i64 2)] = [D.agg [D.v (Value.int IntKind.i64 b2), str r2, y, D.v (Value.int IntKind.i64 e2)], D.v (Value.int IntKind.i64 n2), D.v (Value.int IntKind.i64 cd)]) ∧ (b_3 = false → ∃ (r_7 : D), D.lenT TypeDesc.string (str s) = some r_7 ∧ ∃ (r_8 : D), D.bin BinOp.add (D.v (Value.int IntKind.i64 v)) r_7 = some r_8 ∧ ∃ (r_9 : D), D.bin BinOp.geq (D.v (Value.int IntKind.i64 e)) (D.v (Value.int IntKind.i64 0)) = some r_9 ∧ ∃ (b_4 : Bool), r_9 = D.v (Value.bool b_4) ∧ (b_4 = true → ∃ (r_10 : D), D.bin BinOp.gtr r_8 (D.v (Value.int IntKind.i64 e)) = some r_10 ∧ ∃ (b_5 : Bool), r_10 = D.v (Value.bool b_5) ∧ (b_5 = false → ∃ (b_6 : Bool), D.v (Value.bool fin) = D.v (Value.bool b_6) ∧ (b_6 = true → ∃ (r_11 : D), D.bin BinOp.neq r_8 (D.v (Value.int IntKind.i64 e)) = some r_11 ∧ ∃ (b_7 : Bool), r_11 = D.v (Value.bool b_7) ∧ (b_7 = true → [D.agg [D.v (Value.int IntKind.i64 b), str r, x, D.v (Value.int IntKind.i64 e)], D.v (Value.int IntKind.i64 0), D.v (Value.int IntKind.i64 5)] = [D.agg [D.v (Value.int IntKind.i64 b2), str r2, y, D.v (Value.int IntKind.i64 e2)], D.v (Value.int IntKind.i64 n2), D.v (Value.int IntKind.i64 cd)]) ∧ (b_7 = false → ∃ (b_8 : Bool), D.v (Value.bool fin) = D.v (Value.bool b_8) ∧ (b_8 = true → ∃ (r_12 : D), PureD Try.prog 20 [D.agg [D.v (Value.int IntKind.i64 b), str r, x, D.v (Value.int IntKind.i64 e)]] [r_12] ∧ fits [(false, [none])] [r_12] ∧ ∃ (r_13 : D), D.bin BinOp.lss r_8 r_12 = some r_13 ∧ ∃ (b_9 : Bool), r_13 = D.v (Value.bool b_9) ∧ (b_9 = true → [D.agg [D.v (Value.int IntKind.i64 b), str r, x, D.v (Value.int IntKind.i64 e)], D.v (Value.int IntKind.i64 0), D.v (Value.int IntKind.i64 5)] = [D.agg [D.v (Value.int IntKind.i64 b2), str r2, y, D.v (Value.int IntKind.i64 e2)], D.v (Value.int IntKind.i64 n2), D.v (Value.int IntKind.i64 cd)]) ∧ (b_9 = false → ∃ (r_14 : D), ∃ (r_15 : D), ReadD Try.prog 27 [D.agg [D.v (Value.int IntKind.i64 b), str r, x], D.v (Value.int IntKind.i64 v), str s] [r_14, r_15] ∧ ((∃ (cs : List D), r_14 = D.agg cs ∧ cs.length = [none, none, some 2].length) ∧ NotAgg r_15 ∧ True) ∧ ∃ (b : Bool), D.v (Value.bool fin) = D.v (Value.bool b) ∧ (b = true → [D.agg [r_14.cell 0, r_14.cell 1, r_14.cell 2, r_8], r_15, D.v (Value.int IntKind.i64 0)] = [D.agg [D.v (Value.int IntKind.i64 b2), str r2, y, D.v (Value.int IntKind.i64 e2)], D.v (Value.int IntKind.i64 n2), D.v (Value.int IntKind.i64 cd)]) ∧ (b = false → [D.agg [r_14.cell 0, r_14.cell 1, r_14.cell 2, D.v (Value.int IntKind.i64 e)], r_15, D.v (Value.int IntKind.i64 0)] = [D.agg [D.v (Value.int IntKind.i64 b2), str r2, y, D.v (Value.int IntKind.i64 e2)], D.v (Value.int IntKind.i64 n2), D.v (Value.int IntKind.i64 cd)]))) ∧ (b_8 = false → ∃ (r_12 : D), ∃ (r_13 : D), ReadD Try.prog 27 [D.agg [D.v (Value.int IntKind.i64 b), str r, x], D.v (Value.int IntKind.i64 v), str s] [r_12, r_13] ∧ ((∃ (cs : List D), r_12 = D.agg cs ∧ cs.length = [none, none, some 2].length) ∧ NotAgg r_13 ∧ True) ∧ ∃ (b : Bool), D.v (Value.bool fin) = D.v (Value.bool b) ∧ (b = true → [D.agg [r_12.cell 0, r_12.cell 1, r_12.cell 2, r_8], r_13, D.v (Value.int IntKind.i64 0)] = [D.agg [D.v (Value.int IntKind.i64 b2), str r2, y, D.v (Value.int IntKind.i64 e2)], D.v (Value.int IntKind.i64 n2), D.v (Value.int IntKind.i64 cd)]) ∧ (b = false → [D.agg [r_12.cell 0, r_12.cell 1, r_12.cell 2, D.v (Value.int IntKind.i64 e)], r_13, D.v (Value.int IntKind.i64 0)] = [D.agg [D.v (Value.int IntKind.i64 b2), str r2, y, D.v (Value.int IntKind.i64 e2)], D.v (Value.int IntKind.i64 n2), D.v (Value.int IntKind.i64 cd)])))) ∧ (b_6 = false → ∃ (b_7 : Bool), D.v (Value.bool fin) = D.v (Value.bool b_7) ∧ (b_7 = true → ∃ (r_11 : D), PureD Try.prog 20 [D.agg [D.v (Value.int IntKind.i64 b), str r, x, D.v (Value.int IntKind.i64 e)]] [r_11] ∧ fits [(false, [none])] [r_11] ∧ ∃ (r_12 : D), D.bin BinOp.lss r_8 r_11 = some r_12 ∧ ∃ (b_8 : Bool), r_12 = D.v (Value.bool b_8) ∧ (b_8 = true → [D.agg [D.v (Value.int IntKind.i64 b), str r, x, D.v (Value.int IntKind.i64 e)], D.v (Value.int IntKind.i64 0), D.v (Value.int IntKind.i64 5)] = [D.agg [D.v (Value.int IntKind.i64 b2), str r2, y, D.v (Value.int IntKind.i64 e2)], D.v (Value.int IntKind.i64 n2), D.v (Value.int IntKind.i64 cd)]) ∧ (b_8 = false → ∃ (r_13 : D), ∃ (r_14 : D), ReadD Try.prog 27 [D.agg [D.v (Value.int IntKind.i64 b), str r, x], D.v (Value.int IntKind.i64 v), str s] [r_13, r_14] ∧ ((∃ (cs : List D), r_13 = D.agg cs ∧ cs.length = [none, none, some 2].length) ∧ NotAgg r_14 ∧ True) ∧ ∃ (b : Bool), D.v (Value.bool fin) = D.v (Value.bool b) ∧ (b = true → [D.agg [r_13.cell 0, r_13.cell 1, r_13.cell 2, r_8], r_14, D.v (Value.int IntKind.i64 0)] = [D.agg [D.v (Value.int IntKind.i64 b2), str r2, y, D.v (Value.int IntKind.i64 e2)], D.v (Value.int IntKind.i64 n2), D.v (Value.int IntKind.i64 cd)]) ∧ (b = false → [D.agg [r_13.cell 0, r_13.cell 1, r_13.cell 2, D.v (Value.int IntKind.i64 e)], r_14, D.v (Value.int IntKind.i64 0)] = [D.agg [D.v (Value.int IntKind.i64 b2), str r2, y, D.v (Value.int IntKind.i64 e2)], D.v (Value.int IntKind.i64 n2), D.v (Value.int IntKind.i64 cd)]))) ∧ (b_7 = false → ∃ (r_11 : D), ∃ (r_12 : D), ReadD Try.prog 27 [D.agg [D.v (Value.int IntKind.i64 b), str r, x], D.v (Value.int IntKind.i64 v), str s] [r_11, r_12] ∧ ((∃ (cs : List D), r_11 = D.agg cs ∧ cs.length = [none, none, some 2].length) ∧ NotAgg r_12 ∧ True) ∧ ∃ (b : Bool), D.v (Value.bool fin) = D.v (Value.bool b) ∧ (b = true → [D.agg [r_11.cell 0, r_11.cell 1, r_11.cell 2, r_8], r_12, D.v (Value.int IntKind.i64 0)] = [D.agg [D.v (Value.int IntKind.i64 b2), str r2, y, D.v (Value.int IntKind.i64 e2)], D.v (Value.int IntKind.i64 n2), D.v (Value.int IntKind.i64 cd)]) ∧ (b = false → [D.agg [r_11.cell 0, r_11.cell 1, r_11.cell 2, D.v (Value.int IntKind.i64 e)], r_12, D.v (Value.int IntKind.i64 0)] = [D.agg [D.v (Value.int IntKind.i64 b2), str r2, y, D.v (Value.int IntKind.i64 e2)], D.v (Value.int IntKind.i64 n2), D.v (Value.int IntKind.i64 cd)])))) ∧ (b_5 = true → [D.agg [D.v (Value.int IntKind.i64 b), str r, x, D.v (Value.int IntKind.i64 e)], D.v (Value.int IntKind.i64 0), D.v (Value.int IntKind.i64 5)] = [D.agg [D.v (Value.int IntKind.i64 b2), str r2, y, D.v (Value.int IntKind.i64 e2)], D.v (Value.int IntKind.i64 n2), D.v (Value.int IntKind.i64 cd)])) ∧ (b_4 = false → ∃ (b_5 : Bool), D.v (Value.bool fin) = D.v (Value.bool b_5) ∧ (b_5 = true → ∃ (r_10 : D), PureD Try.prog 20 [D.agg [D.v (Value.int IntKind.i64 b), str r, x, D.v (Value.int IntKind.i64 e)]] [r_10] ∧ fits [(false, [none])] [r_10] ∧ ∃ (r_11 : D), D.bin BinOp.lss r_8 r_10 = some r_11 ∧ ∃ (b_6 : Bool), r_11 = D.v (Value.bool b_6) ∧ (b_6 = true → [D.agg [D.v (Value.int IntKind.i64 b), str r, x, D.v (Value.int IntKind.i64 e)], D.v (Value.int IntKind.i64 0), D.v (Value.int IntKind.i64 5)] = [D.agg [D.v (Value.int IntKind.i64 b2), str r2, y, D.v (Value.int IntKind.i64 e2)], D.v (Value.int IntKind.i64 n2), D.v (Value.int IntKind.i64 cd)]) ∧ (b_6 = false → ∃ (r_12 : D), ∃ (r_13 : D), ReadD Try.prog 27 [D.agg [D.v (Value.int IntKind.i64 b), str r, x], D.v (Value.int IntKind.i64 v), str s] [r_12, r_13] ∧ ((∃ (cs : List D), r_12 = D.agg cs ∧ cs.length = [none, none, some 2].length) ∧ NotAgg r_13 ∧ True) ∧ ∃ (b : Bool), D.v (Value.bool fin) = D.v (Value.bool b) ∧ (b = true → [D.agg [r_12.cell 0, r_12.cell 1, r_12.cell 2, r_8], r_13, D.v (Value.int IntKind.i64 0)] = [D.agg [D.v (Value.int IntKind.i64 b2), str r2, y, D.v (Value.int IntKind.i64 e2)], D.v (Value.int IntKind.i64 n2), D.v (Value.int IntKind.i64 cd)]) ∧ (b = false → [D.agg [r_12.cell 0, r_12.cell 1, r_12.cell 2, D.v (Value.int IntKind.i64 e)], r_13, D.v (Value.int IntKind.i64 0)] = [D.agg [D.v (Value.int IntKind.i64 b2), str r2, y, D.v (Value.int IntKind.i64 e2)], D.v (Value.int IntKind.i64 n2), D.v (Value.int IntKind.i64 cd)]))) ∧ (b_5 = false → ∃ (r_10 : D), ∃ (r_11 : D), ReadD Try.prog 27 [D.agg [D.v (Value.int IntKind.i64 b), str r, x], D.v (Value.int IntKind.i64 v), str s] [r_10, r_11] ∧ ((∃ (cs : List D), r_10 = D.agg cs ∧ cs.length = [none, none, some 2].length) ∧ NotAgg r_11 ∧ True) ∧ ∃ (b : Bool), D.v (Value.bool fin) = D.v (Value.bool b) ∧ (b = true → [D.agg [r_10.cell 0, r_10.cell 1, r_10.cell 2, r_8], r_11, D.v (Value.int IntKind.i64 0)] = [D.agg [D.v (Value.int IntKind.i64 b2), str r2, y, D.v (Value.int IntKind.i64 e2)], D.v (Value.int IntKind.i64 n2), D.v (Value.int IntKind.i64 cd)]) ∧ (b = false → [D.agg [r_10.cell 0, r_10.cell 1, r_10.cell 2, D.v (Value.int IntKind.i64 e)], r_11, D.v (Value.int IntKind.i64 0)] = [D.agg [D.v (Value.int IntKind.i64 b2), str r2, y, D.v (Value.int IntKind.i64 e2)], D.v (Value.int IntKind.i64 n2), D.v (Value.int IntKind.i64 cd)]))))) ∧ (b_2 = true → [D.agg [D.v (Value.int IntKind.i64 b), str r, x, D.v (Value.int IntKind.i64 e)], D.v (Value.int IntKind.i64 0), D.v (Value.int IntKind.i64 2)] = [D.agg [D.v (Value.int IntKind.i64 b2), str r2, y, D.v (Value.int IntKind.i64 e2)], D.v (Value.int IntKind.i64 n2), D.v (Value.int IntKind.i64 cd)])) ∧ (b_1 = true → [D.agg [D.v (Value.int IntKind.i64 b), str r, x, D.v (Value.int IntKind.i64 e)], D.v (Value.int IntKind.i64 0), D.v (Value.int IntKind.i64 2)] = [D.agg [D.v (Value.int IntKind.i64 b2), str r2, y, D.v (Value.int IntKind.i64 e2)], D.v (Value.int IntKind.i64 n2), D.v (Value.int IntKind.i64 cd)])) := by kernel_rfl
set_option maxHeartbeats 4000000 in
theorem rrput_bad (x : D) (ps : List Pt) (b : Int) (r : List Int) (e : Int) (s : List Int) (v : Int) (fin : Bool) (b2 e2 n2 cd : Int) (r2 : List Int) (y : D) (hX : IsL 2 (ps.map ptD) x) (hP : AllB ps) (hm : ps.length ≤ 90000) (hr : r.length ≤ 100000)(hs : s.length ≤ 100000) (v0 : I64 v) (hc : chkR b r.length ps e ≠ 0 ∨ v < 0 ∨ 1099511627776 - (s.length : Nat) < v) (e1 : b = b2) (q2 : r = r2) (e3 : x = y) (e4 : e = e2) (e5 : 0 = n2) (e6 : 2 = cd) : ReadD Try.prog 10 [.agg [.v (.int .i64 b), str r, x, .v (.int .i64 e)], .v (.int .i64 v), str s, .v (.bool fin)] [.agg [.v (.int .i64 b2), str r2, y, .v (.int .i64 e2)], .v (.int .i64 n2), .v (.int .i64 cd)] := by
  refine read_cond (Lp := (fun _ => none)) (by kernel_rfl) Try.func10 (by kernel_rfl) (by kernel_rfl) ?_
  rw [vc_rrput_bad x ps b r e s v fin b2 e2 n2 cd r2 y]
  subst e1; subst q2; subst e3; subst e4; subst e5; subst e6
  obtain ⟨v0, v1⟩ := v0
  have CK := rkrcheck x ps b r e hX hP hm hr
  have hbd := chkR_bd b r.length ps e
  by_cases hz : chkR b r.length ps e = 0
  · rw [hz] at CK
    have hh : v < 0 ∨ 1099511627776 - (s.length : Nat) < v := by omega
    clear hc
    repeat' (first
      | (refine ex_some (by simp (disch := omega) only [bin_shr, bin_shl, bin_and, bin_or, bin_xor, len_str, toStr_ofL, bin_add, bin_sub, bin_mul, bin_quo, bin_rem, bin_lss, bin_leq, bin_gtr, bin_geq, bin_eql, bin_neq, eqs_cn, eqs_ci, eqs_cb, eqs_cs, Option.map_some, lenT_ofL, lst_ofL, lstSz_ofL, chunk_one, lst_nil, lst_sl, lstSz_sl, lstSz_nil, Bool.and_true, Bool.true_and, Bool.and_false, Bool.false_and, beq_self_eq_true, beq_bb, bne_bb, un_not, un_neg, conv_int, min2_int, max2_int, w64, w32, wu8, wu16, wu32, wu64, tdiv_nn, tmod_nn, cell_zero, cell_succ, cell_v, cells_v, cells_agg, Bool.not_true, Bool.not_false, Int.reduceLT, Int.reduceLE, Int.reduceEq, Int.reduceNeg, Int.reduceAdd, Int.reduceSub, Int.reduceMul, intOf_v, decide_true, decide_false]; rfl) ?_)
      | (refine ex_bool ?_)
      | (refine ⟨_, CK, ?_⟩)
      | (refine And.intro ?_ ?_)
      | (intro hx; have hprop := (show ∀ (p : Prop), p → True from fun _ _ => True.intro) _ hx; clear hprop; first | (cases hx; done) | (exfalso; revert hx; simp (disch := omega) only [decide_eq_true_eq, decide_eq_false_iff_not, Bool.not_eq_true', Bool.not_eq_false', Bool.and_eq_true, Bool.and_eq_false_iff, Int.not_lt, Int.not_le, ne_eq, not_false_eq_true, not_true_eq_false, reduceCtorEq, Bool.true_eq_false, Bool.false_eq_true, beq_iff_eq, bne_iff_ne, beq_eq_false_iff_ne, false_or, or_false, true_and, and_true]; done) | (simp (disch := omega) only [decide_eq_true_eq, decide_eq_false_iff_not, Bool.not_eq_true', Bool.not_eq_false', Bool.and_eq_true, Bool.and_eq_false_iff, Int.not_lt, Int.not_le, ne_eq, not_false_eq_true, not_true_eq_false, reduceCtorEq, Bool.true_eq_false, Bool.false_eq_true, beq_iff_eq, bne_iff_ne, beq_eq_false_iff_ne, false_or, or_false, true_and, and_true] at hx; first | (exfalso; omega) | skip) | skip)
      | trivial
      | exact fit_ofL _ _
      | (simp (disch := omega) only [notAgg_v, notAgg_sl, plain_v, fits, fitsOne, fitsCells, xsOf, cell_zero, cell_succ, List.range, List.range.loop, List.map, cond_true, cond_false, D.v.injEq, exists_eq', exists_eq, and_self, and_true, true_and, D.agg.injEq, List.length, exists_eq_left', D.sl.injEq, reduceCtorEq, false_or, true_or, or_true, or_false, cell_zero, cell_succ, cell_v, cells_v, cells_agg, List.length_cons, List.length_nil]; done))
    all_goals first
      | (exfalso; omega)
      | omega
      | exact hX.notAgg
      | exact fitP hX
      | exact plainP hX
      | exact notAgg_v _
      | exact ⟨_, rfl⟩
      | exact ⟨_, rfl, rfl⟩
      | rfl
      | assumption
      | (rw [h1]; show _ ≤ 2; omega)
      | (simp; done)
      | (simp [*]; done)
      | (rw [w64 (by omega) (by omega)]; done)
      | fail
  · generalize chkR b r.length ps e = ck at *
    repeat' (first
      | (refine ex_some (by simp (disch := omega) only [bin_shr, bin_shl, bin_and, bin_or, bin_xor, len_str, toStr_ofL, bin_add, bin_sub, bin_mul, bin_quo, bin_rem, bin_lss, bin_leq, bin_gtr, bin_geq, bin_eql, bin_neq, eqs_cn, eqs_ci, eqs_cb, eqs_cs, Option.map_some, lenT_ofL, lst_ofL, lstSz_ofL, chunk_one, lst_nil, lst_sl, lstSz_sl, lstSz_nil, Bool.and_true, Bool.true_and, Bool.and_false, Bool.false_and, beq_self_eq_true, beq_bb, bne_bb, un_not, un_neg, conv_int, min2_int, max2_int, w64, w32, wu8, wu16, wu32, wu64, tdiv_nn, tmod_nn, cell_zero, cell_succ, cell_v, cells_v, cells_agg, Bool.not_true, Bool.not_false, Int.reduceLT, Int.reduceLE, Int.reduceEq, Int.reduceNeg, Int.reduceAdd, Int.reduceSub, Int.reduceMul, intOf_v, decide_true, decide_false]; rfl) ?_)
      | (refine ex_bool ?_)
      | (refine ⟨_, CK, ?_⟩)
      | (refine And.intro ?_ ?_)
      | (intro hx; have hprop := (show ∀ (p : Prop), p → True from fun _ _ => True.intro) _ hx; clear hprop; first | (cases hx; done) | (exfalso; revert hx; simp (disch := omega) only [decide_eq_true_eq, decide_eq_false_iff_not, Bool.not_eq_true', Bool.not_eq_false', Bool.and_eq_true, Bool.and_eq_false_iff, Int.not_lt, Int.not_le, ne_eq, not_false_eq_true, not_true_eq_false, reduceCtorEq, Bool.true_eq_false, Bool.false_eq_true, beq_iff_eq, bne_iff_ne, beq_eq_false_iff_ne, false_or, or_false, true_and, and_true]; done) | (simp (disch := omega) only [decide_eq_true_eq, decide_eq_false_iff_not, Bool.not_eq_true', Bool.not_eq_false', Bool.and_eq_true, Bool.and_eq_false_iff, Int.not_lt, Int.not_le, ne_eq, not_false_eq_true, not_true_eq_false, reduceCtorEq, Bool.true_eq_false, Bool.false_eq_true, beq_iff_eq, bne_iff_ne, beq_eq_false_iff_ne, false_or, or_false, true_and, and_true] at hx; first | (exfalso; omega) | skip) | skip)
      | trivial
      | exact fit_ofL _ _
      | (simp (disch := omega) only [notAgg_v, notAgg_sl, plain_v, fits, fitsOne, fitsCells, xsOf, cell_zero, cell_succ, List.range, List.range.loop, List.map, cond_true, cond_false, D.v.injEq, exists_eq', exists_eq, and_self, and_true, true_and, D.agg.injEq, List.length, exists_eq_left', D.sl.injEq, reduceCtorEq, false_or, true_or, or_true, or_false, cell_zero, cell_succ, cell_v, cells_v, cells_agg, List.length_cons, List.length_nil]; done))
    all_goals first
      | (exfalso; omega)
      | omega
      | exact hX.notAgg
      | exact fitP hX
      | exact plainP hX
      | exact notAgg_v _
      | exact ⟨_, rfl⟩
      | exact ⟨_, rfl, rfl⟩
      | rfl
      | assumption
      | (rw [h1]; show _ ≤ 2; omega)
      | (simp; done)
      | (simp [*]; done)
      | (rw [w64 (by omega) (by omega)]; done)
      | fail

set_option maxHeartbeats 8000000 in
theorem rrput_shut (x : D) (ps : List Pt) (b : Int) (r : List Int) (e : Int) (s : List Int) (v : Int) (fin : Bool) (b2 e2 n2 cd : Int) (r2 : List Int) (y : D) (hX : IsL 2 (ps.map ptD) x) (hP : AllB ps) (hm : ps.length ≤ 90000) (hr : r.length ≤ 100000)(hs : s.length ≤ 100000) (v0 : I64 v) (hz : chkR b r.length ps e = 0) (w0 : 0 ≤ v) (w1 : v ≤ 1099511627776 - (s.length : Nat)) (hs2 : shutF b ps e v s.length fin) (e1 : b = b2) (q2 : r = r2) (e3 : x = y) (e4 : e = e2) (e5 : 0 = n2) (e6 : 5 = cd) : ReadD Try.prog 10 [.agg [.v (.int .i64 b), str r, x, .v (.int .i64 e)], .v (.int .i64 v), str s, .v (.bool fin)] [.agg [.v (.int .i64 b2), str r2, y, .v (.int .i64 e2)], .v (.int .i64 n2), .v (.int .i64 cd)] := by
  refine read_cond (Lp := (fun _ => none)) (by kernel_rfl) Try.func10 (by kernel_rfl) (by kernel_rfl) ?_
  rw [vc_rrput_bad x ps b r e s v fin b2 e2 n2 cd r2 y]
  subst e1; subst q2; subst e3; subst e4; subst e5; subst e6
  obtain ⟨v0, v1⟩ := v0
  have CK := rkrcheck x ps b r e hX hP hm hr
  rw [hz] at CK
  have hF : chkF b r.length ps = 0 := by
    by_cases h : chkF b r.length ps = 0
    · exact h
    · rw [chkR_bad h] at hz; exact absurd hz h
  have ho : (SS.mk b r ps).Ok := chk_ok.1 hF
  have HI := rhigh x ps b r e hX ho hP
  have hb := high_bd ho
  have hlm : (SS.mk b r ps).lim ≤ 1099511627776 := by rw [SS.lim_o]; omega
  simp only at hb
  have hee : e = -1 ∨ (highF b ps ≤ e ∧ e ≤ 1099511627776) := by
    rw [chkR_ok hF] at hz
    split at hz
    · cases hz
    · rename_i h; omega
  simp only [shutF] at hs2
  generalize highF b ps = hg at *
  cases fin
  all_goals simp only [Bool.false_eq_true, false_and, or_false, true_and] at hs2
  repeat' (first
    | (refine ex_some (by simp (disch := omega) only [bin_shr, bin_shl, bin_and, bin_or, bin_xor, len_str, toStr_ofL, bin_add, bin_sub, bin_mul, bin_quo, bin_rem, bin_lss, bin_leq, bin_gtr, bin_geq, bin_eql, bin_neq, eqs_cn, eqs_ci, eqs_cb, eqs_cs, Option.map_some, lenT_ofL, lst_ofL, lstSz_ofL, chunk_one, lst_nil, lst_sl, lstSz_sl, lstSz_nil, Bool.and_true, Bool.true_and, Bool.and_false, Bool.false_and, beq_self_eq_true, beq_bb, bne_bb, un_not, un_neg, conv_int, min2_int, max2_int, w64, w32, wu8, wu16, wu32, wu64, tdiv_nn, tmod_nn, cell_zero, cell_succ, cell_v, cells_v, cells_agg, Bool.not_true, Bool.not_false, Int.reduceLT, Int.reduceLE, Int.reduceEq, Int.reduceNeg, Int.reduceAdd, Int.reduceSub, Int.reduceMul, intOf_v, decide_true, decide_false]; rfl) ?_)
    | (refine ex_bool ?_)
    | (refine ⟨_, CK, ?_⟩)
    | (refine ⟨_, HI, ?_⟩)
    | (refine And.intro ?_ ?_)
    | (intro hx; have hprop := (show ∀ (p : Prop), p → True from fun _ _ => True.intro) _ hx; clear hprop; first | (cases hx; done) | (exfalso; revert hx; simp (disch := omega) only [decide_eq_true_eq, decide_eq_false_iff_not, Bool.not_eq_true', Bool.not_eq_false', Bool.and_eq_true, Bool.and_eq_false_iff, Int.not_lt, Int.not_le, ne_eq, not_false_eq_true, not_true_eq_false, reduceCtorEq, Bool.true_eq_false, Bool.false_eq_true, beq_iff_eq, bne_iff_ne, beq_eq_false_iff_ne, false_or, or_false, true_and, and_true]; done) | (simp (disch := omega) only [decide_eq_true_eq, decide_eq_false_iff_not, Bool.not_eq_true', Bool.not_eq_false', Bool.and_eq_true, Bool.and_eq_false_iff, Int.not_lt, Int.not_le, ne_eq, not_false_eq_true, not_true_eq_false, reduceCtorEq, Bool.true_eq_false, Bool.false_eq_true, beq_iff_eq, bne_iff_ne, beq_eq_false_iff_ne, false_or, or_false, true_and, and_true] at hx; first | (exfalso; omega) | skip) | skip)
    | trivial
    | exact fit_ofL _ _
    | (simp (disch := omega) only [notAgg_v, notAgg_sl, plain_v, fits, fitsOne, fitsCells, xsOf, cell_zero, cell_succ, List.range, List.range.loop, List.map, cond_true, cond_false, D.v.injEq, exists_eq', exists_eq, and_self, and_true, true_and, D.agg.injEq, List.length, exists_eq_left', D.sl.injEq, reduceCtorEq, false_or, true_or, or_true, or_false, cell_zero, cell_succ, cell_v, cells_v, cells_agg, List.length_cons, List.length_nil]; done))
  all_goals first
    | (exfalso; omega)
    | omega
    | exact hX.notAgg
    | exact fitP hX
    | exact plainP hX
    | exact notAgg_v _
    | exact ⟨_, rfl⟩
    | exact ⟨_, rfl, rfl⟩
    | rfl
    | assumption
    | (rw [h1]; show _ ≤ 2; omega)
    | (simp; done)
    | (simp [*]; done)
    | (rw [w64 (by omega) (by omega)]; done)
    | fail

theorem vc_rrput_fine (x : D) (ps : List Pt) (b : Int) (r : List Int) (e : Int) (s : List Int) (v : Int) (fin : Bool) (b2 e2 n2 cd : Int) (r2 : List Int) (y : D) (qs : List D) : CondR Try.prog (fun _ => none) Try.f10 [.agg [.v (.int .i64 b), str r, x, .v (.int .i64 e)], .v (.int .i64 v), str s, .v (.bool fin)] [.agg [.v (.int .i64 b2), str r2, y, .v (.int .i64 e2)], .v (.int .i64 n2), .v (.int .i64 cd)] = (((∃ (cs : List D), D.agg [D.v (Value.int IntKind.i64 b), str r, x, D.v (Value.int IntKind.i64 e)] = D.agg cs ∧ cs.length = 4) ∧ NotAgg (D.v (Value.int IntKind.i64 v)) ∧ NotAgg (str s) ∧ NotAgg (D.v (Value.bool fin)) ∧ True) ∧ ∃ (r_1 : D), PureD Try.prog 14 [D.agg [D.v (Value.int IntKind.i64 b), str r, x, D.v (Value.int IntKind.i64 e)]] [r_1] ∧ fits [(false, [none])] [r_1] ∧ ∃ (r_2 : D), D.bin BinOp.neq r_1 (D.v (Value.int IntKind.i64 0)) = some r_2 ∧ ∃ (b_1 : Bool), r_2 = D.v (Value.bool b_1) ∧ (b_1 = false → ∃ (r_3 : D), D.bin BinOp.lss (D.v (Value.int IntKind.i64 v)) (D.v (Value.int IntKind.i64 0)) = some r_3 ∧ ∃ (b_2 : Bool), r_3 = D.v (Value.bool b_2) ∧ (b_2 = false → ∃ (r_4 : D), D.lenT TypeDesc.string (str s) = some r_4 ∧ ∃ (r_5 : D), D.bin BinOp.sub (D.v (Value.int IntKind.i64 1099511627776)) r_4 = some r_5 ∧ ∃ (r_6 : D), D.bin BinOp.gtr (D.v (Value.int IntKind.i64 v)) r_5 = some r_6 ∧ ∃ (b_3 : Bool), r_6 = D.v (Value.bool b_3) ∧ (b_3 = true → [D.agg [D.v (Value.int IntKind.i64 b), str r, x, D.v (Value.int IntKind.i64 e)], D.v (Value.int IntKind.i64 0), D.v (Value.int IntKind.i64 2)] = [D.agg [D.v (Value.int IntKind.i64 b2), str r2, y, D.v (Value.int IntKind.i64 e2)], D.v (Value.int IntKind.i64 n2), D.v (Value.int IntKind.i64 cd)]) ∧ (b_3 = false → ∃ (r_7 : D), D.lenT TypeDesc.string (str s) = some r_7 ∧ ∃ (r_8 : D), D.bin BinOp.add (D.v (Value.int IntKind.i64 v)) r_7 = some r_8 ∧ ∃ (r_9 : D), D.bin BinOp.geq (D.v (Value.int IntKind.i64 e)) (D.v (Value.int IntKind.i64 0)) = some r_9 ∧ ∃ (b_4 : Bool), r_9 = D.v (Value.bool b_4) ∧ (b_4 = true → ∃ (r_10 : D), D.bin BinOp.gtr r_8 (D.v (Value.int IntKind.i64 e)) = some r_10 ∧ ∃ (b_5 : Bool), r_10 = D.v (Value.bool b_5) ∧ (b_5 = false → ∃ (b_6 : Bool), D.v (Value.bool fin) = D.v (Value.bool b_6) ∧ (b_6 = true → ∃ (r_11 : D), D.bin BinOp.neq r_8 (D.v (Value.int IntKind.i64 e)) = some r_11 ∧ ∃ (b_7 : Bool), r_11 = D.v (Value.bool b_7) ∧ (b_7 = true → [D.agg [D.v (Value.int IntKind.i64 b), str r, x, D.v (Value.int IntKind.i64 e)], D.v (Value.int IntKind.i64 0), D.v (Value.int IntKind.i64 5)] = [D.agg [D.v (Value.int IntKind.i64 b2), str r2, y, D.v (Value.int IntKind.i64 e2)], D.v (Value.int IntKind.i64 n2), D.v (Value.int IntKind.i64 cd)]) ∧ (b_7 = false → ∃ (b_8 : Bool), D.v (Value.bool fin) = D.v (Value.bool b_8) ∧ (b_8 = true → ∃ (r_12 : D), PureD Try.prog 20 [D.agg [D.v (Value.int IntKind.i64 b), str r, x, D.v (Value.int IntKind.i64 e)]] [r_12] ∧ fits [(false, [none])] [r_12] ∧ ∃ (r_13 : D), D.bin BinOp.lss r_8 r_12 = some r_13 ∧ ∃ (b_9 : Bool), r_13 = D.v (Value.bool b_9) ∧ (b_9 = true → [D.agg [D.v (Value.int IntKind.i64 b), str r, x, D.v (Value.int IntKind.i64 e)], D.v (Value.int IntKind.i64 0), D.v (Value.int IntKind.i64 5)] = [D.agg [D.v (Value.int IntKind.i64 b2), str r2, y, D.v (Value.int IntKind.i64 e2)], D.v (Value.int IntKind.i64 n2), D.v (Value.int IntKind.i64 cd)]) ∧ (b_9 = false → ∃ (r_14 : D), ∃ (r_15 : D), ReadD Try.prog 27 [D.agg [D.v (Value.int IntKind.i64 b), str r, x], D.v (Value.int IntKind.i64 v), str s] [r_14, r_15] ∧ ((∃ (cs : List D), r_14 = D.agg cs ∧ cs.length = [none, none, some 2].length) ∧ NotAgg r_15 ∧ True) ∧ ∃ (b : Bool), D.v (Value.bool fin) = D.v (Value.bool b) ∧ (b = true → [D.agg [r_14.cell 0, r_14.cell 1, r_14.cell 2, r_8], r_15, D.v (Value.int IntKind.i64 0)] = [D.agg [D.v (Value.int IntKind.i64 b2), str r2, y, D.v (Value.int IntKind.i64 e2)], D.v (Value.int IntKind.i64 n2), D.v (Value.int IntKind.i64 cd)]) ∧ (b = false → [D.agg [r_14.cell 0, r_14.cell 1, r_14.cell 2, D.v (Value.int IntKind.i64 e)], r_15, D.v (Value.int IntKind.i64 0)] = [D.agg [D.v (Value.int IntKind.i64 b2), str r2, y, D.v (Value.int IntKind.i64 e2)], D.v (Value.int IntKind.i64 n2), D.v (Value.int IntKind.i64 cd)]))) ∧ (b_8 = false → ∃ (r_12 : D), ∃ (r_13 : D), ReadD Try.prog 27 [D.agg [D.v (Value.int IntKind.i64 b), str r, x], D.v (Value.int IntKind.i64 v), str s] [r_12, r_13] ∧ ((∃ (cs : List D), r_12 = D.agg cs ∧ cs.length = [none, none, some 2].length) ∧ NotAgg r_13 ∧ True) ∧ ∃ (b : Bool), D.v (Value.bool fin) = D.v (Value.bool b) ∧ (b = true → [D.agg [r_12.cell 0, r_12.cell 1, r_12.cell 2, r_8], r_13, D.v (Value.int IntKind.i64 0)] = [D.agg [D.v (Value.int IntKind.i64 b2), str r2, y, D.v (Value.int IntKind.i64 e2)], D.v (Value.int IntKind.i64 n2), D.v (Value.int IntKind.i64 cd)]) ∧ (b = false → [D.agg [r_12.cell 0, r_12.cell 1, r_12.cell 2, D.v (Value.int IntKind.i64 e)], r_13, D.v (Value.int IntKind.i64 0)] = [D.agg [D.v (Value.int IntKind.i64 b2), str r2, y, D.v (Value.int IntKind.i64 e2)], D.v (Value.int IntKind.i64 n2), D.v (Value.int IntKind.i64 cd)])))) ∧ (b_6 = false → ∃ (b_7 : Bool), D.v (Value.bool fin) = D.v (Value.bool b_7) ∧ (b_7 = true → ∃ (r_11 : D), PureD Try.prog 20 [D.agg [D.v (Value.int IntKind.i64 b), str r, x, D.v (Value.int IntKind.i64 e)]] [r_11] ∧ fits [(false, [none])] [r_11] ∧ ∃ (r_12 : D), D.bin BinOp.lss r_8 r_11 = some r_12 ∧ ∃ (b_8 : Bool), r_12 = D.v (Value.bool b_8) ∧ (b_8 = true → [D.agg [D.v (Value.int IntKind.i64 b), str r, x, D.v (Value.int IntKind.i64 e)], D.v (Value.int IntKind.i64 0), D.v (Value.int IntKind.i64 5)] = [D.agg [D.v (Value.int IntKind.i64 b2), str r2, y, D.v (Value.int IntKind.i64 e2)], D.v (Value.int IntKind.i64 n2), D.v (Value.int IntKind.i64 cd)]) ∧ (b_8 = false → ∃ (r_13 : D), ∃ (r_14 : D), ReadD Try.prog 27 [D.agg [D.v (Value.int IntKind.i64 b), str r, x], D.v (Value.int IntKind.i64 v), str s] [r_13, r_14] ∧ ((∃ (cs : List D), r_13 = D.agg cs ∧ cs.length = [none, none, some 2].length) ∧ NotAgg r_14 ∧ True) ∧ ∃ (b : Bool), D.v (Value.bool fin) = D.v (Value.bool b) ∧ (b = true → [D.agg [r_13.cell 0, r_13.cell 1, r_13.cell 2, r_8], r_14, D.v (Value.int IntKind.i64 0)] = [D.agg [D.v (Value.int IntKind.i64 b2), str r2, y, D.v (Value.int IntKind.i64 e2)], D.v (Value.int IntKind.i64 n2), D.v (Value.int IntKind.i64 cd)]) ∧ (b = false → [D.agg [r_13.cell 0, r_13.cell 1, r_13.cell 2, D.v (Value.int IntKind.i64 e)], r_14, D.v (Value.int IntKind.i64 0)] = [D.agg [D.v (Value.int IntKind.i64 b2), str r2, y, D.v (Value.int IntKind.i64 e2)], D.v (Value.int IntKind.i64 n2), D.v (Value.int IntKind.i64 cd)]))) ∧ (b_7 = false → ∃ (r_11 : D), ∃ (r_12 : D), ReadD Try.prog 27 [D.agg [D.v (Value.int IntKind.i64 b), str r, x], D.v (Value.int IntKind.i64 v), str s] [r_11, r_12] ∧ ((∃ (cs : List D), r_11 = D.agg cs ∧ cs.length = [none, none, some 2].length) ∧ NotAgg r_12 ∧ True) ∧ ∃ (b : Bool), D.v (Value.bool fin) = D.v (Value.bool b) ∧ (b = true → [D.agg [r_11.cell 0, r_11.cell 1, r_11.cell 2, r_8], r_12, D.v (Value.int IntKind.i64 0)] = [D.agg [D.v (Value.int IntKind.i64 b2), str r2, y, D.v (Value.int IntKind.i64 e2)], D.v (Value.int IntKind.i64 n2), D.v (Value.int IntKind.i64 cd)]) ∧ (b = false → [D.agg [r_11.cell 0, r_11.cell 1, r_11.cell 2, D.v (Value.int IntKind.i64 e)], r_12, D.v (Value.int IntKind.i64 0)] = [D.agg [D.v (Value.int IntKind.i64 b2), str r2, y, D.v (Value.int IntKind.i64 e2)], D.v (Value.int IntKind.i64 n2), D.v (Value.int IntKind.i64 cd)])))) ∧ (b_5 = true → [D.agg [D.v (Value.int IntKind.i64 b), str r, x, D.v (Value.int IntKind.i64 e)], D.v (Value.int IntKind.i64 0), D.v (Value.int IntKind.i64 5)] = [D.agg [D.v (Value.int IntKind.i64 b2), str r2, y, D.v (Value.int IntKind.i64 e2)], D.v (Value.int IntKind.i64 n2), D.v (Value.int IntKind.i64 cd)])) ∧ (b_4 = false → ∃ (b_5 : Bool), D.v (Value.bool fin) = D.v (Value.bool b_5) ∧ (b_5 = true → ∃ (r_10 : D), PureD Try.prog 20 [D.agg [D.v (Value.int IntKind.i64 b), str r, x, D.v (Value.int IntKind.i64 e)]] [r_10] ∧ fits [(false, [none])] [r_10] ∧ ∃ (r_11 : D), D.bin BinOp.lss r_8 r_10 = some r_11 ∧ ∃ (b_6 : Bool), r_11 = D.v (Value.bool b_6) ∧ (b_6 = true → [D.agg [D.v (Value.int IntKind.i64 b), str r, x, D.v (Value.int IntKind.i64 e)], D.v (Value.int IntKind.i64 0), D.v (Value.int IntKind.i64 5)] = [D.agg [D.v (Value.int IntKind.i64 b2), str r2, y, D.v (Value.int IntKind.i64 e2)], D.v (Value.int IntKind.i64 n2), D.v (Value.int IntKind.i64 cd)]) ∧ (b_6 = false → ∃ (r_12 : D), ∃ (r_13 : D), ReadD Try.prog 27 [D.agg [D.v (Value.int IntKind.i64 b), str r, x], D.v (Value.int IntKind.i64 v), str s] [r_12, r_13] ∧ ((∃ (cs : List D), r_12 = D.agg cs ∧ cs.length = [none, none, some 2].length) ∧ NotAgg r_13 ∧ True) ∧ ∃ (b : Bool), D.v (Value.bool fin) = D.v (Value.bool b) ∧ (b = true → [D.agg [r_12.cell 0, r_12.cell 1, r_12.cell 2, r_8], r_13, D.v (Value.int IntKind.i64 0)] = [D.agg [D.v (Value.int IntKind.i64 b2), str r2, y, D.v (Value.int IntKind.i64 e2)], D.v (Value.int IntKind.i64 n2), D.v (Value.int IntKind.i64 cd)]) ∧ (b = false → [D.agg [r_12.cell 0, r_12.cell 1, r_12.cell 2, D.v (Value.int IntKind.i64 e)], r_13, D.v (Value.int IntKind.i64 0)] = [D.agg [D.v (Value.int IntKind.i64 b2), str r2, y, D.v (Value.int IntKind.i64 e2)], D.v (Value.int IntKind.i64 n2), D.v (Value.int IntKind.i64 cd)]))) ∧ (b_5 = false → ∃ (r_10 : D), ∃ (r_11 : D), ReadD Try.prog 27 [D.agg [D.v (Value.int IntKind.i64 b), str r, x], D.v (Value.int IntKind.i64 v), str s] [r_10, r_11] ∧ ((∃ (cs : List D), r_10 = D.agg cs ∧ cs.length = [none, none, some 2].length) ∧ NotAgg r_11 ∧ True) ∧ ∃ (b : Bool), D.v (Value.bool fin) = D.v (Value.bool b) ∧ (b = true → [D.agg [r_10.cell 0, r_10.cell 1, r_10.cell 2, r_8], r_11, D.v (Value.int IntKind.i64 0)] = [D.agg [D.v (Value.int IntKind.i64 b2), str r2, y, D.v (Value.int IntKind.i64 e2)], D.v (Value.int IntKind.i64 n2), D.v (Value.int IntKind.i64 cd)]) ∧ (b = false → [D.agg [r_10.cell 0, r_10.cell 1, r_10.cell 2, D.v (Value.int IntKind.i64 e)], r_11, D.v (Value.int IntKind.i64 0)] = [D.agg [D.v (Value.int IntKind.i64 b2), str r2, y, D.v (Value.int IntKind.i64 e2)], D.v (Value.int IntKind.i64 n2), D.v (Value.int IntKind.i64 cd)]))))) ∧ (b_2 = true → [D.agg [D.v (Value.int IntKind.i64 b), str r, x, D.v (Value.int IntKind.i64 e)], D.v (Value.int IntKind.i64 0), D.v (Value.int IntKind.i64 2)] = [D.agg [D.v (Value.int IntKind.i64 b2), str r2, y, D.v (Value.int IntKind.i64 e2)], D.v (Value.int IntKind.i64 n2), D.v (Value.int IntKind.i64 cd)])) ∧ (b_1 = true → [D.agg [D.v (Value.int IntKind.i64 b), str r, x, D.v (Value.int IntKind.i64 e)], D.v (Value.int IntKind.i64 0), D.v (Value.int IntKind.i64 2)] = [D.agg [D.v (Value.int IntKind.i64 b2), str r2, y, D.v (Value.int IntKind.i64 e2)], D.v (Value.int IntKind.i64 n2), D.v (Value.int IntKind.i64 cd)])) := by kernel_rfl
set_option maxHeartbeats 8000000 in
theorem rrput_fine (x : D) (ps : List Pt) (b : Int) (r : List Int) (e : Int) (s : List Int) (v : Int) (fin : Bool) (b2 e2 n2 cd : Int) (r2 : List Int) (y : D) (qs : List D) (hX : IsL 2 (ps.map ptD) x) (hP : AllB ps) (hm : ps.length ≤ 90000) (hr : r.length ≤ 100000)(hs : s.length ≤ 100000) (v0 : I64 v) (hz : chkR b r.length ps e = 0) (w0 : 0 ≤ v) (w1 : v ≤ 1099511627776 - (s.length : Nat)) (hs2 : ¬ shutF b ps e v s.length fin) (hY : IsL 2 qs y) (P : ReadD Try.prog 27 [.agg [.v (.int .i64 b), str r, x], .v (.int .i64 v), str s] [.agg [.v (.int .i64 b2), str r2, y], .v (.int .i64 n2)]) (e4 : (if fin = true then v + s.length else e) = e2) (e6 : 0 = cd) : ReadD Try.prog 10 [.agg [.v (.int .i64 b), str r, x, .v (.int .i64 e)], .v (.int .i64 v), str s, .v (.bool fin)] [.agg [.v (.int .i64 b2), str r2, y, .v (.int .i64 e2)], .v (.int .i64 n2), .v (.int .i64 cd)] := by
  refine read_cond (Lp := (fun _ => none)) (by kernel_rfl) Try.func10 (by kernel_rfl) (by kernel_rfl) ?_
  rw [vc_rrput_fine x ps b r e s v fin b2 e2 n2 cd r2 y qs]
  subst e4; subst e6
  obtain ⟨v0, v1⟩ := v0
  have CK := rkrcheck x ps b r e hX hP hm hr
  rw [hz] at CK
  have hF : chkF b r.length ps = 0 := by
    by_cases h : chkF b r.length ps = 0
    · exact h
    · rw [chkR_bad h] at hz; exact absurd hz h
  have ho : (SS.mk b r ps).Ok := chk_ok.1 hF
  have HI := rhigh x ps b r e hX ho hP
  have hb := high_bd ho
  have hlm : (SS.mk b r ps).lim ≤ 1099511627776 := by rw [SS.lim_o]; omega
  simp only at hb
  have hee : e = -1 ∨ (highF b ps ≤ e ∧ e ≤ 1099511627776) := by
    rw [chkR_ok hF] at hz
    split at hz
    · cases hz
    · rename_i h; omega
  simp only [shutF] at hs2
  generalize highF b ps = hg at *
  cases fin
  all_goals simp only [Bool.false_eq_true, false_and, or_false, true_and, if_true, if_false] at hs2 ⊢
  repeat' (first
    | (refine ex_some (by simp (disch := omega) only [bin_shr, bin_shl, bin_and, bin_or, bin_xor, len_str, toStr_ofL, bin_add, bin_sub, bin_mul, bin_quo, bin_rem, bin_lss, bin_leq, bin_gtr, bin_geq, bin_eql, bin_neq, eqs_cn, eqs_ci, eqs_cb, eqs_cs, Option.map_some, lenT_ofL, lst_ofL, lstSz_ofL, chunk_one, lst_nil, lst_sl, lstSz_sl, lstSz_nil, Bool.and_true, Bool.true_and, Bool.and_false, Bool.false_and, beq_self_eq_true, beq_bb, bne_bb, un_not, un_neg, conv_int, min2_int, max2_int, w64, w32, wu8, wu16, wu32, wu64, tdiv_nn, tmod_nn, cell_zero, cell_succ, cell_v, cells_v, cells_agg, Bool.not_true, Bool.not_false, Int.reduceLT, Int.reduceLE, Int.reduceEq, Int.reduceNeg, Int.reduceAdd, Int.reduceSub, Int.reduceMul, intOf_v, decide_true, decide_false]; rfl) ?_)
    | (refine ex_bool ?_)
    | (refine ⟨_, CK, ?_⟩)
    | (refine ⟨_, HI, ?_⟩)
    | (refine ⟨_, _, P, ?_⟩)
    | (refine And.intro ?_ ?_)
    | (intro hx; have hprop := (show ∀ (p : Prop), p → True from fun _ _ => True.intro) _ hx; clear hprop; first | (cases hx; done) | (exfalso; revert hx; simp (disch := omega) only [decide_eq_true_eq, decide_eq_false_iff_not, Bool.not_eq_true', Bool.not_eq_false', Bool.and_eq_true, Bool.and_eq_false_iff, Int.not_lt, Int.not_le, ne_eq, not_false_eq_true, not_true_eq_false, reduceCtorEq, Bool.true_eq_false, Bool.false_eq_true, beq_iff_eq, bne_iff_ne, beq_eq_false_iff_ne, false_or, or_false, true_and, and_true]; done) | (simp (disch := omega) only [decide_eq_true_eq, decide_eq_false_iff_not, Bool.not_eq_true', Bool.not_eq_false', Bool.and_eq_true, Bool.and_eq_false_iff, Int.not_lt, Int.not_le, ne_eq, not_false_eq_true, not_true_eq_false, reduceCtorEq, Bool.true_eq_false, Bool.false_eq_true, beq_iff_eq, bne_iff_ne, beq_eq_false_iff_ne, false_or, or_false, true_and, and_true] at hx; first | (exfalso; omega) | skip) | skip)
    | trivial
    | exact fit_ofL _ _
    | (simp (disch := omega) only [notAgg_v, notAgg_sl, plain_v, fits, fitsOne, fitsCells, xsOf, cell_zero, cell_succ, List.range, List.range.loop, List.map, cond_true, cond_false, D.v.injEq, exists_eq', exists_eq, and_self, and_true, true_and, D.agg.injEq, List.length, exists_eq_left', D.sl.injEq, reduceCtorEq, false_or, true_or, or_true, or_false, cell_zero, cell_succ, cell_v, cells_v, cells_agg, List.length_cons, List.length_nil]; done))
  all_goals first
    | (exfalso; omega)
    | omega
    | exact hX.notAgg
    | exact hY.notAgg
    | exact fitP hX
    | exact plainP hX
    | exact notAgg_v _
    | exact ⟨_, rfl⟩
    | exact ⟨_, rfl, rfl⟩
    | rfl
    | assumption
    | (rw [h1]; show _ ≤ 2; omega)
    | (simp; done)
    | (simp [*]; done)
    | (rw [w64 (by omega) (by omega)]; done)
    | fail

theorem vc_rkread (x : D) (ps : List Pt) (b : Int) (r : List Int) (e : Int) (n : Int) : Cond Try.prog (fun _ => none) Try.f11 [.agg [.v (.int .i64 b), str r, x, .v (.int .i64 e)], .v (.int .i64 n)] [.agg [.v (.int .i64 b), str (r.drop (readN b r ps n)), x, .v (.int .i64 e)], str (r.take (readN b r ps n)), .v (.bool (wholeF b (r.drop (readN b r ps n)).length ps e && decide ((r.drop (readN b r ps n)).length = 0)))] = (((∃ (cs : List D), D.agg [D.v (Value.int IntKind.i64 b), str r, x, D.v (Value.int IntKind.i64 e)] = D.agg cs ∧ cs.length = 4) ∧ NotAgg (D.v (Value.int IntKind.i64 n)) ∧ True) ∧ ∃ (r_1 : D), ∃ (r_2 : D), PureD Try.prog 28 [D.agg [D.v (Value.int IntKind.i64 b), str r, x], D.v (Value.int IntKind.i64 n)] [r_1, r_2] ∧ fits [(true, [none, none, some 2]), (false, [none])] [r_1, r_2] ∧ ∃ (r_3 : D), PureD Try.prog 17 [D.agg [r_1.cell 0, r_1.cell 1, r_1.cell 2, D.v (Value.int IntKind.i64 e)]] [r_3] ∧ fits [(false, [none])] [r_3] ∧ ((∃ (y : Value), r_1.cell 0 = D.v y) ∧ (∃ (y : Value), r_1.cell 1 = D.v y) ∧ PlainD (r_1.cell 2) ∧ (∃ (y : Value), D.v (Value.int IntKind.i64 e) = D.v y) ∧ (∃ (y : Value), r_2 = D.v y) ∧ (∃ (y : Value), r_3 = D.v y) ∧ True) ∧ [D.agg [r_1.cell 0, r_1.cell 1, r_1.cell 2, D.v (Value.int IntKind.i64 e)], r_2, r_3] = [D.agg [D.v (Value.int IntKind.i64 b), str (List.drop (readN b r ps n) r), x, D.v (Value.int IntKind.i64 e)], str (List.take (readN b r ps n) r), D.v (Value.bool (match wholeF b (List.drop (readN b r ps n) r).length ps e with | false => false | true => decide ((List.drop (readN b r ps n) r).length = 0)))]) := by kernel_rfl
set_option maxHeartbeats 4000000 in
theorem rkread (x : D) (ps : List Pt) (b : Int) (r : List Int) (e : Int) (n : Int) (hX : IsL 2 (ps.map ptD) x) (hP : AllB ps) (hm : ps.length ≤ 90000) (hr : r.length ≤ 100000) (hb : Bytes r) : PureD Try.prog 11 [.agg [.v (.int .i64 b), str r, x, .v (.int .i64 e)], .v (.int .i64 n)] [.agg [.v (.int .i64 b), str (r.drop (readN b r ps n)), x, .v (.int .i64 e)], str (r.take (readN b r ps n)), .v (.bool (wholeF b (r.drop (readN b r ps n)).length ps e && decide ((r.drop (readN b r ps n)).length = 0)))] := by
  refine pure_cond (Lp := (fun _ => none)) (by kernel_rfl) Try.func11 (by kernel_rfl) (by kernel_rfl) ?_
  rw [vc_rkread x ps b r e n]
  have RD := read x ps b r n hX hP (by omega) hr
  have EN := ended x ps b (r.drop (readN b r ps n)) e hX hP hm (by rw [List.length_drop]; omega) (hb.drop _)
  repeat' (first
    | (refine ex_some (by simp (disch := omega) only [bin_shr, bin_shl, bin_and, bin_or, bin_xor, len_str, toStr_ofL, bin_add, bin_sub, bin_mul, bin_quo, bin_rem, bin_lss, bin_leq, bin_gtr, bin_geq, bin_eql, bin_neq, eqs_cn, eqs_ci, eqs_cb, eqs_cs, Option.map_some, lenT_ofL, lst_ofL, lstSz_ofL, chunk_one, lst_nil, lst_sl, lstSz_sl, lstSz_nil, Bool.and_true, Bool.true_and, Bool.and_false, Bool.false_and, beq_self_eq_true, beq_bb, bne_bb, un_not, un_neg, conv_int, min2_int, max2_int, w64, w32, wu8, wu16, wu32, wu64, tdiv_nn, tmod_nn, cell_zero, cell_succ, cell_v, cells_v, cells_agg, Bool.not_true, Bool.not_false, Int.reduceLT, Int.reduceLE, Int.reduceEq, Int.reduceNeg, Int.reduceAdd, Int.reduceSub, Int.reduceMul, intOf_v, decide_true, decide_false]; rfl) ?_)
    | (refine ex_bool ?_)
    | (refine ⟨_, _, RD, ?_⟩)
    | (refine ⟨_, EN, ?_⟩)
    | (refine And.intro ?_ ?_)
    | (intro hx; have hprop := (show ∀ (p : Prop), p → True from fun _ _ => True.intro) _ hx; clear hprop; first | (cases hx; done) | (exfalso; revert hx; simp (disch := omega) only [decide_eq_true_eq, decide_eq_false_iff_not, Bool.not_eq_true', Bool.not_eq_false', Bool.and_eq_true, Bool.and_eq_false_iff, Int.not_lt, Int.not_le, ne_eq, not_false_eq_true, not_true_eq_false, reduceCtorEq, Bool.true_eq_false, Bool.false_eq_true, beq_iff_eq, bne_iff_ne, beq_eq_false_iff_ne, false_or, or_false, true_and, and_true]; done) | (simp (disch := omega) only [decide_eq_true_eq, decide_eq_false_iff_not, Bool.not_eq_true', Bool.not_eq_false', Bool.and_eq_true, Bool.and_eq_false_iff, Int.not_lt, Int.not_le, ne_eq, not_false_eq_true, not_true_eq_false, reduceCtorEq, Bool.true_eq_false, Bool.false_eq_true, beq_iff_eq, bne_iff_ne, beq_eq_false_iff_ne, false_or, or_false, true_and, and_true] at hx; first | (exfalso; omega) | skip) | skip)
    | trivial
    | exact fit_ofL _ _
    | (simp (disch := omega) only [notAgg_v, notAgg_sl, plain_v, fits, fitsOne, fitsCells, xsOf, cell_zero, cell_succ, List.range, List.range.loop, List.map, cond_true, cond_false, D.v.injEq, exists_eq', exists_eq, and_self, and_true, true_and, D.agg.injEq, List.length, exists_eq_left', D.sl.injEq, reduceCtorEq, false_or, true_or, or_true, or_false, cell_zero, cell_succ, cell_v, cells_v, cells_agg, List.length_cons, List.length_nil]; done))
  all_goals first
    | (exfalso; omega)
    | omega
    | exact hX.notAgg
    | exact fitP hX
    | exact plainP hX
    | exact notAgg_v _
    | exact ⟨_, rfl⟩
    | exact ⟨_, rfl, rfl⟩
    | rfl
    | assumption
    | (rw [h1]; show _ ≤ 2; omega)
    | (simp; done)
    | (simp [*]; done)
    | (rw [w64 (by omega) (by omega)]; done)
    | fail

theorem vc_rrread (x : D) (ps : List Pt) (b : Int) (r : List Int) (e : Int) (n : Int) : CondR Try.prog (fun _ => none) Try.f12 [.agg [.v (.int .i64 b), str r, x, .v (.int .i64 e)], .v (.int .i64 n)] [.agg [.v (.int .i64 b), str (r.drop (readN b r ps n)), x, .v (.int .i64 e)], str (r.take (readN b r ps n)), .v (.bool (wholeF b (r.drop (readN b r ps n)).length ps e && decide ((r.drop (readN b r ps n)).length = 0)))] = (((∃ (cs : List D), D.agg [D.v (Value.int IntKind.i64 b), str r, x, D.v (Value.int IntKind.i64 e)] = D.agg cs ∧ cs.length = 4) ∧ NotAgg (D.v (Value.int IntKind.i64 n)) ∧ True) ∧ ∃ (r_1 : D), ∃ (r_2 : D), ReadD Try.prog 29 [D.agg [D.v (Value.int IntKind.i64 b), str r, x], D.v (Value.int IntKind.i64 n)] [r_1, r_2] ∧ ((∃ (cs : List D), r_1 = D.agg cs ∧ cs.length = [none, none, some 2].length) ∧ NotAgg r_2 ∧ True) ∧ ∃ (r_3 : D), PureD Try.prog 18 [D.agg [r_1.cell 0, r_1.cell 1, r_1.cell 2, D.v (Value.int IntKind.i64 e)]] [r_3] ∧ fits [(false, [none])] [r_3] ∧ [D.agg [r_1.cell 0, r_1.cell 1, r_1.cell 2, D.v (Value.int IntKind.i64 e)], r_2, r_3] = [D.agg [D.v (Value.int IntKind.i64 b), str (List.drop (readN b r ps n) r), x, D.v (Value.int IntKind.i64 e)], str (List.take (readN b r ps n) r), D.v (Value.bool (match wholeF b (List.drop (readN b r ps n) r).length ps e with | false => false | true => decide ((List.drop (readN b r ps n) r).length = 0)))]) := by kernel_rfl
set_option maxHeartbeats 4000000 in
theorem rrread (x : D) (ps : List Pt) (b : Int) (r : List Int) (e : Int) (n : Int) (hX : IsL 2 (ps.map ptD) x) (hP : AllB ps) (hm : ps.length ≤ 90000) (hr : r.length ≤ 100000) (hb : Bytes r) : ReadD Try.prog 12 [.agg [.v (.int .i64 b), str r, x, .v (.int .i64 e)], .v (.int .i64 n)] [.agg [.v (.int .i64 b), str (r.drop (readN b r ps n)), x, .v (.int .i64 e)], str (r.take (readN b r ps n)), .v (.bool (wholeF b (r.drop (readN b r ps n)).length ps e && decide ((r.drop (readN b r ps n)).length = 0)))] := by
  refine read_cond (Lp := (fun _ => none)) (by kernel_rfl) Try.func12 (by kernel_rfl) (by kernel_rfl) ?_
  rw [vc_rrread x ps b r e n]
  have RD := rread x ps b r n hX hP (by omega) hr
  have EN := rended x ps b (r.drop (readN b r ps n)) e hX hP hm (by rw [List.length_drop]; omega) (hb.drop _)
  repeat' (first
    | (refine ex_some (by simp (disch := omega) only [bin_shr, bin_shl, bin_and, bin_or, bin_xor, len_str, toStr_ofL, bin_add, bin_sub, bin_mul, bin_quo, bin_rem, bin_lss, bin_leq, bin_gtr, bin_geq, bin_eql, bin_neq, eqs_cn, eqs_ci, eqs_cb, eqs_cs, Option.map_some, lenT_ofL, lst_ofL, lstSz_ofL, chunk_one, lst_nil, lst_sl, lstSz_sl, lstSz_nil, Bool.and_true, Bool.true_and, Bool.and_false, Bool.false_and, beq_self_eq_true, beq_bb, bne_bb, un_not, un_neg, conv_int, min2_int, max2_int, w64, w32, wu8, wu16, wu32, wu64, tdiv_nn, tmod_nn, cell_zero, cell_succ, cell_v, cells_v, cells_agg, Bool.not_true, Bool.not_false, Int.reduceLT, Int.reduceLE, Int.reduceEq, Int.reduceNeg, Int.reduceAdd, Int.reduceSub, Int.reduceMul, intOf_v, decide_true, decide_false]; rfl) ?_)
    | (refine ex_bool ?_)
    | (refine ⟨_, _, RD, ?_⟩)
    | (refine ⟨_, EN, ?_⟩)
    | (refine And.intro ?_ ?_)
    | (intro hx; have hprop := (show ∀ (p : Prop), p → True from fun _ _ => True.intro) _ hx; clear hprop; first | (cases hx; done) | (exfalso; revert hx; simp (disch := omega) only [decide_eq_true_eq, decide_eq_false_iff_not, Bool.not_eq_true', Bool.not_eq_false', Bool.and_eq_true, Bool.and_eq_false_iff, Int.not_lt, Int.not_le, ne_eq, not_false_eq_true, not_true_eq_false, reduceCtorEq, Bool.true_eq_false, Bool.false_eq_true, beq_iff_eq, bne_iff_ne, beq_eq_false_iff_ne, false_or, or_false, true_and, and_true]; done) | (simp (disch := omega) only [decide_eq_true_eq, decide_eq_false_iff_not, Bool.not_eq_true', Bool.not_eq_false', Bool.and_eq_true, Bool.and_eq_false_iff, Int.not_lt, Int.not_le, ne_eq, not_false_eq_true, not_true_eq_false, reduceCtorEq, Bool.true_eq_false, Bool.false_eq_true, beq_iff_eq, bne_iff_ne, beq_eq_false_iff_ne, false_or, or_false, true_and, and_true] at hx; first | (exfalso; omega) | skip) | skip)
    | trivial
    | exact fit_ofL _ _
    | (simp (disch := omega) only [notAgg_v, notAgg_sl, plain_v, fits, fitsOne, fitsCells, xsOf, cell_zero, cell_succ, List.range, List.range.loop, List.map, cond_true, cond_false, D.v.injEq, exists_eq', exists_eq, and_self, and_true, true_and, D.agg.injEq, List.length, exists_eq_left', D.sl.injEq, reduceCtorEq, false_or, true_or, or_true, or_false, cell_zero, cell_succ, cell_v, cells_v, cells_agg, List.length_cons, List.length_nil]; done))
  all_goals first
    | (exfalso; omega)
    | omega
    | exact hX.notAgg
    | exact fitP hX
    | exact plainP hX
    | exact notAgg_v _
    | exact ⟨_, rfl⟩
    | exact ⟨_, rfl, rfl⟩
    | rfl
    | assumption
    | (rw [h1]; show _ ≤ 2; omega)
    | (simp; done)
    | (simp [*]; done)
    | (rw [w64 (by omega) (by omega)]; done)
    | fail

theorem vc_rksame (x y : D) (ps qs : List Pt) (b c e f : Int) (r t : List Int) : Cond Try.prog (fun _ => none) Try.f23 [.agg [.v (.int .i64 b), str r, x, .v (.int .i64 e)], .agg [.v (.int .i64 c), str t, y, .v (.int .i64 f)]] [.v (.bool (sameS b c r t ps qs && decide (e = f)))] = (((∃ (cs : List D), D.agg [D.v (Value.int IntKind.i64 b), str r, x, D.v (Value.int IntKind.i64 e)] = D.agg cs ∧ cs.length = 4) ∧ (∃ (cs : List D), D.agg [D.v (Value.int IntKind.i64 c), str t, y, D.v (Value.int IntKind.i64 f)] = D.agg cs ∧ cs.length = 4) ∧ True) ∧ ∃ (r_1 : D), PureD Try.prog 36 [D.agg [D.v (Value.int IntKind.i64 b), str r, x], D.agg [D.v (Value.int IntKind.i64 c), str t, y]] [r_1] ∧ fits [(false, [none])] [r_1] ∧ ∃ (b_1 : Bool), r_1 = D.v (Value.bool b_1) ∧ (b_1 = true → ∃ (r_2 : D), D.bin BinOp.eql (D.v (Value.int IntKind.i64 e)) (D.v (Value.int IntKind.i64 f)) = some r_2 ∧ ((∃ (y : Value), r_2 = D.v y) ∧ True) ∧ [r_2] = [D.v (Value.bool (match sameS b c r t ps qs with | false => false | true => decide (e = f)))]) ∧ (b_1 = false → (True ∧ True) ∧ [D.v (Value.bool false)] = [D.v (Value.bool (match sameS b c r t ps qs with | false => false | true => decide (e = f)))])) := by kernel_rfl
theorem rksame (x y : D) (ps qs : List Pt) (b c e f : Int) (r t : List Int) (hX : IsL 2 (ps.map ptD) x) (hY : IsL 2 (qs.map ptD) y) (ha : ps.length ≤ 100000) (hb : qs.length ≤ 100000) (hP : AllB ps) (hQ : AllB qs) (hr : Bytes r) (ht : Bytes t) : PureD Try.prog 23 [.agg [.v (.int .i64 b), str r, x, .v (.int .i64 e)], .agg [.v (.int .i64 c), str t, y, .v (.int .i64 f)]] [.v (.bool (sameS b c r t ps qs && decide (e = f)))] := by
  refine pure_cond (Lp := (fun _ => none)) (by kernel_rfl) Try.func23 (by kernel_rfl) (by kernel_rfl) ?_
  rw [vc_rksame x y ps qs b c e f r t]
  have SM := same x y ps qs b c r t hX hY ha hb hP hQ hr ht
  generalize sameS b c r t ps qs = sm at SM ⊢
  cases sm
  all_goals simp only [Bool.false_and, Bool.true_and]
  repeat' (first
    | (refine ex_some (by simp (disch := omega) only [bin_shr, bin_shl, bin_and, bin_or, bin_xor, len_str, toStr_ofL, bin_add, bin_sub, bin_mul, bin_quo, bin_rem, bin_lss, bin_leq, bin_gtr, bin_geq, bin_eql, bin_neq, eqs_cn, eqs_ci, eqs_cb, eqs_cs, Option.map_some, lenT_ofL, lst_ofL, lstSz_ofL, chunk_one, lst_nil, lst_sl, lstSz_sl, lstSz_nil, Bool.and_true, Bool.true_and, Bool.and_false, Bool.false_and, beq_self_eq_true, beq_bb, bne_bb, un_not, un_neg, conv_int, min2_int, max2_int, w64, w32, wu8, wu16, wu32, wu64, tdiv_nn, tmod_nn, cell_zero, cell_succ, cell_v, cells_v, cells_agg, Bool.not_true, Bool.not_false, Int.reduceLT, Int.reduceLE, Int.reduceEq, Int.reduceNeg, Int.reduceAdd, Int.reduceSub, Int.reduceMul, intOf_v, decide_true, decide_false]; rfl) ?_)
    | (refine ex_bool ?_)
    | (refine ⟨_, SM, ?_⟩)
    | (refine And.intro ?_ ?_)
    | (intro hx; have hprop := (show ∀ (p : Prop), p → True from fun _ _ => True.intro) _ hx; clear hprop; first | (cases hx; done) | (exfalso; revert hx; simp (disch := omega) only [decide_eq_true_eq, decide_eq_false_iff_not, Bool.not_eq_true', Bool.not_eq_false', Bool.and_eq_true, Bool.and_eq_false_iff, Int.not_lt, Int.not_le, ne_eq, not_false_eq_true, not_true_eq_false, reduceCtorEq, Bool.true_eq_false, Bool.false_eq_true, beq_iff_eq, bne_iff_ne, beq_eq_false_iff_ne, false_or, or_false, true_and, and_true]; done) | (simp (disch := omega) only [decide_eq_true_eq, decide_eq_false_iff_not, Bool.not_eq_true', Bool.not_eq_false', Bool.and_eq_true, Bool.and_eq_false_iff, Int.not_lt, Int.not_le, ne_eq, not_false_eq_true, not_true_eq_false, reduceCtorEq, Bool.true_eq_false, Bool.false_eq_true, beq_iff_eq, bne_iff_ne, beq_eq_false_iff_ne, false_or, or_false, true_and, and_true] at hx; first | (exfalso; omega) | skip) | skip)
    | trivial
    | exact fit_ofL _ _
    | (simp (disch := omega) only [notAgg_v, notAgg_sl, plain_v, fits, fitsOne, fitsCells, xsOf, cell_zero, cell_succ, List.range, List.range.loop, List.map, cond_true, cond_false, D.v.injEq, exists_eq', exists_eq, and_self, and_true, true_and, D.agg.injEq, List.length, exists_eq_left', D.sl.injEq, reduceCtorEq, false_or, true_or, or_true, or_false, cell_zero, cell_succ, cell_v, cells_v, cells_agg, List.length_cons, List.length_nil]; done))
  all_goals first
    | (exfalso; omega)
    | omega
    | exact hX.notAgg
    | exact hY.notAgg
    | exact fitP hX
    | exact plainP hX
    | exact notAgg_v _
    | exact ⟨_, rfl⟩
    | exact ⟨_, rfl, rfl⟩
    | rfl
    | assumption
    | (rw [h1]; show _ ≤ 2; omega)
    | (simp; done)
    | (simp [*]; done)
    | (rw [w64 (by omega) (by omega)]; done)
    | fail

theorem vc_rrsame (x y : D) (ps qs : List Pt) (b c e f : Int) (r t : List Int) : Cond Try.prog (fun _ => none) Try.f21 [.agg [.v (.int .i64 b), str r, x, .v (.int .i64 e)], .agg [.v (.int .i64 c), str t, y, .v (.int .i64 f)]] [.v (.bool (sameS b c r t ps qs && decide (e = f)))] = (((∃ (cs : List D), D.agg [D.v (Value.int IntKind.i64 b), str r, x, D.v (Value.int IntKind.i64 e)] = D.agg cs ∧ cs.length = 4) ∧ (∃ (cs : List D), D.agg [D.v (Value.int IntKind.i64 c), str t, y, D.v (Value.int IntKind.i64 f)] = D.agg cs ∧ cs.length = 4) ∧ True) ∧ ∃ (r_1 : D), PureD Try.prog 34 [D.agg [D.v (Value.int IntKind.i64 b), str r, x], D.agg [D.v (Value.int IntKind.i64 c), str t, y]] [r_1] ∧ fits [(false, [none])] [r_1] ∧ ∃ (b_1 : Bool), r_1 = D.v (Value.bool b_1) ∧ (b_1 = true → ∃ (r_2 : D), D.bin BinOp.eql (D.v (Value.int IntKind.i64 e)) (D.v (Value.int IntKind.i64 f)) = some r_2 ∧ ((∃ (y : Value), r_2 = D.v y) ∧ True) ∧ [r_2] = [D.v (Value.bool (match sameS b c r t ps qs with | false => false | true => decide (e = f)))]) ∧ (b_1 = false → (True ∧ True) ∧ [D.v (Value.bool false)] = [D.v (Value.bool (match sameS b c r t ps qs with | false => false | true => decide (e = f)))])) := by kernel_rfl
theorem rrsame (x y : D) (ps qs : List Pt) (b c e f : Int) (r t : List Int) (hX : IsL 2 (ps.map ptD) x) (hY : IsL 2 (qs.map ptD) y) (ha : ps.length ≤ 100000) (hb : qs.length ≤ 100000) (hP : AllB ps) (hQ : AllB qs) (hr : Bytes r) (ht : Bytes t) : PureD Try.prog 21 [.agg [.v (.int .i64 b), str r, x, .v (.int .i64 e)], .agg [.v (.int .i64 c), str t, y, .v (.int .i64 f)]] [.v (.bool (sameS b c r t ps qs && decide (e = f)))] := by
  refine pure_cond (Lp := (fun _ => none)) (by kernel_rfl) Try.func21 (by kernel_rfl) (by kernel_rfl) ?_
  rw [vc_rrsame x y ps qs b c e f r t]
  have SM := rsame x y ps qs b c r t hX hY ha hb hP hQ hr ht
  generalize sameS b c r t ps qs = sm at SM ⊢
  cases sm
  all_goals simp only [Bool.false_and, Bool.true_and]
  repeat' (first
    | (refine ex_some (by simp (disch := omega) only [bin_shr, bin_shl, bin_and, bin_or, bin_xor, len_str, toStr_ofL, bin_add, bin_sub, bin_mul, bin_quo, bin_rem, bin_lss, bin_leq, bin_gtr, bin_geq, bin_eql, bin_neq, eqs_cn, eqs_ci, eqs_cb, eqs_cs, Option.map_some, lenT_ofL, lst_ofL, lstSz_ofL, chunk_one, lst_nil, lst_sl, lstSz_sl, lstSz_nil, Bool.and_true, Bool.true_and, Bool.and_false, Bool.false_and, beq_self_eq_true, beq_bb, bne_bb, un_not, un_neg, conv_int, min2_int, max2_int, w64, w32, wu8, wu16, wu32, wu64, tdiv_nn, tmod_nn, cell_zero, cell_succ, cell_v, cells_v, cells_agg, Bool.not_true, Bool.not_false, Int.reduceLT, Int.reduceLE, Int.reduceEq, Int.reduceNeg, Int.reduceAdd, Int.reduceSub, Int.reduceMul, intOf_v, decide_true, decide_false]; rfl) ?_)
    | (refine ex_bool ?_)
    | (refine ⟨_, SM, ?_⟩)
    | (refine And.intro ?_ ?_)
    | (intro hx; have hprop := (show ∀ (p : Prop), p → True from fun _ _ => True.intro) _ hx; clear hprop; first | (cases hx; done) | (exfalso; revert hx; simp (disch := omega) only [decide_eq_true_eq, decide_eq_false_iff_not, Bool.not_eq_true', Bool.not_eq_false', Bool.and_eq_true, Bool.and_eq_false_iff, Int.not_lt, Int.not_le, ne_eq, not_false_eq_true, not_true_eq_false, reduceCtorEq, Bool.true_eq_false, Bool.false_eq_true, beq_iff_eq, bne_iff_ne, beq_eq_false_iff_ne, false_or, or_false, true_and, and_true]; done) | (simp (disch := omega) only [decide_eq_true_eq, decide_eq_false_iff_not, Bool.not_eq_true', Bool.not_eq_false', Bool.and_eq_true, Bool.and_eq_false_iff, Int.not_lt, Int.not_le, ne_eq, not_false_eq_true, not_true_eq_false, reduceCtorEq, Bool.true_eq_false, Bool.false_eq_true, beq_iff_eq, bne_iff_ne, beq_eq_false_iff_ne, false_or, or_false, true_and, and_true] at hx; first | (exfalso; omega) | skip) | skip)
    | trivial
    | exact fit_ofL _ _
    | (simp (disch := omega) only [notAgg_v, notAgg_sl, plain_v, fits, fitsOne, fitsCells, xsOf, cell_zero, cell_succ, List.range, List.range.loop, List.map, cond_true, cond_false, D.v.injEq, exists_eq', exists_eq, and_self, and_true, true_and, D.agg.injEq, List.length, exists_eq_left', D.sl.injEq, reduceCtorEq, false_or, true_or, or_true, or_false, cell_zero, cell_succ, cell_v, cells_v, cells_agg, List.length_cons, List.length_nil]; done))
  all_goals first
    | (exfalso; omega)
    | omega
    | exact hX.notAgg
    | exact hY.notAgg
    | exact fitP hX
    | exact plainP hX
    | exact notAgg_v _
    | exact ⟨_, rfl⟩
    | exact ⟨_, rfl, rfl⟩
    | rfl
    | assumption
    | (rw [h1]; show _ ≤ 2; omega)
    | (simp; done)
    | (simp [*]; done)
    | (rw [w64 (by omega) (by omega)]; done)
    | fail

theorem vc_rkback (x : D) (ps : List Pt) (b : Int) (r : List Int) (e : Int) : Cond Try.prog (fun _ => none) Try.f22 [.agg [.v (.int .i64 b), str r, x, .v (.int .i64 e)]] [.agg [.v (.int .i64 b), str r, ofL 2 (ps.map ptD), .v (.int .i64 e)]] = (((∃ (cs : List D), D.agg [D.v (Value.int IntKind.i64 b), str r, x, D.v (Value.int IntKind.i64 e)] = D.agg cs ∧ cs.length = 4) ∧ True) ∧ ∃ (r_1 : D), PureD Try.prog 35 [D.agg [D.v (Value.int IntKind.i64 b), str r, x]] [r_1] ∧ fits [(true, [none, none, some 2])] [r_1] ∧ ((∃ (y : Value), r_1.cell 0 = D.v y) ∧ (∃ (y : Value), r_1.cell 1 = D.v y) ∧ PlainD (r_1.cell 2) ∧ (∃ (y : Value), D.v (Value.int IntKind.i64 e) = D.v y) ∧ True) ∧ [D.agg [r_1.cell 0, r_1.cell 1, r_1.cell 2, D.v (Value.int IntKind.i64 e)]] = [D.agg [D.v (Value.int IntKind.i64 b), str r, ofL 2 (List.map ptD ps), D.v (Value.int IntKind.i64 e)]]) := by kernel_rfl
theorem rkback (x : D) (ps : List Pt) (b : Int) (r : List Int) (e : Int) (hX : IsL 2 (ps.map ptD) x) (hm : ps.length ≤ 100000) : PureD Try.prog 22 [.agg [.v (.int .i64 b), str r, x, .v (.int .i64 e)]] [.agg [.v (.int .i64 b), str r, ofL 2 (ps.map ptD), .v (.int .i64 e)]] := by
  refine pure_cond (Lp := (fun _ => none)) (by kernel_rfl) Try.func22 (by kernel_rfl) (by kernel_rfl) ?_
  rw [vc_rkback x ps b r e]
  have BK := backS x ps b r hX hm
  repeat' (first
    | (refine ex_some (by simp (disch := omega) only [bin_shr, bin_shl, bin_and, bin_or, bin_xor, len_str, toStr_ofL, bin_add, bin_sub, bin_mul, bin_quo, bin_rem, bin_lss, bin_leq, bin_gtr, bin_geq, bin_eql, bin_neq, eqs_cn, eqs_ci, eqs_cb, eqs_cs, Option.map_some, lenT_ofL, lst_ofL, lstSz_ofL, chunk_one, lst_nil, lst_sl, lstSz_sl, lstSz_nil, Bool.and_true, Bool.true_and, Bool.and_false, Bool.false_and, beq_self_eq_true, beq_bb, bne_bb, un_not, un_neg, conv_int, min2_int, max2_int, w64, w32, wu8, wu16, wu32, wu64, tdiv_nn, tmod_nn, cell_zero, cell_succ, cell_v, cells_v, cells_agg, Bool.not_true, Bool.not_false, Int.reduceLT, Int.reduceLE, Int.reduceEq, Int.reduceNeg, Int.reduceAdd, Int.reduceSub, Int.reduceMul, intOf_v, decide_true, decide_false]; rfl) ?_)
    | (refine ex_bool ?_)
    | (refine ⟨_, BK, ?_⟩)
    | (refine And.intro ?_ ?_)
    | (intro hx; have hprop := (show ∀ (p : Prop), p → True from fun _ _ => True.intro) _ hx; clear hprop; first | (cases hx; done) | (exfalso; revert hx; simp (disch := omega) only [decide_eq_true_eq, decide_eq_false_iff_not, Bool.not_eq_true', Bool.not_eq_false', Bool.and_eq_true, Bool.and_eq_false_iff, Int.not_lt, Int.not_le, ne_eq, not_false_eq_true, not_true_eq_false, reduceCtorEq, Bool.true_eq_false, Bool.false_eq_true, beq_iff_eq, bne_iff_ne, beq_eq_false_iff_ne, false_or, or_false, true_and, and_true]; done) | (simp (disch := omega) only [decide_eq_true_eq, decide_eq_false_iff_not, Bool.not_eq_true', Bool.not_eq_false', Bool.and_eq_true, Bool.and_eq_false_iff, Int.not_lt, Int.not_le, ne_eq, not_false_eq_true, not_true_eq_false, reduceCtorEq, Bool.true_eq_false, Bool.false_eq_true, beq_iff_eq, bne_iff_ne, beq_eq_false_iff_ne, false_or, or_false, true_and, and_true] at hx; first | (exfalso; omega) | skip) | skip)
    | trivial
    | exact fit_ofL _ _
    | (simp (disch := omega) only [notAgg_v, notAgg_sl, plain_v, fits, fitsOne, fitsCells, xsOf, cell_zero, cell_succ, List.range, List.range.loop, List.map, cond_true, cond_false, D.v.injEq, exists_eq', exists_eq, and_self, and_true, true_and, D.agg.injEq, List.length, exists_eq_left', D.sl.injEq, reduceCtorEq, false_or, true_or, or_true, or_false, cell_zero, cell_succ, cell_v, cells_v, cells_agg, List.length_cons, List.length_nil]; done))
  all_goals first
    | (exfalso; omega)
    | omega
    | exact hX.notAgg
    | exact fitP hX
    | exact plainP hX
    | exact notAgg_v _
    | exact ⟨_, rfl⟩
    | exact ⟨_, rfl, rfl⟩
    | rfl
    | assumption
    | exact fit_ofL _ _
    | exact plain_ofL (pts_plain _)
    | (rw [h1]; show _ ≤ 2; omega)
    | (simp; done)
    | (simp [*]; done)
    | (rw [w64 (by omega) (by omega)]; done)
    | fail

theorem vc_rknew  : Cond Try.prog (fun _ => none) Try.f24 [] [.agg [.v (.int .i64 0), str [], .v nilS, .v (.int .i64 (-1))]] = (True ∧ ∃ (r : D), PureD Try.prog 37 [] [r] ∧ fits [(true, [none, none, some 2])] [r] ∧ ((∃ (y : Value), r.cell 0 = D.v y) ∧ (∃ (y : Value), r.cell 1 = D.v y) ∧ PlainD (r.cell 2) ∧ True ∧ True) ∧ [D.agg [r.cell 0, r.cell 1, r.cell 2, D.v (Value.int IntKind.i64 (-1))]] = [D.agg [D.v (Value.int IntKind.i64 0), str [], D.v nilS, D.v (Value.int IntKind.i64 (-1))]]) := by kernel_rfl
theorem rknew   : PureD Try.prog 24 [] [.agg [.v (.int .i64 0), str [], .v nilS, .v (.int .i64 (-1))]] := by
  refine pure_cond (Lp := (fun _ => none)) (by kernel_rfl) Try.func24 (by kernel_rfl) (by kernel_rfl) ?_
  rw [vc_rknew]
  have NW := new
  repeat' (first
    | (refine ex_some (by simp (disch := omega) only [bin_shr, bin_shl, bin_and, bin_or, bin_xor, len_str, toStr_ofL, bin_add, bin_sub, bin_mul, bin_quo, bin_rem, bin_lss, bin_leq, bin_gtr, bin_geq, bin_eql, bin_neq, eqs_cn, eqs_ci, eqs_cb, eqs_cs, Option.map_some, lenT_ofL, lst_ofL, lstSz_ofL, chunk_one, lst_nil, lst_sl, lstSz_sl, lstSz_nil, Bool.and_true, Bool.true_and, Bool.and_false, Bool.false_and, beq_self_eq_true, beq_bb, bne_bb, un_not, un_neg, conv_int, min2_int, max2_int, w64, w32, wu8, wu16, wu32, wu64, tdiv_nn, tmod_nn, cell_zero, cell_succ, cell_v, cells_v, cells_agg, Bool.not_true, Bool.not_false, Int.reduceLT, Int.reduceLE, Int.reduceEq, Int.reduceNeg, Int.reduceAdd, Int.reduceSub, Int.reduceMul, intOf_v, decide_true, decide_false]; rfl) ?_)
    | (refine ex_bool ?_)
    | (refine ⟨_, NW, ?_⟩)
    | (refine And.intro ?_ ?_)
    | (intro hx; have hprop := (show ∀ (p : Prop), p → True from fun _ _ => True.intro) _ hx; clear hprop; first | (cases hx; done) | (exfalso; revert hx; simp (disch := omega) only [decide_eq_true_eq, decide_eq_false_iff_not, Bool.not_eq_true', Bool.not_eq_false', Bool.and_eq_true, Bool.and_eq_false_iff, Int.not_lt, Int.not_le, ne_eq, not_false_eq_true, not_true_eq_false, reduceCtorEq, Bool.true_eq_false, Bool.false_eq_true, beq_iff_eq, bne_iff_ne, beq_eq_false_iff_ne, false_or, or_false, true_and, and_true]; done) | (simp (disch := omega) only [decide_eq_true_eq, decide_eq_false_iff_not, Bool.not_eq_true', Bool.not_eq_false', Bool.and_eq_true, Bool.and_eq_false_iff, Int.not_lt, Int.not_le, ne_eq, not_false_eq_true, not_true_eq_false, reduceCtorEq, Bool.true_eq_false, Bool.false_eq_true, beq_iff_eq, bne_iff_ne, beq_eq_false_iff_ne, false_or, or_false, true_and, and_true] at hx; first | (exfalso; omega) | skip) | skip)
    | trivial
    | exact fit_ofL _ _
    | (simp (disch := omega) only [notAgg_v, notAgg_sl, plain_v, fits, fitsOne, fitsCells, xsOf, cell_zero, cell_succ, List.range, List.range.loop, List.map, cond_true, cond_false, D.v.injEq, exists_eq', exists_eq, and_self, and_true, true_and, D.agg.injEq, List.length, exists_eq_left', D.sl.injEq, reduceCtorEq, false_or, true_or, or_true, or_false, cell_zero, cell_succ, cell_v, cells_v, cells_agg, List.length_cons, List.length_nil]; done))
  all_goals first | rfl | exact .inl rfl | exact plain_v _ | exact ⟨_, rfl⟩ | exact ⟨_, rfl, rfl⟩ | (simp; done) | fail

theorem vc_rrnew  : Cond Try.prog (fun _ => none) Try.f25 [] [.agg [.v (.int .i64 0), str [], .v nilS, .v (.int .i64 (-1))]] = (True ∧ (True ∧ True ∧ PlainD (D.v nilS) ∧ True ∧ True) ∧ [D.agg [D.v (Value.int IntKind.i64 0), D.v (Value.string { data := { toList := [] } }), D.v nilS, D.v (Value.int IntKind.i64 (-1))]] = [D.agg [D.v (Value.int IntKind.i64 0), str [], D.v nilS, D.v (Value.int IntKind.i64 (-1))]]) := by kernel_rfl
theorem rrnew   : PureD Try.prog 25 [] [.agg [.v (.int .i64 0), str [], .v nilS, .v (.int .i64 (-1))]] := by
  refine pure_cond (Lp := (fun _ => none)) (by kernel_rfl) Try.func25 (by kernel_rfl) (by kernel_rfl) ?_
  rw [vc_rrnew]
  repeat' (first
    | (refine ex_some (by simp (disch := omega) only [bin_shr, bin_shl, bin_and, bin_or, bin_xor, len_str, toStr_ofL, bin_add, bin_sub, bin_mul, bin_quo, bin_rem, bin_lss, bin_leq, bin_gtr, bin_geq, bin_eql, bin_neq, eqs_cn, eqs_ci, eqs_cb, eqs_cs, Option.map_some, lenT_ofL, lst_ofL, lstSz_ofL, chunk_one, lst_nil, lst_sl, lstSz_sl, lstSz_nil, Bool.and_true, Bool.true_and, Bool.and_false, Bool.false_and, beq_self_eq_true, beq_bb, bne_bb, un_not, un_neg, conv_int, min2_int, max2_int, w64, w32, wu8, wu16, wu32, wu64, tdiv_nn, tmod_nn, cell_zero, cell_succ, cell_v, cells_v, cells_agg, Bool.not_true, Bool.not_false, Int.reduceLT, Int.reduceLE, Int.reduceEq, Int.reduceNeg, Int.reduceAdd, Int.reduceSub, Int.reduceMul, intOf_v, decide_true, decide_false]; rfl) ?_)
    | (refine ex_bool ?_)
    | (refine And.intro ?_ ?_)
    | (intro hx; have hprop := (show ∀ (p : Prop), p → True from fun _ _ => True.intro) _ hx; clear hprop; first | (cases hx; done) | (exfalso; revert hx; simp (disch := omega) only [decide_eq_true_eq, decide_eq_false_iff_not, Bool.not_eq_true', Bool.not_eq_false', Bool.and_eq_true, Bool.and_eq_false_iff, Int.not_lt, Int.not_le, ne_eq, not_false_eq_true, not_true_eq_false, reduceCtorEq, Bool.true_eq_false, Bool.false_eq_true, beq_iff_eq, bne_iff_ne, beq_eq_false_iff_ne, false_or, or_false, true_and, and_true]; done) | (simp (disch := omega) only [decide_eq_true_eq, decide_eq_false_iff_not, Bool.not_eq_true', Bool.not_eq_false', Bool.and_eq_true, Bool.and_eq_false_iff, Int.not_lt, Int.not_le, ne_eq, not_false_eq_true, not_true_eq_false, reduceCtorEq, Bool.true_eq_false, Bool.false_eq_true, beq_iff_eq, bne_iff_ne, beq_eq_false_iff_ne, false_or, or_false, true_and, and_true] at hx; first | (exfalso; omega) | skip) | skip)
    | trivial
    | exact fit_ofL _ _
    | (simp (disch := omega) only [notAgg_v, notAgg_sl, plain_v, fits, fitsOne, fitsCells, xsOf, cell_zero, cell_succ, List.range, List.range.loop, List.map, cond_true, cond_false, D.v.injEq, exists_eq', exists_eq, and_self, and_true, true_and, D.agg.injEq, List.length, exists_eq_left', D.sl.injEq, reduceCtorEq, false_or, true_or, or_true, or_false, cell_zero, cell_succ, cell_v, cells_v, cells_agg, List.length_cons, List.length_nil]; done))
  all_goals first | rfl | exact .inl rfl | exact plain_v _ | exact ⟨_, rfl⟩ | exact ⟨_, rfl, rfl⟩ | (simp; done) | fail

end Go.Proofs.Ytjdemohgegldaaa