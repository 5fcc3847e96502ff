/-
  Layer 7: a reader.
-/
import Derived.Test.YtioodaefgpkkeaaT1
import Derived.Test.YtioodaefgpkkeaaT2
import Derived.Test.YtioodaefgpkkeaaT3
import Derived.Test.YtioodaefgpkkeaaT4
import Derived.Test.YtioodaefgpkkeaaT5
import Derived.Test.YtioodaefgpkkeaaT6
import Derived.Test.YtioodaefgpkkeaaT7
import Derived.Test.YtioodaefgpkkeaaT8
namespace Go.Proofs.Ytioodaefgpkkeaa
open Go.RowKit
set_option linter.unusedSimpArgs false
set_option linter.unusedVariables false


def nb (l : List Int) (p : Int × Int) (n : Int) : (Int × Int) × List Int := cuF l p.1 p.2 n true
theorem nb_len (l : List Int) (p : Int × Int) (n : Int) : (nb l p n).2.length ≤ n.toNat := cu_len _ _ _ _ _
theorem nb_bytes {l : List Int} (h : Bytes l) (p : Int × Int) (n : Int) : Bytes (nb l p n).2 := cu_bytes h _ _ _ _
def CuOk (l : List Int) (p : Int × Int) : Prop := -9223372036854775808 ≤ p.1 ∧ p.1 ≤ 9223372036854775807
theorem nb_ok {l : List Int} {p : Int × Int} {n : Int} (hl : l.length ≤ 100000) (h : CuOk l p) (n0 : 0 ≤ n) (n1 : n ≤ 1000) : CuOk l (nb l p n).1 := by
  unfold nb cuF CuOk at *
  split
  · exact h
  split
  · exact h
  split
  · exact h
  split
  · exact h
  · rename_i h1 h2 h3 h4
    have hw : wiF l p.1 = true := by simpa using h2
    unfold wiF at hw
    have hw := of_decide_eq_true hw
    exact ⟨by show _ ≤ p.1 + n; omega, by show p.1 + n ≤ _; omega⟩
theorem vN_small {t : List Int} (h : Bytes t) : (t.length ≤ 1 → vN t < 256) ∧ (t.length ≤ 2 → vN t < 65536) ∧ (t.length ≤ 4 → vN t < 4294967296) ∧ 0 ≤ vN t := by
  have h1 := vN_bd h
  have key : ∀ m : Nat, t.length = m → vN t < 256 ^ m := fun m hm => by rw [← hm]; exact h1.2
  have p0 : (256 : Int) ^ 0 = 1 := by decide
  have p1 : (256 : Int) ^ 1 = 256 := by decide
  have p2 : (256 : Int) ^ 2 = 65536 := by decide
  have p3 : (256 : Int) ^ 3 = 16777216 := by decide
  have p4 : (256 : Int) ^ 4 = 4294967296 := by decide
  have k0 := key 0
  have k1 := key 1
  have k2 := key 2
  have k3 := key 3
  have k4 := key 4
  rw [p0] at k0; rw [p1] at k1; rw [p2] at k2; rw [p3] at k3; rw [p4] at k4
  refine ⟨fun h => ?_, fun h => ?_, fun h => ?_, h1.1⟩
  · rcases (show t.length = 0 ∨ t.length = 1 by omega) with e | e
    · have := k0 e; omega
    · have := k1 e; omega
  · rcases (show t.length = 0 ∨ t.length = 1 ∨ t.length = 2 by omega) with e | e | e
    · have := k0 e; omega
    · have := k1 e; omega
    · have := k2 e; omega
  · rcases (show t.length = 0 ∨ t.length = 1 ∨ t.length = 2 ∨ t.length = 3 ∨ t.length = 4 by omega) with e | e | e | e | e
    · have := k0 e; omega
    · have := k1 e; omega
    · have := k2 e; omega
    · have := k3 e; omega
    · have := k4 e; omega
def blk1 (l : List Int) (p : Int × Int) : (Int × Int) × (Int × Int) := ((nb l (nb l p 4).1 4).1, (vN (nb l p 4).2, vN (nb l (nb l p 4).1 4).2))
def rbF (l : List Int) : Nat → Int × Int → (Int × Int) × List (Int × Int)
  | 0, p => (p, [])
  | k + 1, p => ((blk1 l (rbF l k p).1).1, (rbF l k p).2 ++ [(blk1 l (rbF l k p).1).2])
theorem rb_ok {l : List Int} {p : Int × Int} (hl : l.length ≤ 100000) (h : CuOk l p) : ∀ k, CuOk l (rbF l k p).1
  | 0 => h
  | k + 1 => nb_ok hl (nb_ok hl (rb_ok hl h k) (by omega) (by omega)) (by omega) (by omega)
theorem rb_len (l : List Int) (p : Int × Int) : ∀ k, (rbF l k p).2.length = k
  | 0 => rfl
  | k + 1 => by simp [rbF, rb_len l p k]

theorem vc_numM (l : List Int) (p : Int × Int) (n : Int) : CondM Try.prog (fun _ => none) Try.f31 [.one (.ptr 0 0), .one (.d (.v (.int .i64 n)))] [.box [.d (str l), .d (.v (.int .i64 p.1)), .d (.v (.int .i64 p.2))]] [.one (.d (.v (.int .i64 (vN (nb l p n).2))))] [some (.box [.d (str l), .d (.v (.int .i64 (nb l p n).1.1)), .d (.v (.int .i64 (nb l p n).1.2))])] = ((((∃ (y : Value), D.v (Value.int IntKind.i64 (vN (nb l p n).2)) = D.v y) ∧ True) ∧ ((∃ (y : Value), str l = D.v y) ∧ (∃ (y : Value), D.v (Value.int IntKind.i64 (nb l p n).fst.fst) = D.v y) ∧ (∃ (y : Value), D.v (Value.int IntKind.i64 (nb l p n).fst.snd) = D.v y) ∧ True) ∧ True) ∧ ∃ (r : D), ∃ (r_1 : D), PureD Try.prog 46 [D.agg [str l, D.v (Value.int IntKind.i64 p.fst), D.v (Value.int IntKind.i64 p.snd)], D.v (Value.int IntKind.i64 n)] [r, r_1] ∧ fits [(true, [none, none, none]), (false, [none])] [r, r_1] ∧ (D.v (Value.int IntKind.i64 (vN (nb l p n).2)) = r_1 ∧ True) ∧ (str l = r.cell 0 ∧ D.v (Value.int IntKind.i64 (nb l p n).fst.fst) = r.cell 1 ∧ D.v (Value.int IntKind.i64 (nb l p n).fst.snd) = r.cell 2 ∧ True) ∧ True) := by kernel_rfl
theorem numM (l : List Int) (p : Int × Int) (n : Int) (hB : Bytes l) (hl : l.length ≤ 100000) (hp : CuOk l p) (n0 : 1 ≤ n) (n1 : n ≤ 7) : MemD Try.prog 31 [.one (.ptr 0 0), .one (.d (.v (.int .i64 n)))] [.box [.d (str l), .d (.v (.int .i64 p.1)), .d (.v (.int .i64 p.2))]] [.one (.d (.v (.int .i64 (vN (nb l p n).2))))] [some (.box [.d (str l), .d (.v (.int .i64 (nb l p n).1.1)), .d (.v (.int .i64 (nb l p n).1.2))])] := by
  refine mem_cond (Lp := (fun _ => none)) (by kernel_rfl) Try.func31 (by kernel_rfl) (by kernel_rfl) ?_
  rw [vc_numM l p n]
  have N1 := number l p.1 p.2 n hp.1 hp.2 hB (by omega) (by omega)
  rw [show decide (1 ≤ n ∧ n ≤ 7) = true from decide_eq_true ⟨n0, n1⟩] at N1
  rw [show cuF l p.1 p.2 n true = nb l p n from rfl] at N1
  repeat' (first
    | (refine ex_some (by simp (disch := omega) only [bin_shr, bin_shl, bin_and, bin_or, bin_xor, len_str, toStr_ofL, bin_add, bin_sub, bin_mul, bin_quo, bin_rem, bin_lss, bin_leq, bin_gtr, bin_geq, bin_eql, bin_neq, eqs_cn, eqs_ci, eqs_cb, eqs_cs, Option.map_some, lenT_ofL, lst_ofL, lstSz_ofL, chunk_one, lst_nil, lst_sl, lstSz_sl, lstSz_nil, Bool.and_true, Bool.true_and, Bool.and_false, Bool.false_and, beq_self_eq_true, beq_bb, bne_bb, un_not, un_neg, conv_int, min2_int, max2_int, w64, w32, wu8, wu16, wu32, wu64, tdiv_nn, tmod_nn, cell_zero, cell_succ, cell_v, cells_v, cells_agg, Bool.not_true, Bool.not_false, Int.reduceLT, Int.reduceLE, Int.reduceEq, Int.reduceNeg, Int.reduceAdd, Int.reduceSub, Int.reduceMul, intOf_v, decide_true, decide_false]; rfl) ?_)
    | (refine ex_bool ?_)
    | (refine ⟨_, _, N1, ?_⟩)
    | (refine And.intro ?_ ?_)
    | (intro hx; have hprop := (show ∀ (p : Prop), p → True from fun _ _ => True.intro) _ hx; clear hprop; first | (cases hx; done) | (exfalso; revert hx; simp (disch := omega) only [decide_eq_true_eq, decide_eq_false_iff_not, Bool.not_eq_true', Bool.not_eq_false', Bool.and_eq_true, Bool.and_eq_false_iff, Int.not_lt, Int.not_le, ne_eq, not_false_eq_true, not_true_eq_false, reduceCtorEq, Bool.true_eq_false, Bool.false_eq_true, beq_iff_eq, bne_iff_ne, beq_eq_false_iff_ne, false_or, or_false, true_and, and_true]; done) | (simp (disch := omega) only [decide_eq_true_eq, decide_eq_false_iff_not, Bool.not_eq_true', Bool.not_eq_false', Bool.and_eq_true, Bool.and_eq_false_iff, Int.not_lt, Int.not_le, ne_eq, not_false_eq_true, not_true_eq_false, reduceCtorEq, Bool.true_eq_false, Bool.false_eq_true, beq_iff_eq, bne_iff_ne, beq_eq_false_iff_ne, false_or, or_false, true_and, and_true] at hx; first | (exfalso; omega) | skip) | skip)
    | trivial
    | exact fit_ofL _ _
    | (simp (disch := omega) only [notAgg_v, notAgg_sl, plain_v, fits, fitsOne, fitsCells, xsOf, cell_zero, cell_succ, List.range, List.range.loop, List.map, cond_true, cond_false, D.v.injEq, exists_eq', exists_eq, and_self, and_true, true_and, D.agg.injEq, List.length, exists_eq_left', D.sl.injEq, reduceCtorEq, false_or, true_or, or_true, or_false, cell_zero, cell_succ, cell_v, cells_v, cells_agg, List.length_cons, List.length_nil]; done))
  all_goals first
    | (exfalso; omega)
    | omega
    | rfl
    | exact ⟨_, rfl⟩
    | exact notAgg_v _
    | (simp; done)
    | fail

theorem vc_shortM (l : List Int) (p : Int × Int) : CondM Try.prog (fun _ => none) Try.f32 [.one (.ptr 0 0)] [.box [.d (str l), .d (.v (.int .i64 p.1)), .d (.v (.int .i64 p.2))]] [.one (.d (.v (.int .u32 (vN (nb l p 4).2))))] [some (.box [.d (str l), .d (.v (.int .i64 (nb l p 4).1.1)), .d (.v (.int .i64 (nb l p 4).1.2))])] = ((((∃ (y : Value), D.v (Value.int IntKind.u32 (vN (nb l p 4).2)) = D.v y) ∧ True) ∧ ((∃ (y : Value), str l = D.v y) ∧ (∃ (y : Value), D.v (Value.int IntKind.i64 (nb l p 4).fst.fst) = D.v y) ∧ (∃ (y : Value), D.v (Value.int IntKind.i64 (nb l p 4).fst.snd) = D.v y) ∧ True) ∧ True) ∧ ∃ (r : D), ∃ (r_1 : D), ∃ (r_2 : D), ∃ (r_3 : D), MemD Try.prog 31 [T.one (C.ptr 0 0), T.one (C.d (D.v (Value.int IntKind.i64 4)))] [Ob.box [C.d (str l), C.d (D.v (Value.int IntKind.i64 p.fst)), C.d (D.v (Value.int IntKind.i64 p.snd))]] [T.one (C.d r)] [some (Ob.box [C.d r_1, C.d r_2, C.d r_3])] ∧ ∃ (r_4 : D), D.conv IntKind.u32 r = some r_4 ∧ (D.v (Value.int IntKind.u32 (vN (nb l p 4).2)) = r_4 ∧ True) ∧ (str l = r_1 ∧ D.v (Value.int IntKind.i64 (nb l p 4).fst.fst) = r_2 ∧ D.v (Value.int IntKind.i64 (nb l p 4).fst.snd) = r_3 ∧ True) ∧ True) := by kernel_rfl
theorem shortM (l : List Int) (p : Int × Int) (hB : Bytes l) (hl : l.length ≤ 100000) (hp : CuOk l p) : MemD Try.prog 32 [.one (.ptr 0 0)] [.box [.d (str l), .d (.v (.int .i64 p.1)), .d (.v (.int .i64 p.2))]] [.one (.d (.v (.int .u32 (vN (nb l p 4).2))))] [some (.box [.d (str l), .d (.v (.int .i64 (nb l p 4).1.1)), .d (.v (.int .i64 (nb l p 4).1.2))])] := by
  refine mem_cond (Lp := (fun _ => none)) (by kernel_rfl) Try.func32 (by kernel_rfl) (by kernel_rfl) ?_
  rw [vc_shortM l p]
  have N1 := numM l p 4 hB hl hp (by omega) (by omega)
  have hv := vN_small (nb_bytes hB p 4)
  have hn := nb_len l p 4
  have hv4 := hv.2.2.1 (by omega)
  have hv0 := hv.2.2.2
  repeat' (first
    | (refine ex_some (by simp (disch := omega) only [bin_shr, bin_shl, bin_and, bin_or, bin_xor, len_str, toStr_ofL, bin_add, bin_sub, bin_mul, bin_quo, bin_rem, bin_lss, bin_leq, bin_gtr, bin_geq, bin_eql, bin_neq, eqs_cn, eqs_ci, eqs_cb, eqs_cs, Option.map_some, lenT_ofL, lst_ofL, lstSz_ofL, chunk_one, lst_nil, lst_sl, lstSz_sl, lstSz_nil, Bool.and_true, Bool.true_and, Bool.and_false, Bool.false_and, beq_self_eq_true, beq_bb, bne_bb, un_not, un_neg, conv_int, min2_int, max2_int, w64, w32, wu8, wu16, wu32, wu64, tdiv_nn, tmod_nn, cell_zero, cell_succ, cell_v, cells_v, cells_agg, Bool.not_true, Bool.not_false, Int.reduceLT, Int.reduceLE, Int.reduceEq, Int.reduceNeg, Int.reduceAdd, Int.reduceSub, Int.reduceMul, intOf_v, decide_true, decide_false]; rfl) ?_)
    | (refine ex_bool ?_)
    | (refine ⟨_, _, _, _, N1, ?_⟩)
    | (refine And.intro ?_ ?_)
    | (intro hx; have hprop := (show ∀ (p : Prop), p → True from fun _ _ => True.intro) _ hx; clear hprop; first | (cases hx; done) | (exfalso; revert hx; simp (disch := omega) only [decide_eq_true_eq, decide_eq_false_iff_not, Bool.not_eq_true', Bool.not_eq_false', Bool.and_eq_true, Bool.and_eq_false_iff, Int.not_lt, Int.not_le, ne_eq, not_false_eq_true, not_true_eq_false, reduceCtorEq, Bool.true_eq_false, Bool.false_eq_true, beq_iff_eq, bne_iff_ne, beq_eq_false_iff_ne, false_or, or_false, true_and, and_true]; done) | (simp (disch := omega) only [decide_eq_true_eq, decide_eq_false_iff_not, Bool.not_eq_true', Bool.not_eq_false', Bool.and_eq_true, Bool.and_eq_false_iff, Int.not_lt, Int.not_le, ne_eq, not_false_eq_true, not_true_eq_false, reduceCtorEq, Bool.true_eq_false, Bool.false_eq_true, beq_iff_eq, bne_iff_ne, beq_eq_false_iff_ne, false_or, or_false, true_and, and_true] at hx; first | (exfalso; omega) | skip) | skip)
    | trivial
    | exact fit_ofL _ _
    | (simp (disch := omega) only [notAgg_v, notAgg_sl, plain_v, fits, fitsOne, fitsCells, xsOf, cell_zero, cell_succ, List.range, List.range.loop, List.map, cond_true, cond_false, D.v.injEq, exists_eq', exists_eq, and_self, and_true, true_and, D.agg.injEq, List.length, exists_eq_left', D.sl.injEq, reduceCtorEq, false_or, true_or, or_true, or_false, cell_zero, cell_succ, cell_v, cells_v, cells_agg, List.length_cons, List.length_nil]; done))
  all_goals first
    | (exfalso; omega)
    | omega
    | rfl
    | exact ⟨_, rfl⟩
    | exact notAgg_v _
    | (simp; done)
    | fail

theorem vc_textM (l : List Int) (p : Int × Int) : CondM Try.prog (fun _ => none) Try.f34 [.one (.ptr 0 0)] [.box [.d (str l), .d (.v (.int .i64 p.1)), .d (.v (.int .i64 p.2))]] [.one (.d (str (nb l (nb l p 1).1 (vN (nb l p 1).2)).2))] [some (.box [.d (str l), .d (.v (.int .i64 (nb l (nb l p 1).1 (vN (nb l p 1).2)).1.1)), .d (.v (.int .i64 (nb l (nb l p 1).1 (vN (nb l p 1).2)).1.2))])] = ((((∃ (y : Value), str (nb l (nb l p 1).fst (vN (nb l p 1).snd)).2 = D.v y) ∧ True) ∧ ((∃ (y : Value), str l = D.v y) ∧ (∃ (y : Value), D.v (Value.int IntKind.i64 (nb l (nb l p 1).fst (vN (nb l p 1).snd)).fst.fst) = D.v y) ∧ (∃ (y : Value), D.v (Value.int IntKind.i64 (nb l (nb l p 1).fst (vN (nb l p 1).snd)).fst.snd) = D.v y) ∧ True) ∧ True) ∧ ∃ (r : D), ∃ (r_1 : D), ∃ (r_2 : D), ∃ (r_3 : D), MemD Try.prog 31 [T.one (C.ptr 0 0), T.one (C.d (D.v (Value.int IntKind.i64 1)))] [Ob.box [C.d (str l), C.d (D.v (Value.int IntKind.i64 p.fst)), C.d (D.v (Value.int IntKind.i64 p.snd))]] [T.one (C.d r)] [some (Ob.box [C.d r_1, C.d r_2, C.d r_3])] ∧ ∃ (r_4 : D), ∃ (r_5 : D), PureD Try.prog 47 [D.agg [r_1, r_2, r_3], r] [r_4, r_5] ∧ fits [(true, [none, none, none]), (false, [none])] [r_4, r_5] ∧ (str (nb l (nb l p 1).fst (vN (nb l p 1).snd)).2 = r_5 ∧ True) ∧ (str l = r_4.cell 0 ∧ D.v (Value.int IntKind.i64 (nb l (nb l p 1).fst (vN (nb l p 1).snd)).fst.fst) = r_4.cell 1 ∧ D.v (Value.int IntKind.i64 (nb l (nb l p 1).fst (vN (nb l p 1).snd)).fst.snd) = r_4.cell 2 ∧ True) ∧ True) := by kernel_rfl
theorem textM (l : List Int) (p : Int × Int) (hB : Bytes l) (hl : l.length ≤ 100000) (hp : CuOk l p) : MemD Try.prog 34 [.one (.ptr 0 0)] [.box [.d (str l), .d (.v (.int .i64 p.1)), .d (.v (.int .i64 p.2))]] [.one (.d (str (nb l (nb l p 1).1 (vN (nb l p 1).2)).2))] [some (.box [.d (str l), .d (.v (.int .i64 (nb l (nb l p 1).1 (vN (nb l p 1).2)).1.1)), .d (.v (.int .i64 (nb l (nb l p 1).1 (vN (nb l p 1).2)).1.2))])] := by
  refine mem_cond (Lp := (fun _ => none)) (by kernel_rfl) Try.func34 (by kernel_rfl) (by kernel_rfl) ?_
  rw [vc_textM l p]
  have N1 := numM l p 1 hB hl hp (by omega) (by omega)
  have hv := vN_small (nb_bytes hB p 1)
  have hn := nb_len l p 1
  have hv4 := hv.1 (by omega)
  have hv0 := hv.2.2.2
  have ok1 := nb_ok hl hp (n := 1) (by omega) (by omega)
  have T := take l (nb l p 1).1.1 (nb l p 1).1.2 (vN (nb l p 1).2) ok1.1 ok1.2 hB (by omega) (by omega)
  rw [show decide (0 ≤ vN (nb l p 1).2) = true from decide_eq_true hv0] at T
  rw [show cuF l (nb l p 1).1.1 (nb l p 1).1.2 (vN (nb l p 1).2) true = nb l (nb l p 1).1 (vN (nb l p 1).2) from rfl] at T
  repeat' (first
    | (refine ex_some (by simp (disch := omega) only [bin_shr, bin_shl, bin_and, bin_or, bin_xor, len_str, toStr_ofL, bin_add, bin_sub, bin_mul, bin_quo, bin_rem, bin_lss, bin_leq, bin_gtr, bin_geq, bin_eql, bin_neq, eqs_cn, eqs_ci, eqs_cb, eqs_cs, Option.map_some, lenT_ofL, lst_ofL, lstSz_ofL, chunk_one, lst_nil, lst_sl, lstSz_sl, lstSz_nil, Bool.and_true, Bool.true_and, Bool.and_false, Bool.false_and, beq_self_eq_true, beq_bb, bne_bb, un_not, un_neg, conv_int, min2_int, max2_int, w64, w32, wu8, wu16, wu32, wu64, tdiv_nn, tmod_nn, cell_zero, cell_succ, cell_v, cells_v, cells_agg, Bool.not_true, Bool.not_false, Int.reduceLT, Int.reduceLE, Int.reduceEq, Int.reduceNeg, Int.reduceAdd, Int.reduceSub, Int.reduceMul, intOf_v, decide_true, decide_false]; rfl) ?_)
    | (refine ex_bool ?_)
    | (refine ⟨_, _, _, _, N1, ?_⟩)
    | (refine ⟨_, _, T, ?_⟩)
    | (refine And.intro ?_ ?_)
    | (intro hx; have hprop := (show ∀ (p : Prop), p → True from fun _ _ => True.intro) _ hx; clear hprop; first | (cases hx; done) | (exfalso; revert hx; simp (disch := omega) only [decide_eq_true_eq, decide_eq_false_iff_not, Bool.not_eq_true', Bool.not_eq_false', Bool.and_eq_true, Bool.and_eq_false_iff, Int.not_lt, Int.not_le, ne_eq, not_false_eq_true, not_true_eq_false, reduceCtorEq, Bool.true_eq_false, Bool.false_eq_true, beq_iff_eq, bne_iff_ne, beq_eq_false_iff_ne, false_or, or_false, true_and, and_true]; done) | (simp (disch := omega) only [decide_eq_true_eq, decide_eq_false_iff_not, Bool.not_eq_true', Bool.not_eq_false', Bool.and_eq_true, Bool.and_eq_false_iff, Int.not_lt, Int.not_le, ne_eq, not_false_eq_true, not_true_eq_false, reduceCtorEq, Bool.true_eq_false, Bool.false_eq_true, beq_iff_eq, bne_iff_ne, beq_eq_false_iff_ne, false_or, or_false, true_and, and_true] at hx; first | (exfalso; omega) | skip) | skip)
    | trivial
    | exact fit_ofL _ _
    | (simp (disch := omega) only [notAgg_v, notAgg_sl, plain_v, fits, fitsOne, fitsCells, xsOf, cell_zero, cell_succ, List.range, List.range.loop, List.map, cond_true, cond_false, D.v.injEq, exists_eq', exists_eq, and_self, and_true, true_and, D.agg.injEq, List.length, exists_eq_left', D.sl.injEq, reduceCtorEq, false_or, true_or, or_true, or_false, cell_zero, cell_succ, cell_v, cells_v, cells_agg, List.length_cons, List.length_nil]; done))
  all_goals first
    | (exfalso; omega)
    | omega
    | rfl
    | exact ⟨_, rfl⟩
    | exact notAgg_v _
    | (simp; done)
    | fail

theorem vc_blocksM (l : List Int) (p : Int × Int) : CondM Try.prog (fun k => if k = 3 then some ⟨[6], [3], [0, 5], [(0, [0, 1, 2], [])]⟩ else none) Try.f33 [.one (.ptr 0 0)] [.box [.d (str l), .d (.v (.int .i64 p.1)), .d (.v (.int .i64 p.2))]] [.one (.row 1)] [some (.box [.d (str l), .d (.v (.int .i64 (rbF l (vN (nb l p 1).2).toNat (nb l p 1).1).1.1)), .d (.v (.int .i64 (rbF l (vN (nb l p 1).2).toNat (nb l p 1).1).1.2))]), some (.row 2 (ofL 2 (prs (rbF l (vN (nb l p 1).2).toNat (nb l p 1).1).2)))] = (((True ∧ True) ∧ ((∃ (y : Value), str l = D.v y) ∧ (∃ (y : Value), D.v (Value.int IntKind.i64 (rbF l (vN (nb l p 1).snd).toNat (nb l p 1).fst).fst.fst) = D.v y) ∧ (∃ (y : Value), D.v (Value.int IntKind.i64 (rbF l (vN (nb l p 1).snd).toNat (nb l p 1).fst).fst.snd) = D.v y) ∧ True) ∧ PlainD (ofL 2 (prs (rbF l (vN (nb l p 1).snd).toNat (nb l p 1).fst).2)) ∧ True) ∧ ∃ (r : D), ∃ (r_1 : D), ∃ (r_2 : D), ∃ (r_3 : D), MemD Try.prog 31 [T.one (C.ptr 0 0), T.one (C.d (D.v (Value.int IntKind.i64 1)))] [Ob.box [C.d (str l), C.d (D.v (Value.int IntKind.i64 p.fst)), C.d (D.v (Value.int IntKind.i64 p.snd))]] [T.one (C.d r)] [some (Ob.box [C.d r_1, C.d r_2, C.d r_3])] ∧ ∃ (I : List D → Prop), ∃ (μ : List D → Nat), ((D.v (Value.int IntKind.i64 0) = D.v (Value.int IntKind.i64 0) ∧ true = true ∧ (true = true ∧ true = true) ∧ r = r ∧ True) ∧ ((true = true ∧ D.v nilS = D.v nilS) ∧ (r_1 = r_1 ∧ r_2 = r_2 ∧ r_3 = r_3 ∧ True) ∧ True) ∧ I [D.v (Value.int IntKind.i64 0), r_1, r_2, r_3, D.v nilS]) ∧ ∀ (r_4 r_5 r_6 r_7 r_8 : D), I [r_4, r_5, r_6, r_7, r_8] → ∃ (r_9 : D), D.bin BinOp.lss r_4 r = some r_9 ∧ ∃ (b : Bool), r_9 = D.v (Value.bool b) ∧ (b = true → ∃ (r_10 : D), ∃ (r_11 : D), ∃ (r_12 : D), ∃ (r_13 : D), MemD Try.prog 32 [T.one (C.ptr 0 0)] [Ob.box [C.d r_5, C.d r_6, C.d r_7]] [T.one (C.d r_10)] [some (Ob.box [C.d r_11, C.d r_12, C.d r_13])] ∧ ∃ (r_14 : D), ∃ (r_15 : D), ∃ (r_16 : D), ∃ (r_17 : D), MemD Try.prog 32 [T.one (C.ptr 0 0)] [Ob.box [C.d r_11, C.d r_12, C.d r_13]] [T.one (C.d r_14)] [some (Ob.box [C.d r_15, C.d r_16, C.d r_17])] ∧ ∃ (ls : List D), r_8.lst = some ls ∧ ∃ (lx : List D), D.lstSz 2 (D.sl 2 (chunks true 2 1 [r_10, r_14])) = some lx ∧ (ls.length + lx.length) * 8 ≤ 1099511627776 ∧ ∃ (r_18 : D), D.bin BinOp.add r_4 (D.v (Value.int IntKind.i64 1)) = some r_18 ∧ (r_18 = r_18 ∧ true = true ∧ (true = true ∧ true = true) ∧ r = r ∧ True) ∧ ((true = true ∧ D.app 2 r_8 lx = D.app 2 r_8 lx) ∧ (r_15 = r_15 ∧ r_16 = r_16 ∧ r_17 = r_17 ∧ True) ∧ True) ∧ I [r_18, r_15, r_16, r_17, D.app 2 r_8 lx] ∧ μ [r_18, r_15, r_16, r_17, D.app 2 r_8 lx] < μ [r_4, r_5, r_6, r_7, r_8]) ∧ (b = false → (true = true ∧ True) ∧ (str l = r_5 ∧ D.v (Value.int IntKind.i64 (rbF l (vN (nb l p 1).snd).toNat (nb l p 1).fst).fst.fst) = r_6 ∧ D.v (Value.int IntKind.i64 (rbF l (vN (nb l p 1).snd).toNat (nb l p 1).fst).fst.snd) = r_7 ∧ True) ∧ (true = true ∧ ofL 2 (prs (rbF l (vN (nb l p 1).snd).toNat (nb l p 1).fst).2) = r_8) ∧ True)) := by kernel_rfl
set_option maxHeartbeats 4000000 in
theorem blocksM (l : List Int) (p : Int × Int) (hB : Bytes l) (hl : l.length ≤ 100000) (hp : CuOk l p) : MemD Try.prog 33 [.one (.ptr 0 0)] [.box [.d (str l), .d (.v (.int .i64 p.1)), .d (.v (.int .i64 p.2))]] [.one (.row 1)] [some (.box [.d (str l), .d (.v (.int .i64 (rbF l (vN (nb l p 1).2).toNat (nb l p 1).1).1.1)), .d (.v (.int .i64 (rbF l (vN (nb l p 1).2).toNat (nb l p 1).1).1.2))]), some (.row 2 (ofL 2 (prs (rbF l (vN (nb l p 1).2).toNat (nb l p 1).1).2)))] := by
  refine mem_cond (Lp := (fun k => if k = 3 then some ⟨[6], [3], [0, 5], [(0, [0, 1, 2], [])]⟩ else none)) (by kernel_rfl) Try.func33 (by kernel_rfl) (by kernel_rfl) ?_
  rw [vc_blocksM l p]
  have N1 := numM l p 1 hB hl hp (by omega) (by omega)
  have hv := vN_small (nb_bytes hB p 1)
  have hn := nb_len l p 1
  have hv4 := hv.1 (by omega)
  have hv0 := hv.2.2.2
  have hp1 := nb_ok hl hp (n := 1) (by omega) (by omega)
  obtain ⟨n, hnn⟩ : ∃ n : Nat, n = (vN (nb l p 1).2).toNat := ⟨_, rfl⟩
  rw [← hnn]
  rw [show vN (nb l p 1).2 = (n : Nat) by omega] at N1
  repeat' (first
    | (refine ex_some (by simp (disch := omega) only [bin_shr, bin_shl, bin_and, bin_or, bin_xor, len_str, toStr_ofL, bin_add, bin_sub, bin_mul, bin_quo, bin_rem, bin_lss, bin_leq, bin_gtr, bin_geq, bin_eql, bin_neq, eqs_cn, eqs_ci, eqs_cb, eqs_cs, Option.map_some, lenT_ofL, lst_ofL, lstSz_ofL, chunk_one, lst_nil, lst_sl, lstSz_sl, lstSz_nil, Bool.and_true, Bool.true_and, Bool.and_false, Bool.false_and, beq_self_eq_true, beq_bb, bne_bb, un_not, un_neg, conv_int, min2_int, max2_int, w64, w32, wu8, wu16, wu32, wu64, tdiv_nn, tmod_nn, cell_zero, cell_succ, cell_v, cells_v, cells_agg, Bool.not_true, Bool.not_false, Int.reduceLT, Int.reduceLE, Int.reduceEq, Int.reduceNeg, Int.reduceAdd, Int.reduceSub, Int.reduceMul, intOf_v, decide_true, decide_false, app_ofL, lst_ofL, prs_len, ch2]; rfl) ?_)
    | (refine ex_bool ?_)
    | (refine ⟨_, _, _, _, N1, ?_⟩)
    | (refine ⟨_, _, _, _, S1, ?_⟩)
    | (refine ⟨_, _, _, _, S2, ?_⟩)
    | (refine ⟨(fun r => ∃ k : Nat, k ≤ n ∧ r = [.v (.int .i64 (k : Nat)), str l, .v (.int .i64 (rbF l k (nb l p 1).1).1.1), .v (.int .i64 (rbF l k (nb l p 1).1).1.2), ofL 2 (prs (rbF l k (nb l p 1).1).2)]), leftN n, ?_⟩)
    | (refine fun (r1 r2 r3 r4 r5 : D) (hI : (fun r => ∃ k : Nat, k ≤ n ∧ r = [.v (.int .i64 (k : Nat)), str l, .v (.int .i64 (rbF l k (nb l p 1).1).1.1), .v (.int .i64 (rbF l k (nb l p 1).1).1.2), ofL 2 (prs (rbF l k (nb l p 1).1).2)]) [r1, r2, r3, r4, r5]) => ?_; obtain ⟨k, hk, hl0⟩ := hI; simp only [List.cons.injEq, and_true] at hl0; obtain ⟨rfl, rfl, rfl, rfl, rfl⟩ := hl0; by_cases hlt : k < n <;> first | (have hk1 : k < n := (by omega); have okq := rb_ok hl hp1 k; have hrl := rb_len l (nb l p 1).1 k; have hst : rbF l (k + 1) (nb l p 1).1 = ((blk1 l (rbF l k (nb l p 1).1).1).1, (rbF l k (nb l p 1).1).2 ++ [(blk1 l (rbF l k (nb l p 1).1).1).2]) := rfl; generalize rbF l k (nb l p 1).1 = q at okq hrl hst; obtain ⟨q, zs⟩ := q; simp only [blk1] at okq hrl hst; have S1 := shortM l q hB hl okq; have ok2 := nb_ok hl okq (n := 4) (by omega) (by omega); have S2 := shortM l (nb l q 4).1 hB hl ok2; have inl : True := trivial) | (have hkk : k = n := (by omega); subst hkk; have inl2 : True := trivial))
    | (refine ⟨(0 : Nat), Nat.zero_le _, rfl⟩)
    | (have := inl; refine ⟨(k + 1 : Nat), by omega, ?_⟩)
    | (refine And.intro ?_ ?_)
    | (intro hx; have hprop := (show ∀ (p : Prop), p → True from fun _ _ => True.intro) _ hx; clear hprop; first | (cases hx; done) | (exfalso; revert hx; simp (disch := omega) only [decide_eq_true_eq, decide_eq_false_iff_not, Bool.not_eq_true', Bool.not_eq_false', Bool.and_eq_true, Bool.and_eq_false_iff, Int.not_lt, Int.not_le, ne_eq, not_false_eq_true, not_true_eq_false, reduceCtorEq, Bool.true_eq_false, Bool.false_eq_true, beq_iff_eq, bne_iff_ne, beq_eq_false_iff_ne, false_or, or_false, true_and, and_true, app_ofL, lst_ofL, prs_len, ch2]; done) | (simp (disch := omega) only [decide_eq_true_eq, decide_eq_false_iff_not, Bool.not_eq_true', Bool.not_eq_false', Bool.and_eq_true, Bool.and_eq_false_iff, Int.not_lt, Int.not_le, ne_eq, not_false_eq_true, not_true_eq_false, reduceCtorEq, Bool.true_eq_false, Bool.false_eq_true, beq_iff_eq, bne_iff_ne, beq_eq_false_iff_ne, false_or, or_false, true_and, and_true, app_ofL, lst_ofL, prs_len, ch2] at hx; first | (exfalso; omega) | skip) | skip)
    | trivial
    | exact fit_ofL _ _
    | (simp (disch := omega) only [notAgg_v, notAgg_sl, plain_v, fits, fitsOne, fitsCells, xsOf, cell_zero, cell_succ, List.range, List.range.loop, List.map, cond_true, cond_false, D.v.injEq, exists_eq', exists_eq, and_self, and_true, true_and, D.agg.injEq, List.length, exists_eq_left', D.sl.injEq, reduceCtorEq, false_or, true_or, or_true, or_false, cell_zero, cell_succ, cell_v, cells_v, cells_agg, List.length_cons, List.length_nil, app_ofL, lst_ofL, prs_len, ch2]; done))
  all_goals first
    | (exfalso; omega)
    | omega
    | rfl
    | exact ⟨_, rfl⟩
    | exact notAgg_v _
    | exact fit_ofL _ _
    | exact plainP _
    | exact .inr ⟨_, rfl⟩
    | (simp only [leftN]; omega)
    | (simp only [prs_len, List.length_cons, List.length_nil]; omega)
    | (rw [hst]; simp [prs, app_ofL]; done)
    | (simp; done)
    | fail

end Go.Proofs.Ytioodaefgpkkeaa