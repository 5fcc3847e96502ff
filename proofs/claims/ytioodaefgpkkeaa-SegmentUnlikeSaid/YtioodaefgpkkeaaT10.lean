/-
  Layer 7: a segment is read, by the program.
-/
import Derived.Test.YtioodaefgpkkeaaT1
import Derived.Test.YtioodaefgpkkeaaT2
import Derived.Test.YtioodaefgpkkeaaT3
import Derived.Test.YtioodaefgpkkeaaT4
import Derived.Test.YtioodaefgpkkeaaT5
import Derived.Test.YtioodaefgpkkeaaT6
import Derived.Test.YtioodaefgpkkeaaT7
import Derived.Test.YtioodaefgpkkeaaT8
import Derived.Test.YtioodaefgpkkeaaT9
namespace Go.Proofs.Ytioodaefgpkkeaa
open Go.RowKit
set_option linter.unusedSimpArgs false
set_option linter.unusedVariables false


def g1 (l : List Int) := nb l (0, 0) 1
def g2 (l : List Int) := nb l (g1 l).1 1
def g3 (l : List Int) := nb l (g2 l).1 2
def g4 (l : List Int) := nb l (g3 l).1 4
def g5 (l : List Int) := nb l (g4 l).1 4
def g6 (l : List Int) := nb l (g5 l).1 2
def g7 (l : List Int) := nb l (g6 l).1 1
def gb (l : List Int) := rbF l (vN (g7 l).2).toNat (g7 l).1
def g8 (l : List Int) := nb l (gb l).1 1
def g9 (l : List Int) := nb l (g8 l).1 (vN (g8 l).2)
def gD (l : List Int) : Int := doF l (g9 l).1.1 (g9 l).1.2
def gC (l : List Int) : Int := sgChk (vN (g1 l).2) (vN (g2 l).2) (vN (g3 l).2) (vN (g5 l).2) (vN (g6 l).2) (gb l).2.length (g9 l).2.length
def getE (s : List Int) : Int := if (unF s).2 ≠ 0 then (unF s).2 else if gD (unF s).1 ≠ 0 then gD (unF s).1 else gC (unF s).1
def zS : D := .agg [.v (.int .u8 0), .v (.int .i64 0), .v (.int .i64 0), .v (.int .u32 0), .v (.int .u32 0), .v (.int .i64 0), .v nilS, .v (.string ⟨⟨[]⟩⟩)]
def gSg (l : List Int) : D := .agg [.v (.int .u8 (vN (g1 l).2)), .v (.int .i64 (vN (g2 l).2)), .v (.int .i64 (vN (g3 l).2)), .v (.int .u32 (vN (g4 l).2)), .v (.int .u32 (vN (g5 l).2)), .v (.int .i64 (vN (g6 l).2)), ofL 2 (prs (gb l).2), str (g9 l).2]
def getR (s : List Int) : D := if getE s = 0 then gSg (unF s).1 else zS
theorem un_bytes {s : List Int} (h : Bytes s) : Bytes (unF s).1 := by
  unfold unF; (repeat' split) <;> first | exact Bytes.nil | exact h.take _
theorem un_len (s : List Int) : (unF s).1.length ≤ s.length := by
  unfold unF; (repeat' split) <;> simp [List.length_take] <;> omega
theorem un_bd (s : List Int) : 0 ≤ (unF s).2 ∧ (unF s).2 ≤ 11 := by unfold unF; (repeat' split) <;> simp
theorem cu0 {l : List Int} : CuOk l (0, 0) := ⟨by decide, by decide⟩
theorem g1_ok {l : List Int} (h : l.length ≤ 100000) : CuOk l (g1 l).1 := nb_ok h cu0 (by omega) (by omega)
theorem g2_ok {l : List Int} (h : l.length ≤ 100000) : CuOk l (g2 l).1 := nb_ok h (g1_ok h) (by omega) (by omega)
theorem g3_ok {l : List Int} (h : l.length ≤ 100000) : CuOk l (g3 l).1 := nb_ok h (g2_ok h) (by omega) (by omega)
theorem g4_ok {l : List Int} (h : l.length ≤ 100000) : CuOk l (g4 l).1 := nb_ok h (g3_ok h) (by omega) (by omega)
theorem g5_ok {l : List Int} (h : l.length ≤ 100000) : CuOk l (g5 l).1 := nb_ok h (g4_ok h) (by omega) (by omega)
theorem g6_ok {l : List Int} (h : l.length ≤ 100000) : CuOk l (g6 l).1 := nb_ok h (g5_ok h) (by omega) (by omega)
theorem g7_ok {l : List Int} (h : l.length ≤ 100000) : CuOk l (g7 l).1 := nb_ok h (g6_ok h) (by omega) (by omega)
theorem gb_ok {l : List Int} (h : l.length ≤ 100000) : CuOk l (gb l).1 := rb_ok h (g7_ok h) _
theorem g8_ok {l : List Int} (h : l.length ≤ 100000) : CuOk l (g8 l).1 := nb_ok h (gb_ok h) (by omega) (by omega)
theorem v1_bd {l : List Int} (hB : Bytes l) (p : Int × Int) : 0 ≤ vN (nb l p 1).2 ∧ vN (nb l p 1).2 < 256 := ⟨(vN_small (nb_bytes hB p 1)).2.2.2, (vN_small (nb_bytes hB p 1)).1 (nb_len l p 1)⟩
theorem v2_bd {l : List Int} (hB : Bytes l) (p : Int × Int) : 0 ≤ vN (nb l p 2).2 ∧ vN (nb l p 2).2 < 65536 := ⟨(vN_small (nb_bytes hB p 2)).2.2.2, (vN_small (nb_bytes hB p 2)).2.1 (nb_len l p 2)⟩
theorem v4_bd {l : List Int} (hB : Bytes l) (p : Int × Int) : 0 ≤ vN (nb l p 4).2 ∧ vN (nb l p 4).2 < 4294967296 := ⟨(vN_small (nb_bytes hB p 4)).2.2.2, (vN_small (nb_bytes hB p 4)).2.2.1 (nb_len l p 4)⟩
theorem g9_ok {l : List Int} (hB : Bytes l) (h : l.length ≤ 100000) : CuOk l (g9 l).1 := nb_ok h (g8_ok h) (v1_bd hB _).1 (by have := (v1_bd hB (gb l).1).2; show vN (nb l (gb l).1 1).2 ≤ 1000; omega)
theorem g9_len {l : List Int} (hB : Bytes l) : (g9 l).2.length < 256 := by
  have h1 := nb_len l (g8 l).1 (vN (g8 l).2)
  have h2 : 0 ≤ vN (g8 l).2 ∧ vN (g8 l).2 < 256 := v1_bd hB (gb l).1
  show (nb l (g8 l).1 (vN (g8 l).2)).2.length < 256
  omega
theorem gb_len {l : List Int} (hB : Bytes l) : (gb l).2.length < 256 := by
  have h2 : 0 ≤ vN (g7 l).2 ∧ vN (g7 l).2 < 256 := v1_bd hB (g6 l).1
  show (rbF l _ _).2.length < 256
  rw [rb_len]; omega
theorem gC_bd (l : List Int) : 0 ≤ gC l ∧ gC l ≤ 12 := sg_bd _ _ _ _ _ _ _
theorem doF_bd (l : List Int) (a e : Int) (h : 0 ≤ e) : 0 ≤ doF l a e := by unfold doF; (repeat' split) <;> omega

theorem vc_get (s : List Int) : Cond Try.prog (fun _ => none) Try.f19 [str s] [getR s, .v (.int .i64 (getE s))] = ((NotAgg (str s) ∧ True) ∧ ∃ (r : D), ∃ (r_1 : D), PureD Try.prog 29 [str s] [r, r_1] ∧ fits [(false, [none]), (false, [none])] [r, r_1] ∧ ∃ (r_2 : D), D.bin BinOp.neq r_1 (D.v (Value.int IntKind.i64 0)) = some r_2 ∧ ∃ (b : Bool), r_2 = D.v (Value.bool b) ∧ (b = true → (True ∧ True ∧ True ∧ True ∧ True ∧ True ∧ PlainD (D.v nilS) ∧ True ∧ (∃ (y : Value), r_1 = D.v y) ∧ True) ∧ [D.agg [D.v (Value.int IntKind.u8 0), D.v (Value.int IntKind.i64 0), D.v (Value.int IntKind.i64 0), D.v (Value.int IntKind.u32 0), D.v (Value.int IntKind.u32 0), D.v (Value.int IntKind.i64 0), D.v nilS, D.v (Value.string { data := { toList := [] } })], r_1] = [getR s, D.v (Value.int IntKind.i64 (getE s))]) ∧ (b = false → ∃ (r_3 : D), PureD Try.prog 30 [r] [r_3] ∧ fits [(true, [none, none, none])] [r_3] ∧ ∃ (r : D), ∃ (r_4 : D), ∃ (r_5 : D), ∃ (r_6 : D), MemD Try.prog 31 [T.one (C.ptr 0 0), T.one (C.d (D.v (Value.int IntKind.i64 1)))] [Ob.box [C.d (r_3.cell 0), C.d (r_3.cell 1), C.d (r_3.cell 2)]] [T.one (C.d r)] [some (Ob.box [C.d r_4, C.d r_5, C.d r_6])] ∧ ∃ (r_7 : D), D.conv IntKind.u8 r = some r_7 ∧ ∃ (r : D), ∃ (r_8 : D), ∃ (r_9 : D), ∃ (r_10 : D), MemD Try.prog 31 [T.one (C.ptr 0 0), T.one (C.d (D.v (Value.int IntKind.i64 1)))] [Ob.box [C.d r_4, C.d r_5, C.d r_6]] [T.one (C.d r)] [some (Ob.box [C.d r_8, C.d r_9, C.d r_10])] ∧ ∃ (r_11 : D), ∃ (r_12 : D), ∃ (r_13 : D), ∃ (r_14 : D), MemD Try.prog 31 [T.one (C.ptr 0 0), T.one (C.d (D.v (Value.int IntKind.i64 2)))] [Ob.box [C.d r_8, C.d r_9, C.d r_10]] [T.one (C.d r_11)] [some (Ob.box [C.d r_12, C.d r_13, C.d r_14])] ∧ ∃ (r_15 : D), ∃ (r_16 : D), ∃ (r_17 : D), ∃ (r_18 : D), MemD Try.prog 32 [T.one (C.ptr 0 0)] [Ob.box [C.d r_12, C.d r_13, C.d r_14]] [T.one (C.d r_15)] [some (Ob.box [C.d r_16, C.d r_17, C.d r_18])] ∧ ∃ (r_19 : D), ∃ (r_20 : D), ∃ (r_21 : D), ∃ (r_22 : D), MemD Try.prog 32 [T.one (C.ptr 0 0)] [Ob.box [C.d r_16, C.d r_17, C.d r_18]] [T.one (C.d r_19)] [some (Ob.box [C.d r_20, C.d r_21, C.d r_22])] ∧ ∃ (r_23 : D), ∃ (r_24 : D), ∃ (r_25 : D), ∃ (r_26 : D), MemD Try.prog 31 [T.one (C.ptr 0 0), T.one (C.d (D.v (Value.int IntKind.i64 2)))] [Ob.box [C.d r_20, C.d r_21, C.d r_22]] [T.one (C.d r_23)] [some (Ob.box [C.d r_24, C.d r_25, C.d r_26])] ∧ ∃ (r_27 : D), ∃ (r_28 : D), ∃ (r_29 : D), ∃ (r_30 : D), MemD Try.prog 33 [T.one (C.ptr 0 0)] [Ob.box [C.d r_24, C.d r_25, C.d r_26]] [T.one (C.row 1)] [some (Ob.box [C.d r_27, C.d r_28, C.d r_29]), some (Ob.row 2 r_30)] ∧ ∃ (r_31 : D), ∃ (r_32 : D), ∃ (r_33 : D), ∃ (r_34 : D), MemD Try.prog 34 [T.one (C.ptr 0 0)] [Ob.box [C.d r_27, C.d r_28, C.d r_29]] [T.one (C.d r_31)] [some (Ob.box [C.d r_32, C.d r_33, C.d r_34])] ∧ ∃ (r_35 : D), PureD Try.prog 35 [D.agg [r_32, r_33, r_34]] [r_35] ∧ fits [(false, [none])] [r_35] ∧ ∃ (r_36 : D), D.bin BinOp.neq r_35 (D.v (Value.int IntKind.i64 0)) = some r_36 ∧ ∃ (b : Bool), r_36 = D.v (Value.bool b) ∧ (b = true → (True ∧ True ∧ True ∧ True ∧ True ∧ True ∧ PlainD (D.v nilS) ∧ True ∧ (∃ (y : Value), r_35 = D.v y) ∧ True) ∧ [D.agg [D.v (Value.int IntKind.u8 0), D.v (Value.int IntKind.i64 0), D.v (Value.int IntKind.i64 0), D.v (Value.int IntKind.u32 0), D.v (Value.int IntKind.u32 0), D.v (Value.int IntKind.i64 0), D.v nilS, D.v (Value.string { data := { toList := [] } })], r_35] = [getR s, D.v (Value.int IntKind.i64 (getE s))]) ∧ (b = false → ∃ (r_37 : D), PureD Try.prog 11 [D.agg [r_7, r, r_11, r_15, r_19, r_23, r_30, r_31]] [r_37] ∧ fits [(false, [none])] [r_37] ∧ ∃ (r_38 : D), D.bin BinOp.neq r_37 (D.v (Value.int IntKind.i64 0)) = some r_38 ∧ ∃ (b : Bool), r_38 = D.v (Value.bool b) ∧ (b = true → (True ∧ True ∧ True ∧ True ∧ True ∧ True ∧ PlainD (D.v nilS) ∧ True ∧ (∃ (y : Value), r_37 = D.v y) ∧ True) ∧ [D.agg [D.v (Value.int IntKind.u8 0), D.v (Value.int IntKind.i64 0), D.v (Value.int IntKind.i64 0), D.v (Value.int IntKind.u32 0), D.v (Value.int IntKind.u32 0), D.v (Value.int IntKind.i64 0), D.v nilS, D.v (Value.string { data := { toList := [] } })], r_37] = [getR s, D.v (Value.int IntKind.i64 (getE s))]) ∧ (b = false → ((∃ (y : Value), r_7 = D.v y) ∧ (∃ (y : Value), r = D.v y) ∧ (∃ (y : Value), r_11 = D.v y) ∧ (∃ (y : Value), r_15 = D.v y) ∧ (∃ (y : Value), r_19 = D.v y) ∧ (∃ (y : Value), r_23 = D.v y) ∧ PlainD r_30 ∧ (∃ (y : Value), r_31 = D.v y) ∧ True ∧ True) ∧ [D.agg [r_7, r, r_11, r_15, r_19, r_23, r_30, r_31], D.v (Value.int IntKind.i64 0)] = [getR s, D.v (Value.int IntKind.i64 (getE s))])))) := by kernel_rfl
set_option maxHeartbeats 8000000 in
theorem get (s : List Int) (hs : Bytes s) (hl : s.length ≤ 100000) : PureD Try.prog 19 [str s] [getR s, .v (.int .i64 (getE s))] := by
  refine pure_cond (Lp := (fun _ => none)) (by kernel_rfl) Try.func19 (by kernel_rfl) (by kernel_rfl) ?_
  rw [vc_get s]
  have UN := unsealP s hs hl
  have hub := un_bd s
  have hB := un_bytes hs
  have ht : (unF s).1.length ≤ 100000 := Nat.le_trans (un_len s) hl
  have hE : getE s = if (unF s).2 ≠ 0 then (unF s).2 else if gD (unF s).1 ≠ 0 then gD (unF s).1 else gC (unF s).1 := rfl
  have hR : getR s = if getE s = 0 then gSg (unF s).1 else zS := rfl
  generalize getE s = e at hE hR
  generalize getR s = R at hR
  generalize unF s = q at UN hub hB ht hE hR
  obtain ⟨t, u⟩ := q
  simp only at UN hub hB ht hE hR
  by_cases hu : u = 0
  · subst hu
    rw [if_neg (by simp)] at hE
    have OP := opn t
    have K1 := numM t (0, 0) 1 hB ht cu0 (by omega) (by omega)
    have K2 := numM t (g1 t).1 1 hB ht (g1_ok ht) (by omega) (by omega)
    have K3 := numM t (g2 t).1 2 hB ht (g2_ok ht) (by omega) (by omega)
    have K4 := shortM t (g3 t).1 hB ht (g3_ok ht)
    have K5 := shortM t (g4 t).1 hB ht (g4_ok ht)
    have K6 := numM t (g5 t).1 2 hB ht (g5_ok ht) (by omega) (by omega)
    have K7 := blocksM t (g6 t).1 hB ht (g6_ok ht)
    have K8 := textM t (gb t).1 hB ht (gb_ok ht)
    rw [show nb t (0, 0) 1 = g1 t from rfl] at K1
    rw [show nb t (g1 t).1 1 = g2 t from rfl] at K2
    rw [show nb t (g2 t).1 2 = g3 t from rfl] at K3
    rw [show nb t (g3 t).1 4 = g4 t from rfl] at K4
    rw [show nb t (g4 t).1 4 = g5 t from rfl] at K5
    rw [show nb t (g5 t).1 2 = g6 t from rfl] at K6
    rw [show nb t (g6 t).1 1 = g7 t from rfl, show rbF t (vN (g7 t).2).toNat (g7 t).1 = gb t from rfl] at K7
    rw [show nb t (gb t).1 1 = g8 t from rfl, show nb t (g8 t).1 (vN (g8 t).2) = g9 t from rfl] at K8
    have DN := done t (g9 t).1.1 (g9 t).1.2 (g9_ok hB ht).1 (g9_ok hB ht).2 hB (by omega)
    rw [show doF t (g9 t).1.1 (g9 t).1.2 = gD t from rfl] at DN
    have b1 : 0 ≤ vN (g1 t).2 ∧ vN (g1 t).2 < 256 := v1_bd hB _
    have b4 : 0 ≤ vN (g4 t).2 ∧ vN (g4 t).2 < 4294967296 := v4_bd hB _
    have CK := check (vN (g1 t).2) (vN (g2 t).2) (vN (g3 t).2) (vN (g4 t).2) (vN (g5 t).2) (vN (g6 t).2) (ofL 2 (prs (gb t).2)) (gb t).2 (g9 t).2 (isL_ofL _ _) (by have := gb_len hB; omega) (nb_bytes hB _ _) (by have := g9_len hB; omega) b1.1 b1.2
    rw [show sgChk (vN (g1 t).2) (vN (g2 t).2) (vN (g3 t).2) (vN (g5 t).2) (vN (g6 t).2) (gb t).2.length (g9 t).2.length = gC t from rfl] at CK
    have hgc := gC_bd t
    generalize gD t = dn at hE DN
    by_cases hd : dn = 0
    · subst hd
      rw [if_neg (by simp)] at hE
      subst hE
      by_cases hc : gC t = 0
      · rw [if_pos hc] at hR
        subst hR
        rw [hc] at CK ⊢
        unfold gSg
        repeat' (first
          | (refine ex_some (by simp (disch := omega) only [bin_shr, bin_shl, bin_and, bin_or, bin_xor, len_str, toStr_ofL, bin_add, bin_sub, bin_mul, bin_quo, bin_rem, bin_lss, bin_leq, bin_gtr, bin_geq, bin_eql, bin_neq, eqs_cn, eqs_ci, eqs_cb, eqs_cs, Option.map_some, lenT_ofL, lst_ofL, lstSz_ofL, chunk_one, lst_nil, lst_sl, lstSz_sl, lstSz_nil, Bool.and_true, Bool.true_and, Bool.and_false, Bool.false_and, beq_self_eq_true, beq_bb, bne_bb, un_not, un_neg, conv_int, min2_int, max2_int, w64, w32, wu8, wu16, wu32, wu64, tdiv_nn, tmod_nn, cell_zero, cell_succ, cell_v, cells_v, cells_agg, Bool.not_true, Bool.not_false, Int.reduceLT, Int.reduceLE, Int.reduceEq, Int.reduceNeg, Int.reduceAdd, Int.reduceSub, Int.reduceMul, intOf_v, decide_true, decide_false]; rfl) ?_)
          | (refine ex_bool ?_)
          | (refine ⟨_, _, UN, ?_⟩)
          | (refine ⟨_, OP, ?_⟩)
          | (refine ⟨_, _, _, _, K1, ?_⟩)
          | (refine ⟨_, _, _, _, K2, ?_⟩)
          | (refine ⟨_, _, _, _, K3, ?_⟩)
          | (refine ⟨_, _, _, _, K4, ?_⟩)
          | (refine ⟨_, _, _, _, K5, ?_⟩)
          | (refine ⟨_, _, _, _, K6, ?_⟩)
          | (refine ⟨_, _, _, _, K7, ?_⟩)
          | (refine ⟨_, _, _, _, K8, ?_⟩)
          | (refine ⟨_, DN, ?_⟩)
          | (refine ⟨_, CK, ?_⟩)
          | (refine And.intro ?_ ?_)
          | (intro hx; have hprop := (show ∀ (p : Prop), p → True from fun _ _ => True.intro) _ hx; clear hprop; first | (cases hx; done) | (exfalso; revert hx; simp (disch := omega) only [decide_eq_true_eq, decide_eq_false_iff_not, Bool.not_eq_true', Bool.not_eq_false', Bool.and_eq_true, Bool.and_eq_false_iff, Int.not_lt, Int.not_le, ne_eq, not_false_eq_true, not_true_eq_false, reduceCtorEq, Bool.true_eq_false, Bool.false_eq_true, beq_iff_eq, bne_iff_ne, beq_eq_false_iff_ne, false_or, or_false, true_and, and_true]; done) | (simp (disch := omega) only [decide_eq_true_eq, decide_eq_false_iff_not, Bool.not_eq_true', Bool.not_eq_false', Bool.and_eq_true, Bool.and_eq_false_iff, Int.not_lt, Int.not_le, ne_eq, not_false_eq_true, not_true_eq_false, reduceCtorEq, Bool.true_eq_false, Bool.false_eq_true, beq_iff_eq, bne_iff_ne, beq_eq_false_iff_ne, false_or, or_false, true_and, and_true] at hx; first | (exfalso; omega) | skip) | skip)
          | trivial
          | exact fit_ofL _ _
          | (simp (disch := omega) only [notAgg_v, notAgg_sl, plain_v, fits, fitsOne, fitsCells, xsOf, cell_zero, cell_succ, List.range, List.range.loop, List.map, cond_true, cond_false, D.v.injEq, exists_eq', exists_eq, and_self, and_true, true_and, D.agg.injEq, List.length, exists_eq_left', D.sl.injEq, reduceCtorEq, false_or, true_or, or_true, or_false, cell_zero, cell_succ, cell_v, cells_v, cells_agg, List.length_cons, List.length_nil]; done))
        all_goals first
          | (exfalso; omega)
          | omega
          | rfl
          | exact ⟨_, rfl⟩
          | exact notAgg_v _
          | exact fit_ofL _ _
          | exact .inl rfl
          | exact plainP _
          | exact plain_v _
          | (simp; done)
          | fail
      · rw [if_neg hc] at hR
        subst hR
        unfold zS
        repeat' (first
          | (refine ex_some (by simp (disch := omega) only [bin_shr, bin_shl, bin_and, bin_or, bin_xor, len_str, toStr_ofL, bin_add, bin_sub, bin_mul, bin_quo, bin_rem, bin_lss, bin_leq, bin_gtr, bin_geq, bin_eql, bin_neq, eqs_cn, eqs_ci, eqs_cb, eqs_cs, Option.map_some, lenT_ofL, lst_ofL, lstSz_ofL, chunk_one, lst_nil, lst_sl, lstSz_sl, lstSz_nil, Bool.and_true, Bool.true_and, Bool.and_false, Bool.false_and, beq_self_eq_true, beq_bb, bne_bb, un_not, un_neg, conv_int, min2_int, max2_int, w64, w32, wu8, wu16, wu32, wu64, tdiv_nn, tmod_nn, cell_zero, cell_succ, cell_v, cells_v, cells_agg, Bool.not_true, Bool.not_false, Int.reduceLT, Int.reduceLE, Int.reduceEq, Int.reduceNeg, Int.reduceAdd, Int.reduceSub, Int.reduceMul, intOf_v, decide_true, decide_false]; rfl) ?_)
          | (refine ex_bool ?_)
          | (refine ⟨_, _, UN, ?_⟩)
          | (refine ⟨_, OP, ?_⟩)
          | (refine ⟨_, _, _, _, K1, ?_⟩)
          | (refine ⟨_, _, _, _, K2, ?_⟩)
          | (refine ⟨_, _, _, _, K3, ?_⟩)
          | (refine ⟨_, _, _, _, K4, ?_⟩)
          | (refine ⟨_, _, _, _, K5, ?_⟩)
          | (refine ⟨_, _, _, _, K6, ?_⟩)
          | (refine ⟨_, _, _, _, K7, ?_⟩)
          | (refine ⟨_, _, _, _, K8, ?_⟩)
          | (refine ⟨_, DN, ?_⟩)
          | (refine ⟨_, CK, ?_⟩)
          | (refine And.intro ?_ ?_)
          | (intro hx; have hprop := (show ∀ (p : Prop), p → True from fun _ _ => True.intro) _ hx; clear hprop; first | (cases hx; done) | (exfalso; revert hx; simp (disch := omega) only [decide_eq_true_eq, decide_eq_false_iff_not, Bool.not_eq_true', Bool.not_eq_false', Bool.and_eq_true, Bool.and_eq_false_iff, Int.not_lt, Int.not_le, ne_eq, not_false_eq_true, not_true_eq_false, reduceCtorEq, Bool.true_eq_false, Bool.false_eq_true, beq_iff_eq, bne_iff_ne, beq_eq_false_iff_ne, false_or, or_false, true_and, and_true]; done) | (simp (disch := omega) only [decide_eq_true_eq, decide_eq_false_iff_not, Bool.not_eq_true', Bool.not_eq_false', Bool.and_eq_true, Bool.and_eq_false_iff, Int.not_lt, Int.not_le, ne_eq, not_false_eq_true, not_true_eq_false, reduceCtorEq, Bool.true_eq_false, Bool.false_eq_true, beq_iff_eq, bne_iff_ne, beq_eq_false_iff_ne, false_or, or_false, true_and, and_true] at hx; first | (exfalso; omega) | skip) | skip)
          | trivial
          | exact fit_ofL _ _
          | (simp (disch := omega) only [notAgg_v, notAgg_sl, plain_v, fits, fitsOne, fitsCells, xsOf, cell_zero, cell_succ, List.range, List.range.loop, List.map, cond_true, cond_false, D.v.injEq, exists_eq', exists_eq, and_self, and_true, true_and, D.agg.injEq, List.length, exists_eq_left', D.sl.injEq, reduceCtorEq, false_or, true_or, or_true, or_false, cell_zero, cell_succ, cell_v, cells_v, cells_agg, List.length_cons, List.length_nil]; done))
        all_goals first
          | (exfalso; omega)
          | omega
          | rfl
          | exact ⟨_, rfl⟩
          | exact notAgg_v _
          | exact fit_ofL _ _
          | exact .inl rfl
          | exact plainP _
          | exact plain_v _
          | (simp; done)
          | fail
    · rw [if_pos hd] at hE
      subst hE
      rw [if_neg hd] at hR
      subst hR
      unfold zS
      repeat' (first
        | (refine ex_some (by simp (disch := omega) only [bin_shr, bin_shl, bin_and, bin_or, bin_xor, len_str, toStr_ofL, bin_add, bin_sub, bin_mul, bin_quo, bin_rem, bin_lss, bin_leq, bin_gtr, bin_geq, bin_eql, bin_neq, eqs_cn, eqs_ci, eqs_cb, eqs_cs, Option.map_some, lenT_ofL, lst_ofL, lstSz_ofL, chunk_one, lst_nil, lst_sl, lstSz_sl, lstSz_nil, Bool.and_true, Bool.true_and, Bool.and_false, Bool.false_and, beq_self_eq_true, beq_bb, bne_bb, un_not, un_neg, conv_int, min2_int, max2_int, w64, w32, wu8, wu16, wu32, wu64, tdiv_nn, tmod_nn, cell_zero, cell_succ, cell_v, cells_v, cells_agg, Bool.not_true, Bool.not_false, Int.reduceLT, Int.reduceLE, Int.reduceEq, Int.reduceNeg, Int.reduceAdd, Int.reduceSub, Int.reduceMul, intOf_v, decide_true, decide_false]; rfl) ?_)
        | (refine ex_bool ?_)
        | (refine ⟨_, _, UN, ?_⟩)
        | (refine ⟨_, OP, ?_⟩)
        | (refine ⟨_, _, _, _, K1, ?_⟩)
        | (refine ⟨_, _, _, _, K2, ?_⟩)
        | (refine ⟨_, _, _, _, K3, ?_⟩)
        | (refine ⟨_, _, _, _, K4, ?_⟩)
        | (refine ⟨_, _, _, _, K5, ?_⟩)
        | (refine ⟨_, _, _, _, K6, ?_⟩)
        | (refine ⟨_, _, _, _, K7, ?_⟩)
        | (refine ⟨_, _, _, _, K8, ?_⟩)
        | (refine ⟨_, DN, ?_⟩)
        | (refine ⟨_, CK, ?_⟩)
        | (refine And.intro ?_ ?_)
        | (intro hx; have hprop := (show ∀ (p : Prop), p → True from fun _ _ => True.intro) _ hx; clear hprop; first | (cases hx; done) | (exfalso; revert hx; simp (disch := omega) only [decide_eq_true_eq, decide_eq_false_iff_not, Bool.not_eq_true', Bool.not_eq_false', Bool.and_eq_true, Bool.and_eq_false_iff, Int.not_lt, Int.not_le, ne_eq, not_false_eq_true, not_true_eq_false, reduceCtorEq, Bool.true_eq_false, Bool.false_eq_true, beq_iff_eq, bne_iff_ne, beq_eq_false_iff_ne, false_or, or_false, true_and, and_true]; done) | (simp (disch := omega) only [decide_eq_true_eq, decide_eq_false_iff_not, Bool.not_eq_true', Bool.not_eq_false', Bool.and_eq_true, Bool.and_eq_false_iff, Int.not_lt, Int.not_le, ne_eq, not_false_eq_true, not_true_eq_false, reduceCtorEq, Bool.true_eq_false, Bool.false_eq_true, beq_iff_eq, bne_iff_ne, beq_eq_false_iff_ne, false_or, or_false, true_and, and_true] at hx; first | (exfalso; omega) | skip) | skip)
        | trivial
        | exact fit_ofL _ _
        | (simp (disch := omega) only [notAgg_v, notAgg_sl, plain_v, fits, fitsOne, fitsCells, xsOf, cell_zero, cell_succ, List.range, List.range.loop, List.map, cond_true, cond_false, D.v.injEq, exists_eq', exists_eq, and_self, and_true, true_and, D.agg.injEq, List.length, exists_eq_left', D.sl.injEq, reduceCtorEq, false_or, true_or, or_true, or_false, cell_zero, cell_succ, cell_v, cells_v, cells_agg, List.length_cons, List.length_nil]; done))
      all_goals first
        | (exfalso; omega)
        | omega
        | rfl
        | exact ⟨_, rfl⟩
        | exact notAgg_v _
        | exact fit_ofL _ _
        | exact .inl rfl
        | exact plainP _
        | exact plain_v _
        | (simp; done)
        | fail
  · rw [if_pos hu] at hE
    subst hE
    rw [if_neg hu] at hR
    subst hR
    unfold zS
    repeat' (first
      | (refine ex_some (by simp (disch := omega) only [bin_shr, bin_shl, bin_and, bin_or, bin_xor, len_str, toStr_ofL, bin_add, bin_sub, bin_mul, bin_quo, bin_rem, bin_lss, bin_leq, bin_gtr, bin_geq, bin_eql, bin_neq, eqs_cn, eqs_ci, eqs_cb, eqs_cs, Option.map_some, lenT_ofL, lst_ofL, lstSz_ofL, chunk_one, lst_nil, lst_sl, lstSz_sl, lstSz_nil, Bool.and_true, Bool.true_and, Bool.and_false, Bool.false_and, beq_self_eq_true, beq_bb, bne_bb, un_not, un_neg, conv_int, min2_int, max2_int, w64, w32, wu8, wu16, wu32, wu64, tdiv_nn, tmod_nn, cell_zero, cell_succ, cell_v, cells_v, cells_agg, Bool.not_true, Bool.not_false, Int.reduceLT, Int.reduceLE, Int.reduceEq, Int.reduceNeg, Int.reduceAdd, Int.reduceSub, Int.reduceMul, intOf_v, decide_true, decide_false]; rfl) ?_)
      | (refine ex_bool ?_)
      | (refine ⟨_, _, UN, ?_⟩)
      | (refine And.intro ?_ ?_)
      | (intro hx; have hprop := (show ∀ (p : Prop), p → True from fun _ _ => True.intro) _ hx; clear hprop; first | (cases hx; done) | (exfalso; revert hx; simp (disch := omega) only [decide_eq_true_eq, decide_eq_false_iff_not, Bool.not_eq_true', Bool.not_eq_false', Bool.and_eq_true, Bool.and_eq_false_iff, Int.not_lt, Int.not_le, ne_eq, not_false_eq_true, not_true_eq_false, reduceCtorEq, Bool.true_eq_false, Bool.false_eq_true, beq_iff_eq, bne_iff_ne, beq_eq_false_iff_ne, false_or, or_false, true_and, and_true]; done) | (simp (disch := omega) only [decide_eq_true_eq, decide_eq_false_iff_not, Bool.not_eq_true', Bool.not_eq_false', Bool.and_eq_true, Bool.and_eq_false_iff, Int.not_lt, Int.not_le, ne_eq, not_false_eq_true, not_true_eq_false, reduceCtorEq, Bool.true_eq_false, Bool.false_eq_true, beq_iff_eq, bne_iff_ne, beq_eq_false_iff_ne, false_or, or_false, true_and, and_true] at hx; first | (exfalso; omega) | skip) | skip)
      | trivial
      | exact fit_ofL _ _
      | (simp (disch := omega) only [notAgg_v, notAgg_sl, plain_v, fits, fitsOne, fitsCells, xsOf, cell_zero, cell_succ, List.range, List.range.loop, List.map, cond_true, cond_false, D.v.injEq, exists_eq', exists_eq, and_self, and_true, true_and, D.agg.injEq, List.length, exists_eq_left', D.sl.injEq, reduceCtorEq, false_or, true_or, or_true, or_false, cell_zero, cell_succ, cell_v, cells_v, cells_agg, List.length_cons, List.length_nil]; done))
    all_goals first
      | (exfalso; omega)
      | omega
      | rfl
      | exact ⟨_, rfl⟩
      | exact notAgg_v _
      | exact fit_ofL _ _
      | exact .inl rfl
      | exact plainP _
      | exact plain_v _
      | (simp; done)
      | fail

end Go.Proofs.Ytioodaefgpkkeaa