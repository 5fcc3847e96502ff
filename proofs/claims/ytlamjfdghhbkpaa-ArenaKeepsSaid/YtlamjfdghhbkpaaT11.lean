/-
  Layer 18: what every right program does.
-/
import Derived.Test.YtlamjfdghhbkpaaT1
import Derived.Test.YtlamjfdghhbkpaaT2
import Derived.Test.YtlamjfdghhbkpaaT3
import Derived.Test.YtlamjfdghhbkpaaT4
import Derived.Test.YtlamjfdghhbkpaaT5
import Derived.Test.YtlamjfdghhbkpaaT6
import Derived.Test.YtlamjfdghhbkpaaT7
import Derived.Test.YtlamjfdghhbkpaaT8
import Derived.Test.YtlamjfdghhbkpaaT9
import Derived.Test.YtlamjfdghhbkpaaT10
namespace Go.Proofs.Ytlamjfdghhbkpaa
open Go.RowKit
set_option linter.unusedSimpArgs false
set_option linter.unusedVariables false


theorem tk0 : takeF [] (-1) 0 5 = ([⟨true, 5, 0⟩], -1, 1, 0, 0) := by decide +kernel
theorem tk1 : takeF [⟨true, 5, 0⟩] (-1) 1 7 = ([⟨true, 5, 0⟩, ⟨true, 7, 0⟩], -1, 2, 1, 0) := by decide +kernel
theorem gv1 : giveF [⟨true, 5, 0⟩, ⟨true, 7, 0⟩] (-1) 2 0 = ([⟨false, 0, -1⟩, ⟨true, 7, 0⟩], 0, 1) ∧ findF [⟨true, 5, 0⟩, ⟨true, 7, 0⟩] (-1) 2 0 = 0 := by decide +kernel
theorem tk2 : takeF [⟨false, 0, -1⟩, ⟨true, 7, 0⟩] 0 1 9 = ([⟨true, 9, 0⟩, ⟨true, 7, 0⟩], -1, 2, 0, 0) := by decide +kernel
theorem gt1 : getV [⟨true, 9, 0⟩, ⟨true, 7, 0⟩] (-1) 2 0 = 9 ∧ findB [⟨true, 9, 0⟩, ⟨true, 7, 0⟩] (-1) 2 0 = true := by decide +kernel
theorem st1 : setF [⟨true, 9, 0⟩, ⟨true, 7, 0⟩] (-1) 2 1 3 = [⟨true, 9, 0⟩, ⟨true, 3, 0⟩] ∧ findF [⟨true, 9, 0⟩, ⟨true, 7, 0⟩] (-1) 2 1 = 0 := by decide +kernel
theorem gv2 : giveF [⟨true, 9, 0⟩, ⟨true, 7, 0⟩] (-1) 2 2 = ([⟨true, 9, 0⟩, ⟨true, 7, 0⟩], -1, 2) ∧ findF [⟨true, 9, 0⟩, ⟨true, 7, 0⟩] (-1) 2 2 = 6 := by decide +kernel
theorem sp1 : spareF [⟨false, 0, -1⟩, ⟨true, 7, 0⟩] 0 1 = [0] := by decide +kernel
theorem lv1 : liveF [⟨true, 9, 0⟩, ⟨true, 7, 0⟩] (-1) 2 = [0, 1] := by decide +kernel
theorem ck1 : chkF [⟨true, 9, 0⟩, ⟨true, 7, 0⟩] (-1) 2 = 0 ∧ chkF [] 0 0 = 8 := by decide +kernel
theorem sm1 : sameS [⟨false, 0, -1⟩, ⟨true, 7, 0⟩] [⟨true, 9, 0⟩, ⟨true, 7, 0⟩] 0 (-1) 1 2 = false ∧ sameS [⟨true, 9, 0⟩, ⟨true, 7, 0⟩] [⟨true, 9, 0⟩, ⟨true, 7, 0⟩] (-1) (-1) 2 2 = true := by decide +kernel
theorem isC (l : List Cl) : IsL 3 (cls l) (.sl 3 (cls l)) := .inl rfl
def wA : List Cl := [⟨true, 5, 0⟩]
def wB : List Cl := [⟨true, 5, 0⟩, ⟨true, 7, 0⟩]
def wC : List Cl := [⟨false, 0, -1⟩, ⟨true, 7, 0⟩]
def wD : List Cl := [⟨true, 9, 0⟩, ⟨true, 7, 0⟩]

theorem vc_awake  : Cond Try.prog (fun _ => none) Try.f7 [] [.v (.bool true)] = (True ∧ ∃ (r : D), PureD Try.prog 27 [] [r] ∧ fits [(true, [some 3, none, none])] [r] ∧ ∃ (r_1 : D), ∃ (r_2 : D), ∃ (r_3 : D), PureD Try.prog 9 [D.agg [r.cell 0, r.cell 1, r.cell 2], D.v (Value.int IntKind.i64 5)] [r_1, r_2, r_3] ∧ fits [(true, [some 3, none, none]), (false, [none]), (false, [none])] [r_1, r_2, r_3] ∧ ∃ (r : D), ∃ (r_4 : D), ∃ (r_5 : D), PureD Try.prog 9 [D.agg [r_1.cell 0, r_1.cell 1, r_1.cell 2], D.v (Value.int IntKind.i64 7)] [r, r_4, r_5] ∧ fits [(true, [some 3, none, none]), (false, [none]), (false, [none])] [r, r_4, r_5] ∧ ∃ (r_6 : D), ∃ (r_7 : D), PureD Try.prog 11 [D.agg [r.cell 0, r.cell 1, r.cell 2], D.v (Value.int IntKind.i64 0)] [r_6, r_7] ∧ fits [(true, [some 3, none, none]), (false, [none])] [r_6, r_7] ∧ ∃ (r : D), ∃ (r_8 : D), ∃ (r_9 : D), PureD Try.prog 9 [D.agg [r_6.cell 0, r_6.cell 1, r_6.cell 2], D.v (Value.int IntKind.i64 9)] [r, r_8, r_9] ∧ fits [(true, [some 3, none, none]), (false, [none]), (false, [none])] [r, r_8, r_9] ∧ ∃ (r_10 : D), ∃ (r_11 : D), PureD Try.prog 17 [D.agg [r.cell 0, r.cell 1, r.cell 2], D.v (Value.int IntKind.i64 0)] [r_10, r_11] ∧ fits [(false, [none]), (false, [none])] [r_10, r_11] ∧ ∃ (r_12 : D), ∃ (r_13 : D), PureD Try.prog 13 [D.agg [r.cell 0, r.cell 1, r.cell 2], D.v (Value.int IntKind.i64 1), D.v (Value.int IntKind.i64 3)] [r_12, r_13] ∧ fits [(true, [some 3, none, none]), (false, [none])] [r_12, r_13] ∧ ∃ (r_14 : D), ∃ (r_15 : D), PureD Try.prog 11 [D.agg [r.cell 0, r.cell 1, r.cell 2], D.v (Value.int IntKind.i64 2)] [r_14, r_15] ∧ fits [(true, [some 3, none, none]), (false, [none])] [r_14, r_15] ∧ ∃ (r_16 : D), D.bin BinOp.eql r_2 (D.v (Value.int IntKind.i64 0)) = some r_16 ∧ ∃ (b : Bool), r_16 = D.v (Value.bool b) ∧ (b = true → ∃ (r_17 : D), D.bin BinOp.eql r_3 (D.v (Value.int IntKind.i64 0)) = some r_17 ∧ ∃ (b : Bool), r_17 = D.v (Value.bool b) ∧ (b = true → ∃ (r_18 : D), D.bin BinOp.eql r_4 (D.v (Value.int IntKind.i64 1)) = some r_18 ∧ ∃ (b : Bool), r_18 = D.v (Value.bool b) ∧ (b = true → ∃ (r_19 : D), D.bin BinOp.eql r_5 (D.v (Value.int IntKind.i64 0)) = some r_19 ∧ ∃ (b : Bool), r_19 = D.v (Value.bool b) ∧ (b = true → ∃ (r_20 : D), D.bin BinOp.eql r_7 (D.v (Value.int IntKind.i64 0)) = some r_20 ∧ ∃ (b : Bool), r_20 = D.v (Value.bool b) ∧ (b = true → ∃ (r_21 : D), PureD Try.prog 24 [D.agg [r_6.cell 0, r_6.cell 1, r_6.cell 2]] [r_21] ∧ fits [(false, [some 1])] [r_21] ∧ ∃ (r_22 : D), PureD Try.prog 21 [r_21, D.sl 1 (chunks false 1 1 [D.v (Value.int IntKind.i64 0)])] [r_22] ∧ fits [(false, [none])] [r_22] ∧ ∃ (b : Bool), r_22 = D.v (Value.bool b) ∧ (b = true → ∃ (r_23 : D), D.bin BinOp.eql r_8 (D.v (Value.int IntKind.i64 0)) = some r_23 ∧ ∃ (b : Bool), r_23 = D.v (Value.bool b) ∧ (b = true → ∃ (r_24 : D), D.bin BinOp.eql r_9 (D.v (Value.int IntKind.i64 0)) = some r_24 ∧ ∃ (b : Bool), r_24 = D.v (Value.bool b) ∧ (b = true → ∃ (r_25 : D), D.bin BinOp.eql r_10 (D.v (Value.int IntKind.i64 9)) = some r_25 ∧ ∃ (b : Bool), r_25 = D.v (Value.bool b) ∧ (b = true → ∃ (b : Bool), r_11 = D.v (Value.bool b) ∧ (b = true → ∃ (r_26 : D), D.lenT (TypeDesc.slice 62) (r_12.cell 0) = some r_26 ∧ ∃ (r_27 : D), D.bin BinOp.eql r_26 (D.v (Value.int IntKind.i64 2)) = some r_27 ∧ ∃ (b : Bool), r_27 = D.v (Value.bool b) ∧ (b = true → D.inb 3 (r_12.cell 0) (D.v (Value.int IntKind.i64 1)) ∧ 0 + 1 + 1 ≤ ((r_12.cell 0).at_ (D.v (Value.int IntKind.i64 1))).cells.length ∧ ∃ (r_28 : D), D.bin BinOp.eql (((r_12.cell 0).at_ (D.v (Value.int IntKind.i64 1))).cell (0 + 1)) (D.v (Value.int IntKind.i64 3)) = some r_28 ∧ ∃ (b : Bool), r_28 = D.v (Value.bool b) ∧ (b = true → ∃ (r_29 : D), D.bin BinOp.eql r_13 (D.v (Value.int IntKind.i64 0)) = some r_29 ∧ ∃ (b : Bool), r_29 = D.v (Value.bool b) ∧ (b = true → ∃ (r_30 : D), D.bin BinOp.eql r_15 (D.v (Value.int IntKind.i64 6)) = some r_30 ∧ ∃ (b : Bool), r_30 = D.v (Value.bool b) ∧ (b = true → ∃ (r_31 : D), PureD Try.prog 22 [D.agg [r.cell 0, r.cell 1, r.cell 2]] [r_31] ∧ fits [(false, [some 1])] [r_31] ∧ ∃ (r_32 : D), PureD Try.prog 21 [r_31, D.sl 1 (chunks false 1 2 [D.v (Value.int IntKind.i64 0), D.v (Value.int IntKind.i64 1)])] [r_32] ∧ fits [(false, [none])] [r_32] ∧ ∃ (b : Bool), r_32 = D.v (Value.bool b) ∧ (b = true → ∃ (r_33 : D), PureD Try.prog 19 [D.agg [r.cell 0, r.cell 1, r.cell 2]] [r_33] ∧ fits [(false, [none])] [r_33] ∧ ∃ (r_34 : D), D.bin BinOp.eql r_33 (D.v (Value.int IntKind.i64 0)) = some r_34 ∧ ∃ (b : Bool), r_34 = D.v (Value.bool b) ∧ (b = true → ∃ (r_35 : D), PureD Try.prog 19 [D.agg [D.v (Value.slice none 0 0), D.v (Value.int IntKind.i64 0), D.v (Value.int IntKind.i64 0)]] [r_35] ∧ fits [(false, [none])] [r_35] ∧ ∃ (r_36 : D), D.bin BinOp.eql r_35 (D.v (Value.int IntKind.i64 8)) = some r_36 ∧ ∃ (b : Bool), r_36 = D.v (Value.bool b) ∧ (b = true → ∃ (r_37 : D), PureD Try.prog 26 [D.agg [r_6.cell 0, r_6.cell 1, r_6.cell 2], D.agg [r.cell 0, r.cell 1, r.cell 2]] [r_37] ∧ fits [(false, [none])] [r_37] ∧ ∃ (r_38 : D), D.un UnOp.not r_37 = some r_38 ∧ ∃ (b : Bool), r_38 = D.v (Value.bool b) ∧ (b = true → ∃ (r_39 : D), PureD Try.prog 26 [D.agg [r.cell 0, r.cell 1, r.cell 2], D.agg [r.cell 0, r.cell 1, r.cell 2]] [r_39] ∧ fits [(false, [none])] [r_39] ∧ ∃ (b : Bool), r_39 = D.v (Value.bool b) ∧ ∃ (b : Bool), r_39 = D.v (Value.bool b) ∧ ∃ (b : Bool), r_39 = D.v (Value.bool b) ∧ ∃ (b : Bool), r_39 = D.v (Value.bool b) ∧ ∃ (b : Bool), r_39 = D.v (Value.bool b) ∧ ∃ (b : Bool), r_39 = D.v (Value.bool b) ∧ ((∃ (y : Value), r_39 = D.v y) ∧ True) ∧ [r_39] = [D.v (Value.bool true)]) ∧ (b = false → (True ∧ True) ∧ [D.v (Value.bool false)] = [D.v (Value.bool true)])) ∧ (b = false → (True ∧ True) ∧ [D.v (Value.bool false)] = [D.v (Value.bool true)])) ∧ (b = false → (True ∧ True) ∧ [D.v (Value.bool false)] = [D.v (Value.bool true)])) ∧ (b = false → (True ∧ True) ∧ [D.v (Value.bool false)] = [D.v (Value.bool true)])) ∧ (b = false → (True ∧ True) ∧ [D.v (Value.bool false)] = [D.v (Value.bool true)])) ∧ (b = false → (True ∧ True) ∧ [D.v (Value.bool false)] = [D.v (Value.bool true)])) ∧ (b = false → (True ∧ True) ∧ [D.v (Value.bool false)] = [D.v (Value.bool true)])) ∧ (b = false → (True ∧ True) ∧ [D.v (Value.bool false)] = [D.v (Value.bool true)])) ∧ (b = false → (True ∧ True) ∧ [D.v (Value.bool false)] = [D.v (Value.bool true)])) ∧ (b = false → (True ∧ True) ∧ [D.v (Value.bool false)] = [D.v (Value.bool true)])) ∧ (b = false → (True ∧ True) ∧ [D.v (Value.bool false)] = [D.v (Value.bool true)])) ∧ (b = false → (True ∧ True) ∧ [D.v (Value.bool false)] = [D.v (Value.bool true)])) ∧ (b = false → (True ∧ True) ∧ [D.v (Value.bool false)] = [D.v (Value.bool true)])) ∧ (b = false → (True ∧ True) ∧ [D.v (Value.bool false)] = [D.v (Value.bool true)])) ∧ (b = false → (True ∧ True) ∧ [D.v (Value.bool false)] = [D.v (Value.bool true)])) ∧ (b = false → (True ∧ True) ∧ [D.v (Value.bool false)] = [D.v (Value.bool true)])) ∧ (b = false → (True ∧ True) ∧ [D.v (Value.bool false)] = [D.v (Value.bool true)])) ∧ (b = false → (True ∧ True) ∧ [D.v (Value.bool false)] = [D.v (Value.bool true)])) := by kernel_rfl
set_option maxHeartbeats 8000000 in
theorem awake   : PureD Try.prog 7 [] [.v (.bool true)] := by
  refine pure_cond (Lp := (fun _ => none)) (by kernel_rfl) Try.func7 (by kernel_rfl) (by kernel_rfl) ?_
  rw [vc_awake]
  have A := take (.v nilS) [] (-1) 0 5 (.inr ⟨rfl, rfl⟩) (by simp)
  rw [tk0] at A
  have B := take (.sl 3 (cls [⟨true, 5, 0⟩])) [⟨true, 5, 0⟩] (-1) 1 7 (isC _) (by simp)
  rw [tk1] at B
  have C := give (.sl 3 (cls [⟨true, 5, 0⟩, ⟨true, 7, 0⟩])) [⟨true, 5, 0⟩, ⟨true, 7, 0⟩] (-1) 2 0 (isC _) (by simp)
  rw [gv1.1, gv1.2] at C
  have E := take (.sl 3 (cls [⟨false, 0, -1⟩, ⟨true, 7, 0⟩])) [⟨false, 0, -1⟩, ⟨true, 7, 0⟩] 0 1 9 (isC _) (by simp)
  rw [tk2] at E
  have F := get (.sl 3 (cls [⟨true, 9, 0⟩, ⟨true, 7, 0⟩])) [⟨true, 9, 0⟩, ⟨true, 7, 0⟩] (-1) 2 0 (isC _) (by simp)
  rw [gt1.1, gt1.2] at F
  have G := set (.sl 3 (cls [⟨true, 9, 0⟩, ⟨true, 7, 0⟩])) [⟨true, 9, 0⟩, ⟨true, 7, 0⟩] (-1) 2 1 3 (isC _) (by simp)
  rw [st1.1, st1.2] at G
  have H := give (.sl 3 (cls [⟨true, 9, 0⟩, ⟨true, 7, 0⟩])) [⟨true, 9, 0⟩, ⟨true, 7, 0⟩] (-1) 2 2 (isC _) (by simp)
  rw [gv2.1, gv2.2] at H
  have I := spare (.sl 3 (cls [⟨false, 0, -1⟩, ⟨true, 7, 0⟩])) [⟨false, 0, -1⟩, ⟨true, 7, 0⟩] 0 1 (isC _) (by simp)
  rw [sp1] at I
  have J := live (.sl 3 (cls [⟨true, 9, 0⟩, ⟨true, 7, 0⟩])) [⟨true, 9, 0⟩, ⟨true, 7, 0⟩] (-1) 2 (isC _) (by simp)
  rw [lv1] at J
  have K := check (.sl 3 (cls [⟨true, 9, 0⟩, ⟨true, 7, 0⟩])) [⟨true, 9, 0⟩, ⟨true, 7, 0⟩] (-1) 2 (isC _) (by simp)
  rw [ck1.1] at K
  have L := check (.v nilS) [] 0 0 (.inr ⟨rfl, rfl⟩) (by simp)
  rw [ck1.2] at L
  have M := same (.sl 3 (cls [⟨false, 0, -1⟩, ⟨true, 7, 0⟩])) (.sl 3 (cls [⟨true, 9, 0⟩, ⟨true, 7, 0⟩])) [⟨false, 0, -1⟩, ⟨true, 7, 0⟩] [⟨true, 9, 0⟩, ⟨true, 7, 0⟩] 0 1 (-1) 2 (isC _) (isC _) (by simp) (by simp)
  have N := same (.sl 3 (cls [⟨true, 9, 0⟩, ⟨true, 7, 0⟩])) (.sl 3 (cls [⟨true, 9, 0⟩, ⟨true, 7, 0⟩])) [⟨true, 9, 0⟩, ⟨true, 7, 0⟩] [⟨true, 9, 0⟩, ⟨true, 7, 0⟩] (-1) 2 (-1) 2 (isC _) (isC _) (by simp) (by simp)
  rw [sm1.1] at M
  rw [sm1.2] at N
  have O := sameI (ofL 1 (ints .i64 [0])) (.sl 1 (ints .i64 [0])) [0] [0] (isL_ofL _ _) (.inl rfl) (by simp) (by simp)
  have Q := sameI (ofL 1 (ints .i64 [0, 1])) (.sl 1 (ints .i64 [0, 1])) [0, 1] [0, 1] (isL_ofL _ _) (.inl rfl) (by simp) (by simp)
  rw [show sameIF [0] [0] = true from decide_eq_true rfl] at O
  rw [show sameIF [0, 1] [0, 1] = true from decide_eq_true rfl] at Q
  simp only [reD_ne (List.cons_ne_nil _ _)] at A B C E F G H
  have i1 : D.inb 3 (.sl 3 (cls [⟨true, 9, 0⟩, ⟨true, 3, 0⟩])) (.v (.int .i64 1)) := cls_inb (cs := [⟨true, 9, 0⟩, ⟨true, 3, 0⟩]) (isC _) (by omega) (by simp)
  have h1 : (D.sl 3 (cls [⟨true, 9, 0⟩, ⟨true, 3, 0⟩])).at_ (.v (.int .i64 1)) = .agg [.v (.bool true), .v (.int .i64 3), .v (.int .i64 0)] := rfl
  repeat' (first
    | (refine ex_some (by simp (disch := omega) only [bin_shr, bin_shl, bin_and, bin_or, bin_xor, len_str, toStr_ofL, bin_add, bin_sub, bin_mul, bin_quo, bin_rem, bin_lss, bin_leq, bin_gtr, bin_geq, bin_eql, bin_neq, eqs_cn, eqs_ci, eqs_cb, eqs_cs, Option.map_some, lenT_ofL, lst_ofL, lstSz_ofL, chunk_one, lst_nil, lst_sl, lstSz_sl, lstSz_nil, Bool.and_true, Bool.true_and, Bool.and_false, Bool.false_and, beq_self_eq_true, beq_bb, bne_bb, un_not, un_neg, conv_int, min2_int, max2_int, w64, w32, wu8, wu16, wu32, wu64, tdiv_nn, tmod_nn, cell_zero, cell_succ, cell_v, cells_v, cells_agg, Bool.not_true, Bool.not_false, Int.reduceLT, Int.reduceLE, Int.reduceEq, Int.reduceNeg, Int.reduceAdd, Int.reduceSub, Int.reduceMul, intOf_v, decide_true, decide_false, i64, cls_len, h1, List.length_cons, List.length_nil]; rfl) ?_)
    | (refine ex_bool ?_)
    | (refine ⟨_, new, ?_⟩)
    | (refine ⟨_, _, _, A, ?_⟩)
    | (refine ⟨_, _, _, B, ?_⟩)
    | (refine ⟨_, _, C, ?_⟩)
    | (refine ⟨_, _, _, E, ?_⟩)
    | (refine ⟨_, _, F, ?_⟩)
    | (refine ⟨_, _, G, ?_⟩)
    | (refine ⟨_, _, H, ?_⟩)
    | (refine ⟨_, I, ?_⟩)
    | (refine ⟨_, J, ?_⟩)
    | (refine ⟨_, K, ?_⟩)
    | (refine ⟨_, L, ?_⟩)
    | (refine ⟨_, M, ?_⟩)
    | (refine ⟨_, N, ?_⟩)
    | (refine ⟨_, O, ?_⟩)
    | (refine ⟨_, Q, ?_⟩)
    | (exact i1)
    | (refine And.intro ?_ ?_)
    | (intro hx; have hprop := (show ∀ (p : Prop), p → True from fun _ _ => True.intro) _ hx; clear hprop; first | (cases hx; done) | (exfalso; revert hx; simp (disch := omega) only [decide_eq_true_eq, decide_eq_false_iff_not, Bool.not_eq_true', Bool.not_eq_false', Bool.and_eq_true, Bool.and_eq_false_iff, Int.not_lt, Int.not_le, ne_eq, not_false_eq_true, not_true_eq_false, reduceCtorEq, Bool.true_eq_false, Bool.false_eq_true, beq_iff_eq, bne_iff_ne, beq_eq_false_iff_ne, false_or, or_false, true_and, and_true, i64, cls_len, h1, List.length_cons, List.length_nil]; done) | (simp (disch := omega) only [decide_eq_true_eq, decide_eq_false_iff_not, Bool.not_eq_true', Bool.not_eq_false', Bool.and_eq_true, Bool.and_eq_false_iff, Int.not_lt, Int.not_le, ne_eq, not_false_eq_true, not_true_eq_false, reduceCtorEq, Bool.true_eq_false, Bool.false_eq_true, beq_iff_eq, bne_iff_ne, beq_eq_false_iff_ne, false_or, or_false, true_and, and_true, i64, cls_len, h1, List.length_cons, List.length_nil] at hx; first | (exfalso; omega) | skip) | skip)
    | trivial
    | exact fit_ofL _ _
    | (simp (disch := omega) only [notAgg_v, notAgg_sl, plain_v, fits, fitsOne, fitsCells, xsOf, cell_zero, cell_succ, List.range, List.range.loop, List.map, cond_true, cond_false, D.v.injEq, exists_eq', exists_eq, and_self, and_true, true_and, D.agg.injEq, List.length, exists_eq_left', D.sl.injEq, reduceCtorEq, false_or, true_or, or_true, or_false, cell_zero, cell_succ, cell_v, cells_v, cells_agg, List.length_cons, List.length_nil, i64, cls_len, h1, List.length_cons, List.length_nil]; done))
  all_goals first | exact fit_ofL _ _ | exact ⟨_, rfl⟩ | exact .inr ⟨_, rfl⟩ | exact .inl rfl | omega | rfl | (show 0 + 1 + 1 ≤ 3; omega) | (simp; done) | fail

end Go.Proofs.Ytlamjfdghhbkpaa