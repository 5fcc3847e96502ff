/-
  Layer 18: what cells may be; copies; the same.
-/
import Derived.Test.YtlamjfdghhbkpaaT1
namespace Go.Proofs.Ytlamjfdghhbkpaa
open Go.RowKit
set_option linter.unusedSimpArgs false
set_option linter.unusedVariables false


def bl1 (cs : List Cl) (c : Cl) : Bool := !c.live && !linkB cs c.link
def bl2 (c : Cl) : Bool := (c.live && decide (c.link ≠ 0)) || (!c.live && decide (c.val ≠ 0))
def cntL (cs : List Cl) : Nat := cs.countP fun c => c.live
def chkF (cs : List Cl) (f u : Int) : Int :=
  if 64 < cs.length then 5 else if linkB cs f = false then 8 else if cs.any (bl1 cs) = true then 8 else if cs.any bl2 = true then 4 else if u ≠ (cntL cs : Nat) ∨ chF cs (cs.length - cntL cs) f = false then 10 else 0
theorem take_any {cs : List Cl} {k : Nat} (h : k < cs.length) (p : Cl → Bool) : (cs.take (k + 1)).any p = ((cs.take k).any p || p (cs.getD k c0)) := by
  rw [List.take_succ_eq_append_getElem h, List.any_append, List.getD_eq_getElem?_getD, List.getElem?_eq_getElem h]; simp
theorem any_at {cs : List Cl} {k : Nat} (h : k < cs.length) {p : Cl → Bool} (hp : p (cs.getD k c0) = true) : cs.any p = true := by
  rw [List.any_eq_true]; exact ⟨cs.getD k c0, by simp [List.getD, h], hp⟩
theorem take_cnt {cs : List Cl} {k : Nat} (h : k < cs.length) : cntL (cs.take (k + 1)) = cntL (cs.take k) + (if (cs.getD k c0).live then 1 else 0) := by
  unfold cntL
  rw [List.take_succ_eq_append_getElem h, List.countP_append, List.getD_eq_getElem?_getD, List.getElem?_eq_getElem h]
  simp [List.countP_cons]
theorem cnt_le (cs : List Cl) : cntL cs ≤ cs.length := List.countP_le_length
theorem links_of {cs : List Cl} (h : cs.any (bl1 cs) = false) : LinksOk cs := by
  intro i hi hl
  have : bl1 cs (cs.getD i c0) = false := by
    cases hb : bl1 cs (cs.getD i c0)
    · rfl
    · rw [any_at hi hb] at h; cases h
  simp only [bl1, hl, Bool.not_false, Bool.true_and, Bool.not_eq_false', linkB, decide_eq_true_eq] at this
  exact this
def leftG (n : Nat) : List D → Nat
  | .v (.int _ i) :: _ => n - i.toNat
  | _ => 0
def sameC (a b : List Cl) : Bool := decide (a = b)
theorem take_eqC {a b : List Cl} {k : Nat} (hk : k < a.length) (hl : a.length = b.length) (h : a.take k = b.take k) : a.take (k + 1) = b.take (k + 1) ↔ a.getD k c0 = b.getD k c0 := by
  rw [List.take_succ_eq_append_getElem hk, List.take_succ_eq_append_getElem (l := b) (by omega), h]
  have hk2 : k < b.length := by omega
  rw [List.append_right_inj]
  simp [List.getD, hk, hk2]
theorem cls_plain (l : List Cl) : ∀ c ∈ flat (cls l), ∃ y, c = .v y := by
  intro c hc
  induction l with
  | nil => simp [cls, flat] at hc
  | cons z l ih =>
    simp only [cls, List.map_cons, flat, List.flatMap_cons, clD, D.cells, List.mem_append, List.mem_cons, List.not_mem_nil, or_false] at hc ih
    rcases hc with (rfl | rfl | rfl) | hc
    · exact ⟨_, rfl⟩
    · exact ⟨_, rfl⟩
    · exact ⟨_, rfl⟩
    · exact ih hc

theorem vc_check (x : D) (cs : List Cl) (f u : Int) : Cond Try.prog (fun k => if k = 6 then some ⟨[20], [], [1, 18, 19], []⟩ else if k = 13 then some ⟨[38, 5], [], [1, 36, 37], []⟩ else none) Try.f19 [.agg [x, .v (.int .i64 f), .v (.int .i64 u)]] [.v (.int .i64 (chkF cs f u))] = (((∃ (cs : List D), D.agg [x, D.v (Value.int IntKind.i64 f), D.v (Value.int IntKind.i64 u)] = D.agg cs ∧ cs.length = 3) ∧ True) ∧ ∃ (r : D), D.lenT (TypeDesc.slice 62) x = some r ∧ ∃ (r_1 : D), D.bin BinOp.gtr r (D.v (Value.int IntKind.i64 64)) = some r_1 ∧ ∃ (b : Bool), r_1 = D.v (Value.bool b) ∧ (b = true → (True ∧ True) ∧ [D.v (Value.int IntKind.i64 5)] = [D.v (Value.int IntKind.i64 (chkF cs f u))]) ∧ (b = false → ∃ (r : D), PureD Try.prog 33 [D.agg [x, D.v (Value.int IntKind.i64 f), D.v (Value.int IntKind.i64 u)], D.v (Value.int IntKind.i64 f)] [r] ∧ fits [(false, [none])] [r] ∧ ∃ (r_2 : D), D.un UnOp.not r = some r_2 ∧ ∃ (b : Bool), r_2 = D.v (Value.bool b) ∧ (b = true → (True ∧ True) ∧ [D.v (Value.int IntKind.i64 8)] = [D.v (Value.int IntKind.i64 (chkF cs f u))]) ∧ (b = false → ∃ (r : D), D.lenT (TypeDesc.slice 62) x = some r ∧ ∃ (I : List D → Prop), ∃ (μ : List D → Nat), ((D.v (Value.int IntKind.i64 0) = D.v (Value.int IntKind.i64 0) ∧ (true = true ∧ true = true) ∧ x = x ∧ r = r ∧ True) ∧ ((x = x ∧ D.v (Value.int IntKind.i64 f) = D.v (Value.int IntKind.i64 f) ∧ D.v (Value.int IntKind.i64 u) = D.v (Value.int IntKind.i64 u) ∧ True) ∧ True) ∧ I [D.v (Value.int IntKind.i64 0)]) ∧ ∀ (r_3 : D), I [r_3] → ∃ (r_4 : D), D.bin BinOp.lss r_3 r = some r_4 ∧ ∃ (b : Bool), r_4 = D.v (Value.bool b) ∧ (b = true → D.inb 3 x r_3 ∧ 0 + 3 ≤ (x.at_ r_3).cells.length ∧ ∃ (r_5 : D), D.un UnOp.not ((x.at_ r_3).cell (0 + 0)) = some r_5 ∧ ∃ (b : Bool), r_5 = D.v (Value.bool b) ∧ (b = true → ∃ (r_6 : D), PureD Try.prog 33 [D.agg [x, D.v (Value.int IntKind.i64 f), D.v (Value.int IntKind.i64 u)], (x.at_ r_3).cell (0 + 2)] [r_6] ∧ fits [(false, [none])] [r_6] ∧ ∃ (r_7 : D), D.un UnOp.not r_6 = some r_7 ∧ ∃ (b : Bool), r_7 = D.v (Value.bool b) ∧ (b = true → (True ∧ True) ∧ [D.v (Value.int IntKind.i64 8)] = [D.v (Value.int IntKind.i64 (chkF cs f u))]) ∧ (b = false → ∃ (r_8 : D), D.bin BinOp.add r_3 (D.v (Value.int IntKind.i64 1)) = some r_8 ∧ (r_8 = r_8 ∧ (true = true ∧ true = true) ∧ x = x ∧ r = r ∧ True) ∧ ((x = x ∧ D.v (Value.int IntKind.i64 f) = D.v (Value.int IntKind.i64 f) ∧ D.v (Value.int IntKind.i64 u) = D.v (Value.int IntKind.i64 u) ∧ True) ∧ True) ∧ I [r_8] ∧ μ [r_8] < μ [r_3])) ∧ (b = false → ∃ (r_6 : D), D.bin BinOp.add r_3 (D.v (Value.int IntKind.i64 1)) = some r_6 ∧ (r_6 = r_6 ∧ (true = true ∧ true = true) ∧ x = x ∧ r = r ∧ True) ∧ ((x = x ∧ D.v (Value.int IntKind.i64 f) = D.v (Value.int IntKind.i64 f) ∧ D.v (Value.int IntKind.i64 u) = D.v (Value.int IntKind.i64 u) ∧ True) ∧ True) ∧ I [r_6] ∧ μ [r_6] < μ [r_3])) ∧ (b = false → ∃ (r : D), D.lenT (TypeDesc.slice 62) x = some r ∧ ∃ (I : List D → Prop), ∃ (μ : List D → Nat), ((D.v (Value.int IntKind.i64 0) = D.v (Value.int IntKind.i64 0) ∧ D.v (Value.int IntKind.i64 0) = D.v (Value.int IntKind.i64 0) ∧ (true = true ∧ true = true) ∧ x = x ∧ r = r ∧ True) ∧ ((x = x ∧ D.v (Value.int IntKind.i64 f) = D.v (Value.int IntKind.i64 f) ∧ D.v (Value.int IntKind.i64 u) = D.v (Value.int IntKind.i64 u) ∧ True) ∧ True) ∧ I [D.v (Value.int IntKind.i64 0), D.v (Value.int IntKind.i64 0)]) ∧ ∀ (r_5 r_6 : D), I [r_5, r_6] → ∃ (r_7 : D), D.bin BinOp.lss r_5 r = some r_7 ∧ ∃ (b : Bool), r_7 = D.v (Value.bool b) ∧ (b = true → D.inb 3 x r_5 ∧ 0 + 3 ≤ (x.at_ r_5).cells.length ∧ ∃ (b : Bool), (x.at_ r_5).cell (0 + 0) = D.v (Value.bool b) ∧ (b = true → ∃ (r_8 : D), D.bin BinOp.neq ((x.at_ r_5).cell (0 + 2)) (D.v (Value.int IntKind.i64 0)) = some r_8 ∧ ∃ (b : Bool), r_8 = D.v (Value.bool b) ∧ (b = false → ∃ (r_9 : D), D.un UnOp.not ((x.at_ r_5).cell (0 + 0)) = some r_9 ∧ ∃ (b : Bool), r_9 = D.v (Value.bool b) ∧ (b = true → ∃ (r_10 : D), D.bin BinOp.neq ((x.at_ r_5).cell (0 + 1)) (D.v (Value.int IntKind.i64 0)) = some r_10 ∧ ∃ (b : Bool), r_10 = D.v (Value.bool b) ∧ (b = true → (True ∧ True) ∧ [D.v (Value.int IntKind.i64 4)] = [D.v (Value.int IntKind.i64 (chkF cs f u))]) ∧ (b = false → ∃ (b : Bool), (x.at_ r_5).cell (0 + 0) = D.v (Value.bool b) ∧ (b = true → ∃ (r_11 : D), D.bin BinOp.add r_6 (D.v (Value.int IntKind.i64 1)) = some r_11 ∧ ∃ (r_12 : D), D.bin BinOp.add r_5 (D.v (Value.int IntKind.i64 1)) = some r_12 ∧ (r_12 = r_12 ∧ r_11 = r_11 ∧ (true = true ∧ true = true) ∧ x = x ∧ r = r ∧ True) ∧ ((x = x ∧ D.v (Value.int IntKind.i64 f) = D.v (Value.int IntKind.i64 f) ∧ D.v (Value.int IntKind.i64 u) = D.v (Value.int IntKind.i64 u) ∧ True) ∧ True) ∧ I [r_12, r_11] ∧ μ [r_12, r_11] < μ [r_5, r_6]) ∧ (b = false → ∃ (r_11 : D), D.bin BinOp.add r_5 (D.v (Value.int IntKind.i64 1)) = some r_11 ∧ (r_11 = r_11 ∧ r_6 = r_6 ∧ (true = true ∧ true = true) ∧ x = x ∧ r = r ∧ True) ∧ ((x = x ∧ D.v (Value.int IntKind.i64 f) = D.v (Value.int IntKind.i64 f) ∧ D.v (Value.int IntKind.i64 u) = D.v (Value.int IntKind.i64 u) ∧ True) ∧ True) ∧ I [r_11, r_6] ∧ μ [r_11, r_6] < μ [r_5, r_6]))) ∧ (b = false → ∃ (b : Bool), (x.at_ r_5).cell (0 + 0) = D.v (Value.bool b) ∧ (b = true → ∃ (r_10 : D), D.bin BinOp.add r_6 (D.v (Value.int IntKind.i64 1)) = some r_10 ∧ ∃ (r_11 : D), D.bin BinOp.add r_5 (D.v (Value.int IntKind.i64 1)) = some r_11 ∧ (r_11 = r_11 ∧ r_10 = r_10 ∧ (true = true ∧ true = true) ∧ x = x ∧ r = r ∧ True) ∧ ((x = x ∧ D.v (Value.int IntKind.i64 f) = D.v (Value.int IntKind.i64 f) ∧ D.v (Value.int IntKind.i64 u) = D.v (Value.int IntKind.i64 u) ∧ True) ∧ True) ∧ I [r_11, r_10] ∧ μ [r_11, r_10] < μ [r_5, r_6]) ∧ (b = false → ∃ (r_10 : D), D.bin BinOp.add r_5 (D.v (Value.int IntKind.i64 1)) = some r_10 ∧ (r_10 = r_10 ∧ r_6 = r_6 ∧ (true = true ∧ true = true) ∧ x = x ∧ r = r ∧ True) ∧ ((x = x ∧ D.v (Value.int IntKind.i64 f) = D.v (Value.int IntKind.i64 f) ∧ D.v (Value.int IntKind.i64 u) = D.v (Value.int IntKind.i64 u) ∧ True) ∧ True) ∧ I [r_10, r_6] ∧ μ [r_10, r_6] < μ [r_5, r_6]))) ∧ (b = true → (True ∧ True) ∧ [D.v (Value.int IntKind.i64 4)] = [D.v (Value.int IntKind.i64 (chkF cs f u))])) ∧ (b = false → ∃ (r_8 : D), D.un UnOp.not ((x.at_ r_5).cell (0 + 0)) = some r_8 ∧ ∃ (b : Bool), r_8 = D.v (Value.bool b) ∧ (b = true → ∃ (r_9 : D), D.bin BinOp.neq ((x.at_ r_5).cell (0 + 1)) (D.v (Value.int IntKind.i64 0)) = some r_9 ∧ ∃ (b : Bool), r_9 = D.v (Value.bool b) ∧ (b = true → (True ∧ True) ∧ [D.v (Value.int IntKind.i64 4)] = [D.v (Value.int IntKind.i64 (chkF cs f u))]) ∧ (b = false → ∃ (b : Bool), (x.at_ r_5).cell (0 + 0) = D.v (Value.bool b) ∧ (b = true → ∃ (r_10 : D), D.bin BinOp.add r_6 (D.v (Value.int IntKind.i64 1)) = some r_10 ∧ ∃ (r_11 : D), D.bin BinOp.add r_5 (D.v (Value.int IntKind.i64 1)) = some r_11 ∧ (r_11 = r_11 ∧ r_10 = r_10 ∧ (true = true ∧ true = true) ∧ x = x ∧ r = r ∧ True) ∧ ((x = x ∧ D.v (Value.int IntKind.i64 f) = D.v (Value.int IntKind.i64 f) ∧ D.v (Value.int IntKind.i64 u) = D.v (Value.int IntKind.i64 u) ∧ True) ∧ True) ∧ I [r_11, r_10] ∧ μ [r_11, r_10] < μ [r_5, r_6]) ∧ (b = false → ∃ (r_10 : D), D.bin BinOp.add r_5 (D.v (Value.int IntKind.i64 1)) = some r_10 ∧ (r_10 = r_10 ∧ r_6 = r_6 ∧ (true = true ∧ true = true) ∧ x = x ∧ r = r ∧ True) ∧ ((x = x ∧ D.v (Value.int IntKind.i64 f) = D.v (Value.int IntKind.i64 f) ∧ D.v (Value.int IntKind.i64 u) = D.v (Value.int IntKind.i64 u) ∧ True) ∧ True) ∧ I [r_10, r_6] ∧ μ [r_10, r_6] < μ [r_5, r_6]))) ∧ (b = false → ∃ (b : Bool), (x.at_ r_5).cell (0 + 0) = D.v (Value.bool b) ∧ (b = true → ∃ (r_9 : D), D.bin BinOp.add r_6 (D.v (Value.int IntKind.i64 1)) = some r_9 ∧ ∃ (r_10 : D), D.bin BinOp.add r_5 (D.v (Value.int IntKind.i64 1)) = some r_10 ∧ (r_10 = r_10 ∧ r_9 = r_9 ∧ (true = true ∧ true = true) ∧ x = x ∧ r = r ∧ True) ∧ ((x = x ∧ D.v (Value.int IntKind.i64 f) = D.v (Value.int IntKind.i64 f) ∧ D.v (Value.int IntKind.i64 u) = D.v (Value.int IntKind.i64 u) ∧ True) ∧ True) ∧ I [r_10, r_9] ∧ μ [r_10, r_9] < μ [r_5, r_6]) ∧ (b = false → ∃ (r_9 : D), D.bin BinOp.add r_5 (D.v (Value.int IntKind.i64 1)) = some r_9 ∧ (r_9 = r_9 ∧ r_6 = r_6 ∧ (true = true ∧ true = true) ∧ x = x ∧ r = r ∧ True) ∧ ((x = x ∧ D.v (Value.int IntKind.i64 f) = D.v (Value.int IntKind.i64 f) ∧ D.v (Value.int IntKind.i64 u) = D.v (Value.int IntKind.i64 u) ∧ True) ∧ True) ∧ I [r_9, r_6] ∧ μ [r_9, r_6] < μ [r_5, r_6])))) ∧ (b = false → ∃ (r : D), D.bin BinOp.neq (D.v (Value.int IntKind.i64 u)) r_6 = some r ∧ ∃ (b : Bool), r = D.v (Value.bool b) ∧ (b = false → ∃ (r : D), D.lenT (TypeDesc.slice 62) x = some r ∧ ∃ (r_8 : D), D.bin BinOp.sub r r_6 = some r_8 ∧ ∃ (r : D), PureD Try.prog 34 [D.agg [x, D.v (Value.int IntKind.i64 f), D.v (Value.int IntKind.i64 u)], r_8] [r] ∧ fits [(false, [none])] [r] ∧ ∃ (r_9 : D), D.un UnOp.not r = some r_9 ∧ ∃ (b : Bool), r_9 = D.v (Value.bool b) ∧ (b = true → (True ∧ True) ∧ [D.v (Value.int IntKind.i64 10)] = [D.v (Value.int IntKind.i64 (chkF cs f u))]) ∧ (b = false → (True ∧ True) ∧ [D.v (Value.int IntKind.i64 0)] = [D.v (Value.int IntKind.i64 (chkF cs f u))])) ∧ (b = true → (True ∧ True) ∧ [D.v (Value.int IntKind.i64 10)] = [D.v (Value.int IntKind.i64 (chkF cs f u))])))))) := by kernel_rfl
set_option maxHeartbeats 8000000 in
theorem check (x : D) (cs : List Cl) (f u : Int) (hX : IsL 3 (cls cs) x) (hl : cs.length ≤ 100000) : PureD Try.prog 19 [.agg [x, .v (.int .i64 f), .v (.int .i64 u)]] [.v (.int .i64 (chkF cs f u))] := by
  refine pure_cond (Lp := (fun k => if k = 6 then some ⟨[20], [], [1, 18, 19], []⟩ else if k = 13 then some ⟨[38, 5], [], [1, 36, 37], []⟩ else none)) (by kernel_rfl) Try.func19 (by kernel_rfl) (by kernel_rfl) ?_
  rw [vc_check x cs f u]
  have hLF := links x cs f u f hX hl
  simp only [hX.lenT, cls_len, Option.some.injEq, exists_eq_left']
  have h1 : True := trivial
  by_cases h64 : 64 < cs.length
  · have hk0 : chkF cs f u = 5 := by unfold chkF; rw [if_pos h64]
    rw [hk0]
    repeat' (first
      | (refine ex_some (by simp (disch := omega) only [bin_shr, bin_shl, bin_and, bin_or, bin_xor, len_str, toStr_ofL, bin_add, bin_sub, bin_mul, bin_quo, bin_rem, bin_lss, bin_leq, bin_gtr, bin_geq, bin_eql, bin_neq, eqs_cn, eqs_ci, eqs_cb, eqs_cs, Option.map_some, lenT_ofL, lst_ofL, lstSz_ofL, chunk_one, lst_nil, lst_sl, lstSz_sl, lstSz_nil, Bool.and_true, Bool.true_and, Bool.and_false, Bool.false_and, beq_self_eq_true, beq_bb, bne_bb, un_not, un_neg, conv_int, min2_int, max2_int, w64, w32, wu8, wu16, wu32, wu64, tdiv_nn, tmod_nn, cell_zero, cell_succ, cell_v, cells_v, cells_agg, Bool.not_true, Bool.not_false, Int.reduceLT, Int.reduceLE, Int.reduceEq, Int.reduceNeg, Int.reduceAdd, Int.reduceSub, Int.reduceMul, intOf_v, decide_true, decide_false]; rfl) ?_)
      | (refine ex_bool ?_)
      | (refine ⟨_, hLF, ?_⟩)
      | (refine And.intro ?_ ?_)
      | (intro hx; have hprop := (show ∀ (p : Prop), p → True from fun _ _ => True.intro) _ hx; clear hprop; first | (cases hx; done) | (exfalso; revert hx; simp (disch := omega) only [decide_eq_true_eq, decide_eq_false_iff_not, Bool.not_eq_true', Bool.not_eq_false', Bool.and_eq_true, Bool.and_eq_false_iff, Int.not_lt, Int.not_le, ne_eq, not_false_eq_true, not_true_eq_false, reduceCtorEq, Bool.true_eq_false, Bool.false_eq_true, beq_iff_eq, bne_iff_ne, beq_eq_false_iff_ne, false_or, or_false, true_and, and_true]; done) | (simp (disch := omega) only [decide_eq_true_eq, decide_eq_false_iff_not, Bool.not_eq_true', Bool.not_eq_false', Bool.and_eq_true, Bool.and_eq_false_iff, Int.not_lt, Int.not_le, ne_eq, not_false_eq_true, not_true_eq_false, reduceCtorEq, Bool.true_eq_false, Bool.false_eq_true, beq_iff_eq, bne_iff_ne, beq_eq_false_iff_ne, false_or, or_false, true_and, and_true] at hx; first | (exfalso; omega) | skip) | skip)
      | trivial
      | exact fit_ofL _ _
      | (simp (disch := omega) only [notAgg_v, notAgg_sl, plain_v, fits, fitsOne, fitsCells, xsOf, cell_zero, cell_succ, List.range, List.range.loop, List.map, cond_true, cond_false, D.v.injEq, exists_eq', exists_eq, and_self, and_true, true_and, D.agg.injEq, List.length, exists_eq_left', D.sl.injEq, reduceCtorEq, false_or, true_or, or_true, or_false, cell_zero, cell_succ, cell_v, cells_v, cells_agg, List.length_cons, List.length_nil]; done))
    all_goals first
      | (exfalso; omega)
      | exact fit_ofL _ _
      | omega
      | (simp only [leftG]; omega)
      | (rw [hc4 (hat (by simp_all [bl1]))]; done)
      | (rw [hc5 hA (hbt (by simp_all [bl2]))]; done)
      | (rw [hc6 hA hB (by first | (left; omega) | (right; assumption))]; done)
      | (rw [hc7 hA hB (by omega) (by assumption)]; done)
      | (simp_all [chkF, bl1, bl2]; done)
      | (simp_all [chkF, bl1, bl2]; omega)
      | fail
  · cases hf : linkB cs f
    · have hk0 : chkF cs f u = 8 := by unfold chkF; rw [if_neg h64, if_pos hf]
      rw [hf] at hLF
      rw [hk0]
      repeat' (first
        | (refine ex_some (by simp (disch := omega) only [bin_shr, bin_shl, bin_and, bin_or, bin_xor, len_str, toStr_ofL, bin_add, bin_sub, bin_mul, bin_quo, bin_rem, bin_lss, bin_leq, bin_gtr, bin_geq, bin_eql, bin_neq, eqs_cn, eqs_ci, eqs_cb, eqs_cs, Option.map_some, lenT_ofL, lst_ofL, lstSz_ofL, chunk_one, lst_nil, lst_sl, lstSz_sl, lstSz_nil, Bool.and_true, Bool.true_and, Bool.and_false, Bool.false_and, beq_self_eq_true, beq_bb, bne_bb, un_not, un_neg, conv_int, min2_int, max2_int, w64, w32, wu8, wu16, wu32, wu64, tdiv_nn, tmod_nn, cell_zero, cell_succ, cell_v, cells_v, cells_agg, Bool.not_true, Bool.not_false, Int.reduceLT, Int.reduceLE, Int.reduceEq, Int.reduceNeg, Int.reduceAdd, Int.reduceSub, Int.reduceMul, intOf_v, decide_true, decide_false]; rfl) ?_)
        | (refine ex_bool ?_)
        | (refine ⟨_, hLF, ?_⟩)
        | (refine And.intro ?_ ?_)
        | (intro hx; have hprop := (show ∀ (p : Prop), p → True from fun _ _ => True.intro) _ hx; clear hprop; first | (cases hx; done) | (exfalso; revert hx; simp (disch := omega) only [decide_eq_true_eq, decide_eq_false_iff_not, Bool.not_eq_true', Bool.not_eq_false', Bool.and_eq_true, Bool.and_eq_false_iff, Int.not_lt, Int.not_le, ne_eq, not_false_eq_true, not_true_eq_false, reduceCtorEq, Bool.true_eq_false, Bool.false_eq_true, beq_iff_eq, bne_iff_ne, beq_eq_false_iff_ne, false_or, or_false, true_and, and_true]; done) | (simp (disch := omega) only [decide_eq_true_eq, decide_eq_false_iff_not, Bool.not_eq_true', Bool.not_eq_false', Bool.and_eq_true, Bool.and_eq_false_iff, Int.not_lt, Int.not_le, ne_eq, not_false_eq_true, not_true_eq_false, reduceCtorEq, Bool.true_eq_false, Bool.false_eq_true, beq_iff_eq, bne_iff_ne, beq_eq_false_iff_ne, false_or, or_false, true_and, and_true] at hx; first | (exfalso; omega) | skip) | skip)
        | trivial
        | exact fit_ofL _ _
        | (simp (disch := omega) only [notAgg_v, notAgg_sl, plain_v, fits, fitsOne, fitsCells, xsOf, cell_zero, cell_succ, List.range, List.range.loop, List.map, cond_true, cond_false, D.v.injEq, exists_eq', exists_eq, and_self, and_true, true_and, D.agg.injEq, List.length, exists_eq_left', D.sl.injEq, reduceCtorEq, false_or, true_or, or_true, or_false, cell_zero, cell_succ, cell_v, cells_v, cells_agg, List.length_cons, List.length_nil]; done))
      all_goals first
        | (exfalso; omega)
        | exact fit_ofL _ _
        | omega
        | (simp only [leftG]; omega)
        | (rw [hc4 (hat (by simp_all [bl1]))]; done)
        | (rw [hc5 hA (hbt (by simp_all [bl2]))]; done)
        | (rw [hc6 hA hB (by first | (left; omega) | (right; assumption))]; done)
        | (rw [hc7 hA hB (by omega) (by assumption)]; done)
        | (simp_all [chkF, bl1, bl2]; done)
        | (simp_all [chkF, bl1, bl2]; omega)
        | fail
    · rw [hf] at hLF
      have hc4 : cs.any (bl1 cs) = true → chkF cs f u = 8 := fun h => by unfold chkF; rw [if_neg h64, if_neg (by rw [hf]; simp), if_pos h]
      have hc5 : cs.any (bl1 cs) = false → cs.any bl2 = true → chkF cs f u = 4 := fun h h2 => by unfold chkF; rw [if_neg h64, if_neg (by rw [hf]; simp), if_neg (by rw [h]; simp), if_pos h2]
      have hc6 : cs.any (bl1 cs) = false → cs.any bl2 = false → (u ≠ (cntL cs : Nat) ∨ chF cs (cs.length - cntL cs) f = false) → chkF cs f u = 10 := fun h h2 h3 => by unfold chkF; rw [if_neg h64, if_neg (by rw [hf]; simp), if_neg (by rw [h]; simp), if_neg (by rw [h2]; simp), if_pos h3]
      have hc7 : cs.any (bl1 cs) = false → cs.any bl2 = false → u = (cntL cs : Nat) → chF cs (cs.length - cntL cs) f = true → chkF cs f u = 0 := fun h h2 h3 h4 => by unfold chkF; rw [if_neg h64, if_neg (by rw [hf]; simp), if_neg (by rw [h]; simp), if_neg (by rw [h2]; simp), if_neg (by rw [h4]; simp [h3])]
      repeat' (first
        | (refine ex_some (by simp (disch := omega) only [bin_shr, bin_shl, bin_and, bin_or, bin_xor, len_str, toStr_ofL, bin_add, bin_sub, bin_mul, bin_quo, bin_rem, bin_lss, bin_leq, bin_gtr, bin_geq, bin_eql, bin_neq, eqs_cn, eqs_ci, eqs_cb, eqs_cs, Option.map_some, lenT_ofL, lst_ofL, lstSz_ofL, chunk_one, lst_nil, lst_sl, lstSz_sl, lstSz_nil, Bool.and_true, Bool.true_and, Bool.and_false, Bool.false_and, beq_self_eq_true, beq_bb, bne_bb, un_not, un_neg, conv_int, min2_int, max2_int, w64, w32, wu8, wu16, wu32, wu64, tdiv_nn, tmod_nn, cell_zero, cell_succ, cell_v, cells_v, cells_agg, Bool.not_true, Bool.not_false, Int.reduceLT, Int.reduceLE, Int.reduceEq, Int.reduceNeg, Int.reduceAdd, Int.reduceSub, Int.reduceMul, intOf_v, decide_true, decide_false, h1]; rfl) ?_)
        | (refine ex_bool ?_)
        | (refine ⟨_, hLF, ?_⟩)
        | (refine ⟨_, LK, ?_⟩)
        | (refine ⟨_, CH, ?_⟩)
        | (have := out1; refine ⟨(fun r => ∃ k : Nat, k ≤ cs.length ∧ (cs.take k).any bl2 = false ∧ r = [.v (.int .i64 (k : Nat)), .v (.int .i64 (cntL (cs.take k) : Nat))]), leftG cs.length, ?_⟩)
        | (have := out1; refine fun (r2 r3 : D) (hI : (fun r => ∃ k : Nat, k ≤ cs.length ∧ (cs.take k).any bl2 = false ∧ r = [.v (.int .i64 (k : Nat)), .v (.int .i64 (cntL (cs.take k) : Nat))]) [r2, r3]) => ?_; obtain ⟨k, hk, hB, hl0⟩ := hI; simp only [List.cons.injEq, and_true] at hl0; obtain ⟨rfl, rfl⟩ := hl0; by_cases hlt : k < cs.length <;> first | (have hin2 := out1; have hk1 : k < cs.length := (by omega); have h1 := cls_at hX (z := (k : Nat)) (by omega) (by omega); rw [Int.toNat_natCast] at h1; have i1 := cls_inb hX (z := (k : Nat)) (by omega) (by omega); have htb := take_any hk1 bl2; have hbt := any_at hk1 (p := bl2); have htc := take_cnt hk1; have hcl := cnt_le (cs.take k); rw [List.length_take] at hcl; generalize cs.getD k c0 = c at h1 htb hbt htc; obtain ⟨lv, vl, lk⟩ := c; simp only [clD] at h1; simp only [h1, Nat.zero_add, cell_zero, cell_succ, cells_agg, List.length_cons, List.length_nil]; have inl2 : True := trivial) | (have hin2 := out1; have hkk : k = cs.length := (by omega); subst hkk; rw [List.take_length] at hB; rw [List.take_length]; have hcl := cnt_le cs; have CH := chained x cs f u (cs.length - cntL cs) hX hl hlo (by simpa [linkB] using hf) (by omega); rw [show (((cs.length - cntL cs : Nat)) : Int) = (cs.length : Nat) - (cntL cs : Nat) by omega] at CH; have h1 : True := trivial; have out2 : True := trivial))
        | (refine ⟨(fun r => ∃ k : Nat, k ≤ cs.length ∧ (cs.take k).any (bl1 cs) = false ∧ r = [.v (.int .i64 (k : Nat))]), leftG cs.length, ?_⟩)
        | (refine fun (r2 : D) (hI : (fun r => ∃ k : Nat, k ≤ cs.length ∧ (cs.take k).any (bl1 cs) = false ∧ r = [.v (.int .i64 (k : Nat))]) [r2]) => ?_; obtain ⟨k, hk, hA, hl0⟩ := hI; simp only [List.cons.injEq, and_true] at hl0; subst hl0; by_cases hlt : k < cs.length <;> first | (have hk1 : k < cs.length := (by omega); have h1 := cls_at hX (z := (k : Nat)) (by omega) (by omega); rw [Int.toNat_natCast] at h1; have i1 := cls_inb hX (z := (k : Nat)) (by omega) (by omega); have hta := take_any hk1 (bl1 cs); have hat := any_at hk1 (p := bl1 cs); have LK := links x cs f u (cs.getD k c0).link hX hl; generalize cs.getD k c0 = c at h1 hta hat LK; obtain ⟨lv, vl, lk⟩ := c; simp only [clD] at h1; simp only at LK; simp only [h1, Nat.zero_add, cell_zero, cell_succ, cells_agg, List.length_cons, List.length_nil]; have inl : True := trivial) | (have hkk : k = cs.length := (by omega); subst hkk; rw [List.take_length] at hA; have hlo := links_of hA; have h1 : True := trivial; have out1 : True := trivial))
        | (exact i1)
        | (have := inl; refine ⟨(k + 1 : Nat), by omega, ?_, ?_⟩)
        | (have := inl2; refine ⟨(k + 1 : Nat), by omega, ?_, ?_⟩)
        | (refine ⟨(0 : Nat), Nat.zero_le _, rfl, rfl⟩)
        | (refine And.intro ?_ ?_)
        | (intro hx; have hprop := (show ∀ (p : Prop), p → True from fun _ _ => True.intro) _ hx; clear hprop; first | (cases hx; done) | (exfalso; revert hx; simp (disch := omega) only [decide_eq_true_eq, decide_eq_false_iff_not, Bool.not_eq_true', Bool.not_eq_false', Bool.and_eq_true, Bool.and_eq_false_iff, Int.not_lt, Int.not_le, ne_eq, not_false_eq_true, not_true_eq_false, reduceCtorEq, Bool.true_eq_false, Bool.false_eq_true, beq_iff_eq, bne_iff_ne, beq_eq_false_iff_ne, false_or, or_false, true_and, and_true, h1]; done) | (simp (disch := omega) only [decide_eq_true_eq, decide_eq_false_iff_not, Bool.not_eq_true', Bool.not_eq_false', Bool.and_eq_true, Bool.and_eq_false_iff, Int.not_lt, Int.not_le, ne_eq, not_false_eq_true, not_true_eq_false, reduceCtorEq, Bool.true_eq_false, Bool.false_eq_true, beq_iff_eq, bne_iff_ne, beq_eq_false_iff_ne, false_or, or_false, true_and, and_true, h1] at hx; first | (exfalso; omega) | skip) | skip)
        | trivial
        | exact fit_ofL _ _
        | (simp (disch := omega) only [notAgg_v, notAgg_sl, plain_v, fits, fitsOne, fitsCells, xsOf, cell_zero, cell_succ, List.range, List.range.loop, List.map, cond_true, cond_false, D.v.injEq, exists_eq', exists_eq, and_self, and_true, true_and, D.agg.injEq, List.length, exists_eq_left', D.sl.injEq, reduceCtorEq, false_or, true_or, or_true, or_false, cell_zero, cell_succ, cell_v, cells_v, cells_agg, List.length_cons, List.length_nil, h1]; done))
      all_goals first
        | (exfalso; omega)
        | exact fit_ofL _ _
        | omega
        | (simp only [leftG]; omega)
        | (rw [hc4 (hat (by simp_all [bl1]))]; done)
        | (rw [hc5 hA (hbt (by simp_all [bl2]))]; done)
        | (rw [hc6 hA hB (by first | (left; omega) | (right; assumption))]; done)
        | (rw [hc7 hA hB (by omega) (by assumption)]; done)
        | (simp_all [chkF, bl1, bl2]; done)
        | (simp_all [chkF, bl1, bl2]; omega)
        | fail

theorem vc_clone (x : D) (cs : List Cl) : Cond Try.prog (fun _ => none) Try.f39 [x] [x] = ((NotAgg x ∧ True) ∧ ∃ (r : Bool), x.isNil = some r ∧ ∃ (b : Bool), D.v (Value.bool r) = D.v (Value.bool b) ∧ (b = true → (PlainD (D.v nilS) ∧ True) ∧ [D.v nilS] = [x]) ∧ (b = false → ∃ (ls : List D), (D.sl 3 (chunks true 3 0 [])).lst = some ls ∧ ∃ (lx : List D), D.lstSz 3 x = some lx ∧ (ls.length + lx.length) * 24 ≤ 1099511627776 ∧ (PlainD (D.app 3 (D.sl 3 (chunks true 3 0 [])) lx) ∧ True) ∧ [D.app 3 (D.sl 3 (chunks true 3 0 [])) lx] = [x])) := by kernel_rfl
theorem clone (x : D) (cs : List Cl) (hX : IsL 3 (cls cs) x) (hl : cs.length ≤ 100000) : PureD Try.prog 39 [x] [x] := by
  refine pure_cond (Lp := (fun _ => none)) (by kernel_rfl) Try.func39 (by kernel_rfl) (by kernel_rfl) ?_
  rw [vc_clone x cs]
  rcases hX with rfl | ⟨rfl, h0⟩
  · repeat' (first
      | (refine ex_some (by simp (disch := omega) only [bin_shr, bin_shl, bin_and, bin_or, bin_xor, len_str, toStr_ofL, bin_add, bin_sub, bin_mul, bin_quo, bin_rem, bin_lss, bin_leq, bin_gtr, bin_geq, bin_eql, bin_neq, eqs_cn, eqs_ci, eqs_cb, eqs_cs, Option.map_some, lenT_ofL, lst_ofL, lstSz_ofL, chunk_one, lst_nil, lst_sl, lstSz_sl, lstSz_nil, Bool.and_true, Bool.true_and, Bool.and_false, Bool.false_and, beq_self_eq_true, beq_bb, bne_bb, un_not, un_neg, conv_int, min2_int, max2_int, w64, w32, wu8, wu16, wu32, wu64, tdiv_nn, tmod_nn, cell_zero, cell_succ, cell_v, cells_v, cells_agg, Bool.not_true, Bool.not_false, Int.reduceLT, Int.reduceLE, Int.reduceEq, Int.reduceNeg, Int.reduceAdd, Int.reduceSub, Int.reduceMul, intOf_v, decide_true, decide_false]; rfl) ?_)
      | (refine ex_bool ?_)
      | (refine ex_some rfl ?_)
      | (refine And.intro ?_ ?_)
      | (intro hx; have hprop := (show ∀ (p : Prop), p → True from fun _ _ => True.intro) _ hx; clear hprop; first | (cases hx; done) | (exfalso; revert hx; simp (disch := omega) only [decide_eq_true_eq, decide_eq_false_iff_not, Bool.not_eq_true', Bool.not_eq_false', Bool.and_eq_true, Bool.and_eq_false_iff, Int.not_lt, Int.not_le, ne_eq, not_false_eq_true, not_true_eq_false, reduceCtorEq, Bool.true_eq_false, Bool.false_eq_true, beq_iff_eq, bne_iff_ne, beq_eq_false_iff_ne, false_or, or_false, true_and, and_true]; done) | (simp (disch := omega) only [decide_eq_true_eq, decide_eq_false_iff_not, Bool.not_eq_true', Bool.not_eq_false', Bool.and_eq_true, Bool.and_eq_false_iff, Int.not_lt, Int.not_le, ne_eq, not_false_eq_true, not_true_eq_false, reduceCtorEq, Bool.true_eq_false, Bool.false_eq_true, beq_iff_eq, bne_iff_ne, beq_eq_false_iff_ne, false_or, or_false, true_and, and_true] at hx; first | (exfalso; omega) | skip) | skip)
      | trivial
      | exact fit_ofL _ _
      | (simp (disch := omega) only [notAgg_v, notAgg_sl, plain_v, fits, fitsOne, fitsCells, xsOf, cell_zero, cell_succ, List.range, List.range.loop, List.map, cond_true, cond_false, D.v.injEq, exists_eq', exists_eq, and_self, and_true, true_and, D.agg.injEq, List.length, exists_eq_left', D.sl.injEq, reduceCtorEq, false_or, true_or, or_true, or_false, cell_zero, cell_succ, cell_v, cells_v, cells_agg, List.length_cons, List.length_nil]; done))
    all_goals first
      | (exfalso; omega)
      | exact fit_ofL _ _
      | omega
      | exact plain_sl (cls_plain _)
      | exact .inr ⟨_, rfl⟩
      | (rw [cls_len]; show (0 + cs.length) * 24 ≤ _; omega)
      | rfl
      | (simp only [leftG]; omega)
      | (rw [hc4 (hat (by simp_all [bl1]))]; done)
      | (rw [hc5 hA (hbt (by simp_all [bl2]))]; done)
      | (rw [hc6 hA hB (by first | (left; omega) | (right; assumption))]; done)
      | (rw [hc7 hA hB (by omega) (by assumption)]; done)
      | (simp_all [chkF, bl1, bl2]; done)
      | (simp_all [chkF, bl1, bl2]; omega)
      | fail
  · repeat' (first
      | (refine ex_some (by simp (disch := omega) only [bin_shr, bin_shl, bin_and, bin_or, bin_xor, len_str, toStr_ofL, bin_add, bin_sub, bin_mul, bin_quo, bin_rem, bin_lss, bin_leq, bin_gtr, bin_geq, bin_eql, bin_neq, eqs_cn, eqs_ci, eqs_cb, eqs_cs, Option.map_some, lenT_ofL, lst_ofL, lstSz_ofL, chunk_one, lst_nil, lst_sl, lstSz_sl, lstSz_nil, Bool.and_true, Bool.true_and, Bool.and_false, Bool.false_and, beq_self_eq_true, beq_bb, bne_bb, un_not, un_neg, conv_int, min2_int, max2_int, w64, w32, wu8, wu16, wu32, wu64, tdiv_nn, tmod_nn, cell_zero, cell_succ, cell_v, cells_v, cells_agg, Bool.not_true, Bool.not_false, Int.reduceLT, Int.reduceLE, Int.reduceEq, Int.reduceNeg, Int.reduceAdd, Int.reduceSub, Int.reduceMul, intOf_v, decide_true, decide_false]; rfl) ?_)
      | (refine ex_bool ?_)
      | (refine ex_some rfl ?_)
      | (refine And.intro ?_ ?_)
      | (intro hx; have hprop := (show ∀ (p : Prop), p → True from fun _ _ => True.intro) _ hx; clear hprop; first | (cases hx; done) | (exfalso; revert hx; simp (disch := omega) only [decide_eq_true_eq, decide_eq_false_iff_not, Bool.not_eq_true', Bool.not_eq_false', Bool.and_eq_true, Bool.and_eq_false_iff, Int.not_lt, Int.not_le, ne_eq, not_false_eq_true, not_true_eq_false, reduceCtorEq, Bool.true_eq_false, Bool.false_eq_true, beq_iff_eq, bne_iff_ne, beq_eq_false_iff_ne, false_or, or_false, true_and, and_true]; done) | (simp (disch := omega) only [decide_eq_true_eq, decide_eq_false_iff_not, Bool.not_eq_true', Bool.not_eq_false', Bool.and_eq_true, Bool.and_eq_false_iff, Int.not_lt, Int.not_le, ne_eq, not_false_eq_true, not_true_eq_false, reduceCtorEq, Bool.true_eq_false, Bool.false_eq_true, beq_iff_eq, bne_iff_ne, beq_eq_false_iff_ne, false_or, or_false, true_and, and_true] at hx; first | (exfalso; omega) | skip) | skip)
      | trivial
      | exact fit_ofL _ _
      | (simp (disch := omega) only [notAgg_v, notAgg_sl, plain_v, fits, fitsOne, fitsCells, xsOf, cell_zero, cell_succ, List.range, List.range.loop, List.map, cond_true, cond_false, D.v.injEq, exists_eq', exists_eq, and_self, and_true, true_and, D.agg.injEq, List.length, exists_eq_left', D.sl.injEq, reduceCtorEq, false_or, true_or, or_true, or_false, cell_zero, cell_succ, cell_v, cells_v, cells_agg, List.length_cons, List.length_nil]; done))
    all_goals first
      | (exfalso; omega)
      | exact fit_ofL _ _
      | omega
      | exact .inl rfl
      | exact plain_v _
      | rfl
      | (simp only [leftG]; omega)
      | (rw [hc4 (hat (by simp_all [bl1]))]; done)
      | (rw [hc5 hA (hbt (by simp_all [bl2]))]; done)
      | (rw [hc6 hA hB (by first | (left; omega) | (right; assumption))]; done)
      | (rw [hc7 hA hB (by omega) (by assumption)]; done)
      | (simp_all [chkF, bl1, bl2]; done)
      | (simp_all [chkF, bl1, bl2]; omega)
      | fail

end Go.Proofs.Ytlamjfdghhbkpaa