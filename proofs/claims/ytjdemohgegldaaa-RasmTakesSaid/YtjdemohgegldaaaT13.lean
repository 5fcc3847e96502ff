/-
  Layer 12: lists one behind the other.
-/
import Derived.Test.YtjdemohgegldaaaAm19
import Derived.Test.YtjdemohgegldaaaProg
import Derived.Test.YtjdemohgegldaaaT1
import Derived.Test.YtjdemohgegldaaaT2
import Derived.Test.YtjdemohgegldaaaT3
import Derived.Test.YtjdemohgegldaaaT4
import Derived.Test.YtjdemohgegldaaaT6
import Derived.Test.YtjdemohgegldaaaT7
import Derived.Test.YtjdemohgegldaaaT8
import Derived.Test.YtjdemohgegldaaaT10
import Derived.Test.YtjdemohgegldaaaT11
namespace Go.Proofs.Ytjdemohgegldaaa
open Go.RowKit
theorem run_append_zeros {P : Program} {w : World} (t u ty e : TypeId) (i : TypeInfo) (z : Value) (ht : P.underlying t = some (.slice e)) (hu : P.underlying u = some (.int .i64)) (hi : P.info? e = some i) (hz : i.zero = some z)
    (n : Nat) (hn : 1 ≤ n) (hb : n * i.bytes ≤ 1099511627776) (hby : 1 ≤ i.bytes) (hsz : 1 ≤ i.size) :
    (Builtin.append_ #[t, u] ty #[.slice none 0 0, .int .i64 n]).run P w =
      .ok (.slice (some ⟨w.heap.size, 0, none⟩) n (grownCap w n 0 e))
        (w.drew.alloc (.cells (Builtin.zeroCells z.cells n ++ Builtin.zeroCells z.cells (grownCap w n 0 e - n)) e)) := by
  have h1 : n ≤ 1099511627776 := Nat.le_trans (Nat.le_mul_of_pos_right _ hby) hb
  have hw : IntKind.i64.wrap (n : Int) = n := w64 (by omega) (by omega)
  have hfit := growslice_fits (bytes := i.bytes) (need := n) (old := 0) (by omega) (by omega)
  have h48 : ¬ (281474976710656 < Builtin.nextslicecap n 0 * i.bytes) := by omega
  have h63' : ¬ (9223372036854775807 < (n : Int)) := by omega
  have hneg : ¬ ((n : Int) < 0) := by omega
  have hns : ¬ (n * i.size = 0) := by intro h; rcases Nat.mul_eq_zero.1 h with h | h <;> omega
  have h48b : ¬ (281474976710656 < (n : Int) * (i.bytes : Int)) := by
    have : (n : Int) * (i.bytes : Int) = ((n * i.bytes : Nat) : Int) := by simp
    omega
  have h0 : ¬ (n = 0) := by omega
  simp [Builtin.append_, run_underlying ht, run_underlying hu, sizeOf, typeInfo, zeroValue, hi, hz, Question.forced, newRow, grownCap, asInt, asIntOf, Builtin.firstCells, hw, hneg, h48b, hns, h63', h48, h0]
theorem run_cap_nil {P : Program} {w : World} (t ty e : TypeId) (ht : P.underlying t = some (.slice e)) (c : Nat) (a : Option Addr) (n : Nat) : (Builtin.cap_ #[t] ty #[.slice a n c]).run P w = .ok (.int .i64 c) w := by
  simp [Builtin.cap_, run_underlying ht, goInt]
set_option maxRecDepth 100000 in
theorem grow_pure (n : Nat) (hn : 1 ≤ n) (hn2 : n ≤ 1000000) : PureD Try.prog 48 [.v nilS, .v (.int .i64 (n : Nat))] [.sl 2 []] := by
  intro ok w vs hok hargs
  match vs, hargs with
  | [v1, v2], ⟨h1, h2, _⟩ =>
    have h1 : Reads ok w v1 (.v nilS) := h1
    have h2 : Reads ok w v2 (.v (.int .i64 n)) := h2
    cases h1; cases h2
    have hb : Try.t67.bytes = 24 := rfl
    have hfit := growslice_fits (bytes := Try.t67.bytes) (need := n) (old := 0) (by omega) (by rw [hb]; omega)
    have h48 : ¬ (281474976710656 < Builtin.nextslicecap n 0 * Try.t67.bytes) := by omega
    have h63' : ¬ (9223372036854775807 < (n : Int)) := by omega
    have hneg : 0 ≤ (n : Int) := by omega
    have hpos : 0 < (n : Int) := by omega
    have h0 : 0 < n := by omega
    have h00 : ¬ (n = 0) := by omega
    have h48b : (n : Int) * (Try.t67.bytes : Int) ≤ 281474976710656 := by rw [hb]; omega
    have h02 : ¬ (n * 2 = 0) := by omega
    simp only [nilS]
    go_enter Try.func48, Try.ntmps48
    go_wp2
    have hG1 := grownCap_ge w n 0 67
    have hG2 := grownCap_le_maxLen w n 0 67 (by simp only [maxLen]; omega)
    refine bodyPost_ret (v := .slice (some ⟨w.heap.size, 0, none⟩) 0 (grownCap w n 0 67)) (by simp [results, Try.results48, go_sem, grownCap]) rfl ?_
    have hbel := (((Below.refl w.heap.size w).alloc (Nat.le_refl _) (.cells (Builtin.zeroCells #[Value.int IntKind.i64 0, Value.string { data := #[] }] n ++ Builtin.zeroCells #[Value.int IntKind.i64 0, Value.string { data := #[] }] (grownCap w n 0 67 - n)) 67))).drew
    have hc0 : ¬ grownCap w n 0 67 = 0 := by omega
    refine ⟨[_], rfl, hbel, ⟨?_, trivial⟩, ?_, ?_⟩
    · refine .inr ⟨[], rfl, by simp, .inr ⟨w.heap.size, grownCap w n 0 67, 67, Builtin.zeroCells #[Value.int IntKind.i64 0, Value.string { data := #[] }] n ++ Builtin.zeroCells #[Value.int IntKind.i64 0, Value.string { data := #[] }] (grownCap w n 0 67 - n), rfl, ?_, by simp, by omega, hG2, ?_, ?_⟩⟩
      · exact Array.getElem?_push_size
      · simp [size_zeroCells]; omega
      · simp [flat, All2]
    · intro b v hv hb'
      simp only [List.mem_singleton] at hv
      subst hv
      simp [blksV, blk, hc0] at hb'
      subst hb'
      simp [go_sem]
    · simp [blksV, blk, hc0]
end Go.Proofs.Ytjdemohgegldaaa

namespace Go.Proofs.Ytjdemohgegldaaa
open Go.RowKit
set_option linter.unusedSimpArgs false
set_option linter.unusedVariables false


def sumT (L : List (List Pt)) (k : Nat) : Nat := ((L.take k).map List.length).sum
theorem sumT_succ {L : List (List Pt)} {k : Nat} (h : k < L.length) : sumT L (k + 1) = sumT L k + (L.getD k []).length := by
  unfold sumT
  rw [List.take_succ_eq_append_getElem h, List.map_append, List.sum_append]
  simp [List.getD, h]
theorem sumT_le {L : List (List Pt)} {k : Nat} (h : k ≤ L.length) : sumT L k ≤ sumT L L.length := by
  obtain ⟨d, hd⟩ := Nat.exists_eq_add_of_le h
  induction d generalizing k with
  | zero => rw [hd]; exact Nat.le_refl _
  | succ d ih =>
    have h1 := ih (k := k + 1) (by omega) (by omega)
    rw [sumT_succ (by omega)] at h1; omega
theorem flat_len (L : List (List Pt)) (k : Nat) : ((L.take k).flatten).length = sumT L k := by simp [sumT, List.length_flatten]
theorem flat_succ {L : List (List Pt)} {k : Nat} (h : k < L.length) : (L.take (k + 1)).flatten = (L.take k).flatten ++ L.getD k [] := by
  rw [List.take_succ_eq_append_getElem h, List.flatten_append]; simp [List.getD, h]
theorem at_sl {xs : List D} {k : Nat} : (D.sl 1 xs).at_ (.v (.int .i64 (k : Nat))) = xs.getD k default := rfl
theorem inb_sl {xs : List D} {k : Nat} (h : k < xs.length) : D.inb 1 (.sl 1 xs) (.v (.int .i64 (k : Nat))) := ⟨xs, .i64, (k : Nat), rfl, rfl, by omega, by omega⟩
theorem appPs (a b : List Pt) : D.app 2 (.sl 2 (a.map ptD)) (b.map ptD) = .sl 2 ((a ++ b).map ptD) := by simp [D.app]

theorem cells_not {x : D} (h : NotAgg x) : x.cells = [x] := by cases x <;> first | rfl | exact h.1.elim
theorem cell_not {x : D} (h : NotAgg x) : x.cell 0 = x := by simp [D.cell, cells_not h]
theorem IsL.cells {sz : Nat} {es : List D} {x : D} (h : IsL sz es x) : x.cells.length = 1 := by rw [cells_not h.notAgg]; rfl

theorem vc_concat (xs : List D) (L : List (List Pt)) : Cond Try.prog (fun k => if k = 3 then some ⟨[11, 3], [], [0, 9, 10], []⟩ else if k = 11 then some ⟨[27], [6], [25, 26], []⟩ else none) Try.f43 [.sl 1 xs] [.sl 2 (L.flatten.map ptD)] = ((NotAgg (D.sl 1 xs) ∧ True) ∧ ∃ (r : D), D.lenT (TypeDesc.slice 30) (D.sl 1 xs) = some r ∧ ∃ (I : List D → Prop), ∃ (μ : List D → Nat), ((D.v (Value.int IntKind.i64 0) = D.v (Value.int IntKind.i64 0) ∧ D.v (Value.int IntKind.i64 0) = D.v (Value.int IntKind.i64 0) ∧ D.sl 1 xs = D.sl 1 xs ∧ D.sl 1 xs = D.sl 1 xs ∧ r = r ∧ True) ∧ True ∧ I [D.v (Value.int IntKind.i64 0), D.v (Value.int IntKind.i64 0)]) ∧ ∀ (r_1 r_2 : D), I [r_1, r_2] → ∃ (r_3 : D), D.bin BinOp.lss r_1 r = some r_3 ∧ ∃ (b : Bool), r_3 = D.v (Value.bool b) ∧ (b = true → D.inb 1 (D.sl 1 xs) r_1 ∧ 0 + 1 ≤ ((D.sl 1 xs).at_ r_1).cells.length ∧ ∃ (r_4 : D), D.lenT (TypeDesc.slice 67) (((D.sl 1 xs).at_ r_1).cell 0) = some r_4 ∧ ∃ (r_5 : D), D.bin BinOp.add r_2 r_4 = some r_5 ∧ ∃ (r_6 : D), D.bin BinOp.lss r_5 (D.v (Value.int IntKind.i64 0)) = some r_6 ∧ ∃ (b : Bool), r_6 = D.v (Value.bool b) ∧ (b = true → False) ∧ (b = false → ∃ (r_7 : D), D.bin BinOp.add r_1 (D.v (Value.int IntKind.i64 1)) = some r_7 ∧ (r_7 = r_7 ∧ r_5 = r_5 ∧ D.sl 1 xs = D.sl 1 xs ∧ D.sl 1 xs = D.sl 1 xs ∧ r = r ∧ True) ∧ True ∧ I [r_7, r_5] ∧ μ [r_7, r_5] < μ [r_1, r_2])) ∧ (b = false → ∃ (r : D), PureD Try.prog 48 [D.v (Value.slice none 0 0), r_2] [r] ∧ fits [(false, [some 2])] [r] ∧ ∃ (r_4 : D), D.lenT (TypeDesc.slice 30) (D.sl 1 xs) = some r_4 ∧ ∃ (I : List D → Prop), ∃ (μ : List D → Nat), ((D.v (Value.int IntKind.i64 0) = D.v (Value.int IntKind.i64 0) ∧ true = true ∧ D.sl 1 xs = D.sl 1 xs ∧ r_4 = r_4 ∧ True) ∧ ((true = true ∧ r = r) ∧ True) ∧ I [D.v (Value.int IntKind.i64 0), r]) ∧ ∀ (r r_5 : D), I [r, r_5] → ∃ (r_6 : D), D.bin BinOp.lss r r_4 = some r_6 ∧ ∃ (b : Bool), r_6 = D.v (Value.bool b) ∧ (b = true → D.inb 1 (D.sl 1 xs) r ∧ 0 + 1 ≤ ((D.sl 1 xs).at_ r).cells.length ∧ ∃ (ls : List D), r_5.lst = some ls ∧ ∃ (lx : List D), D.lstSz 2 (((D.sl 1 xs).at_ r).cell 0) = some lx ∧ (ls.length + lx.length) * 24 ≤ 1099511627776 ∧ ∃ (r_7 : D), D.bin BinOp.add r (D.v (Value.int IntKind.i64 1)) = some r_7 ∧ (r_7 = r_7 ∧ true = true ∧ D.sl 1 xs = D.sl 1 xs ∧ r_4 = r_4 ∧ True) ∧ ((true = true ∧ D.app 2 r_5 lx = D.app 2 r_5 lx) ∧ True) ∧ I [r_7, D.app 2 r_5 lx] ∧ μ [r_7, D.app 2 r_5 lx] < μ [r, r_5]) ∧ (b = false → (PlainD r_5 ∧ True) ∧ [r_5] = [D.sl 2 (List.map ptD L.flatten)]))) := by kernel_rfl
set_option maxHeartbeats 4000000 in
theorem concat (xs : List D) (L : List (List Pt)) (hn : xs.length = L.length) (hX : ∀ k, k < L.length → IsL 2 ((L.getD k []).map ptD) (xs.getD k default)) (hp : 1 ≤ sumT L L.length) (hs : sumT L L.length ≤ 100000) (hL : L.length ≤ 1000) : PureD Try.prog 43 [.sl 1 xs] [.sl 2 (L.flatten.map ptD)] := by
  refine pure_cond (Lp := (fun k => if k = 3 then some ⟨[11, 3], [], [0, 9, 10], []⟩ else if k = 11 then some ⟨[27], [6], [25, 26], []⟩ else none)) (by kernel_rfl) Try.func43 (by kernel_rfl) (by kernel_rfl) ?_
  rw [vc_concat xs L]
  have hlk : True := trivial
  have hcl : True := trivial
  have hlz : True := trivial
  have h00 : ∀ e, D.lenT (.slice e) (.sl 1 xs) = some (.v (.int .i64 (L.length : Nat))) := fun e => by rw [← hn]; rfl
  have G := grow_pure (sumT L L.length) hp (by omega)
  repeat' (first
    | (refine ex_some (by simp (disch := omega) only [bin_shr, bin_shl, bin_and, bin_or, bin_xor, len_str, toStr_ofL, bin_add, bin_sub, bin_mul, bin_quo, bin_rem, bin_lss, bin_leq, bin_gtr, bin_geq, bin_eql, bin_neq, eqs_cn, eqs_ci, eqs_cb, eqs_cs, Option.map_some, lenT_ofL, lst_ofL, lstSz_ofL, chunk_one, lst_nil, lst_sl, lstSz_sl, lstSz_nil, Bool.and_true, Bool.true_and, Bool.and_false, Bool.false_and, beq_self_eq_true, beq_bb, bne_bb, un_not, un_neg, conv_int, min2_int, max2_int, w64, w32, wu8, wu16, wu32, wu64, tdiv_nn, tmod_nn, cell_zero, cell_succ, cell_v, cells_v, cells_agg, Bool.not_true, Bool.not_false, Int.reduceLT, Int.reduceLE, Int.reduceEq, Int.reduceNeg, Int.reduceAdd, Int.reduceSub, Int.reduceMul, intOf_v, decide_true, decide_false, hlk, hcl, hlz, h00]; rfl) ?_)
    | (refine ex_bool ?_)
    | (exact i1)
    | (refine ⟨_, G, ?_⟩)
    | (have := inl1; refine ⟨k + 1, by omega, ?_⟩)
    | (have := out1; refine ⟨(fun r3 => ∃ k : Nat, k ≤ L.length ∧ r3 = [.v (.int .i64 (k : Nat)), .sl 2 (((L.take k).flatten).map ptD)]), leftG L.length, ?_⟩)
    | (have := out1; refine fun (r4 r5 : D) (hI : (fun r3 => ∃ k : Nat, k ≤ L.length ∧ r3 = [.v (.int .i64 (k : Nat)), .sl 2 (((L.take k).flatten).map ptD)]) [r4, r5]) => ?_; obtain ⟨k, hk, hl0⟩ := hI; simp only [List.cons.injEq, and_true] at hl0; obtain ⟨rfl, rfl⟩ := hl0; by_cases hlt : k < L.length <;> first | (have hk1 : k < L.length := (by omega); have hk2 : k < xs.length := (by omega); have hXk := hX k hk1; have i1 := inb_sl hk2; have hs1 := sumT_succ hk1; have hs2 := sumT_le (L := L) (k := k + 1) (by omega); have hf1 := flat_succ hk1; have hlk := hXk.lenT; have hlz := hXk.lstSz; simp only [List.length_map] at hlk; simp only [at_sl]; generalize xs.getD k default = x at hXk hlk hlz; generalize L.getD k [] = ps at hXk hlk hs1 hlz hf1; have hcl : x.cell 0 = x := cell_not hXk.notAgg; have inl1 : True := trivial) | (have hkk : k = L.length := (by omega); subst hkk; have hlk : True := trivial; have hcl : True := trivial; have hlz : True := trivial; have out1 : True := trivial; rw [List.take_length]))
    | (refine ⟨(fun r3 => ∃ k : Nat, k ≤ L.length ∧ r3 = [.v (.int .i64 (k : Nat)), .v (.int .i64 (sumT L k : Nat))]), leftG L.length, ?_⟩)
    | (refine fun (r2 r3 : D) (hI : (fun r3 => ∃ k : Nat, k ≤ L.length ∧ r3 = [.v (.int .i64 (k : Nat)), .v (.int .i64 (sumT L k : Nat))]) [r2, r3]) => ?_; obtain ⟨k, hk, hl0⟩ := hI; simp only [List.cons.injEq, and_true] at hl0; obtain ⟨rfl, rfl⟩ := hl0; by_cases hlt : k < L.length <;> first | (have hk1 : k < L.length := (by omega); have hk2 : k < xs.length := (by omega); have hXk := hX k hk1; have i1 := inb_sl hk2; have hs1 := sumT_succ hk1; have hs2 := sumT_le (L := L) (k := k + 1) (by omega); have hf1 := flat_succ hk1; have hlk := hXk.lenT; have hlz := hXk.lstSz; simp only [List.length_map] at hlk; simp only [at_sl]; generalize xs.getD k default = x at hXk hlk hlz; generalize L.getD k [] = ps at hXk hlk hs1 hlz hf1; have hcl : x.cell 0 = x := cell_not hXk.notAgg; have inl1 : True := trivial) | (have hkk : k = L.length := (by omega); subst hkk; have hlk : True := trivial; have hcl : True := trivial; have hlz : True := trivial; have out1 : True := trivial))
    | (exact ⟨0, Nat.zero_le _, rfl⟩)
    | (refine And.intro ?_ ?_)
    | (intro hx; have hprop := (show ∀ (p : Prop), p → True from fun _ _ => True.intro) _ hx; clear hprop; first | (cases hx; done) | (exfalso; revert hx; simp (disch := omega) only [decide_eq_true_eq, decide_eq_false_iff_not, Bool.not_eq_true', Bool.not_eq_false', Bool.and_eq_true, Bool.and_eq_false_iff, Int.not_lt, Int.not_le, ne_eq, not_false_eq_true, not_true_eq_false, reduceCtorEq, Bool.true_eq_false, Bool.false_eq_true, beq_iff_eq, bne_iff_ne, beq_eq_false_iff_ne, false_or, or_false, true_and, and_true, hlk, hcl, hlz, h00]; done) | (simp (disch := omega) only [decide_eq_true_eq, decide_eq_false_iff_not, Bool.not_eq_true', Bool.not_eq_false', Bool.and_eq_true, Bool.and_eq_false_iff, Int.not_lt, Int.not_le, ne_eq, not_false_eq_true, not_true_eq_false, reduceCtorEq, Bool.true_eq_false, Bool.false_eq_true, beq_iff_eq, bne_iff_ne, beq_eq_false_iff_ne, false_or, or_false, true_and, and_true, hlk, hcl, hlz, h00] at hx; first | (exfalso; omega) | skip) | skip)
    | trivial
    | exact fit_ofL _ _
    | (simp (disch := omega) only [notAgg_v, notAgg_sl, plain_v, fits, fitsOne, fitsCells, xsOf, cell_zero, cell_succ, List.range, List.range.loop, List.map, cond_true, cond_false, D.v.injEq, exists_eq', exists_eq, and_self, and_true, true_and, D.agg.injEq, List.length, exists_eq_left', D.sl.injEq, reduceCtorEq, false_or, true_or, or_true, or_false, cell_zero, cell_succ, cell_v, cells_v, cells_agg, List.length_cons, List.length_nil, hlk, hcl, hlz, h00]; done))
  all_goals first
    | (exfalso; omega)
    | omega
    | exact notAgg_sl _ _
    | exact hXk.notAgg
    | (rw [hXk.cells]; exact Nat.le_refl _)
    | exact ⟨_, rfl⟩
    | rfl
    | assumption
    | (simp only [leftG]; omega)
    | (rw [hs1]; rfl)
    | (rw [hf1, ← appPs]; rfl)
    | exact .inr ⟨_, rfl⟩
    | exact plain_sl (pts_plain _)
    | (simp only [List.length_map, flat_len]; omega)
    | (simp; done)
    | fail

end Go.Proofs.Ytjdemohgegldaaa