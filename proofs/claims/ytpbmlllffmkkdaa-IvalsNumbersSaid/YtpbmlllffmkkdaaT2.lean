/-
  Layer 6: has.
-/
import Derived.Test.YtpbmlllffmkkdaaT1
namespace Go.Proofs.Ytpbmlllffmkkdaa
open Go.RowKit
set_option linter.unusedSimpArgs false
set_option linter.unusedVariables false


theorem fits_iv (zs : List (Int × Int)) : fitsX [some 2] (zs.map fun z => [iv z]) := by
  intro x hx
  obtain ⟨z, _, rfl⟩ := List.mem_map.1 hx
  exact ⟨⟨_, rfl, rfl⟩, trivial⟩
theorem iv_at {zs : List (Int × Int)} {k : Nat} {r : D} (h : (zs.map fun z => [iv z])[k]? = some [r]) : k < zs.length ∧ r = iv (zs.getD k (0, 0)) := by
  rw [List.getElem?_map] at h
  obtain ⟨z, hz, e⟩ := Option.map_eq_some_iff.1 h
  injection e with e
  have := (List.getElem?_eq_some_iff.1 hz).1
  refine ⟨this, ?_⟩
  rw [← e, List.getD_eq_getElem?_getD, hz]; rfl
def inI (n : Int) (z : Int × Int) : Bool := decide (z.1 ≤ n) && decide (n < z.2)
def hasF (zs : List (Int × Int)) (n : Int) : Bool := zs.any (inI n)
theorem any_succ {α : Type} {l : List α} {k : Nat} {d : α} (h : k < l.length) (p : α → Bool) : (l.take (k + 1)).any p = ((l.take k).any p || p (l.getD k d)) := by
  rw [List.take_succ_eq_append_getElem h, List.any_append, List.getD_eq_getElem?_getD, List.getElem?_eq_getElem h]; simp
theorem any_at {α : Type} {l : List α} {k : Nat} {d : α} (h : k < l.length) {p : α → Bool} (hp : p (l.getD k d) = true) : l.any p = true := by
  rw [List.any_eq_true]; exact ⟨l.getD k d, by simp [List.getD, h], hp⟩
def rgd (z : Int × Int) : Bool := decide (0 ≤ z.1) && decide (z.1 ≤ 4611686018427387903) && decide (0 ≤ z.2) && decide (z.2 ≤ 4611686018427387903)
def emp (z : Int × Int) : Bool := decide (z.2 ≤ z.1)
def leftG (n : Nat) : List D → Nat
  | .v (.int _ i) :: _ => n - i.toNat
  | _ => 0

theorem vc_each (x : D) : CondR Try.prog (fun _ => none) Try.f33 [x] [.fn 40 [.pt (.agg [x])]] = ((NotAgg x ∧ True) ∧ [D.fn 40 [(D.agg [x]).pt]] = [D.fn 40 [(D.agg [x]).pt]]) := by kernel_rfl
theorem each (x : D) (hx : NotAgg x) : ReadD Try.prog 33 [x] [.fn 40 [.pt (.agg [x])]] := by
  refine read_cond (Lp := (fun _ => none)) (by kernel_rfl) Try.func33 (by kernel_rfl) (by kernel_rfl) ?_
  rw [vc_each x]
  repeat' (first
    | (refine ex_some (by simp (disch := omega) only [bin_shr, bin_shl, bin_and, bin_or, bin_xor, len_str, toStr_ofL, bin_add, bin_sub, bin_mul, bin_quo, bin_rem, bin_lss, bin_leq, bin_gtr, bin_geq, bin_eql, bin_neq, eqs_cn, eqs_ci, eqs_cb, eqs_cs, Option.map_some, lenT_ofL, lst_ofL, lstSz_ofL, chunk_one, lst_nil, lst_sl, lstSz_sl, lstSz_nil, Bool.and_true, Bool.true_and, Bool.and_false, Bool.false_and, beq_self_eq_true, beq_bb, bne_bb, un_not, un_neg, conv_int, min2_int, max2_int, w64, w32, wu8, wu16, wu32, wu64, tdiv_nn, tmod_nn, cell_zero, cell_succ, cell_v, cells_v, cells_agg, Bool.not_true, Bool.not_false, Int.reduceLT, Int.reduceLE, Int.reduceEq, Int.reduceNeg, Int.reduceAdd, Int.reduceSub, Int.reduceMul, intOf_v, decide_true, decide_false]; rfl) ?_)
    | (refine ex_bool ?_)
    | (exact hx)
    | (refine And.intro ?_ ?_)
    | (intro hx; have hprop := (show ∀ (p : Prop), p → True from fun _ _ => True.intro) _ hx; clear hprop; first | (cases hx; done) | (exfalso; revert hx; simp (disch := omega) only [decide_eq_true_eq, decide_eq_false_iff_not, Bool.not_eq_true', Bool.not_eq_false', Bool.and_eq_true, Bool.and_eq_false_iff, Int.not_lt, Int.not_le, ne_eq, not_false_eq_true, not_true_eq_false, reduceCtorEq, Bool.true_eq_false, Bool.false_eq_true, beq_iff_eq, bne_iff_ne, beq_eq_false_iff_ne, false_or, or_false, true_and, and_true]; done) | (simp (disch := omega) only [decide_eq_true_eq, decide_eq_false_iff_not, Bool.not_eq_true', Bool.not_eq_false', Bool.and_eq_true, Bool.and_eq_false_iff, Int.not_lt, Int.not_le, ne_eq, not_false_eq_true, not_true_eq_false, reduceCtorEq, Bool.true_eq_false, Bool.false_eq_true, beq_iff_eq, bne_iff_ne, beq_eq_false_iff_ne, false_or, or_false, true_and, and_true] at hx; first | (exfalso; omega) | skip) | skip)
    | trivial
    | exact fit_ofL _ _
    | (simp (disch := omega) only [notAgg_v, notAgg_sl, plain_v, fits, fitsOne, fitsCells, xsOf, cell_zero, cell_succ, List.range, List.range.loop, List.map, cond_true, cond_false, D.v.injEq, exists_eq', exists_eq, and_self, and_true, true_and, D.agg.injEq, List.length, exists_eq_left', D.sl.injEq, reduceCtorEq, false_or, true_or, or_true, or_false, cell_zero, cell_succ, cell_v, cells_v, cells_agg, List.length_cons, List.length_nil]; done))
  all_goals first
    | (exfalso; omega)
    | omega
    | (simp only [leftG]; omega)
    | exact notAgg_fn _ _
    | exact hX.notAgg
    | (rw [show hasF zs n = true from hc (by simp [*])]; done)
    | (rw [show hasF zs n = false from hA]; done)
    | (rw [ht, hA, Bool.false_or, Bool.and_eq_false_iff, decide_eq_false_iff_not, decide_eq_false_iff_not]; omega)
    | (rw [Bool.eq_iff_iff]; simp [rgd, emp]; omega)
    | (simp_all [inI, rgd, emp]; done)
    | (simp_all [inI, rgd, emp]; omega)
    | fail

theorem vc_empty (p q : Int) : Cond Try.prog (fun _ => none) Try.f31 [.agg [.v (.int .i64 p), .v (.int .i64 q)]] [.v (.bool (emp (p, q)))] = (((∃ (cs : List D), D.agg [D.v (Value.int IntKind.i64 p), D.v (Value.int IntKind.i64 q)] = D.agg cs ∧ cs.length = 2) ∧ True) ∧ ∃ (r : D), D.bin BinOp.leq (D.v (Value.int IntKind.i64 q)) (D.v (Value.int IntKind.i64 p)) = some r ∧ ((∃ (y : Value), r = D.v y) ∧ True) ∧ [r] = [D.v (Value.bool (emp (p, q)))]) := by kernel_rfl
theorem empty (p q : Int)  : PureD Try.prog 31 [.agg [.v (.int .i64 p), .v (.int .i64 q)]] [.v (.bool (emp (p, q)))] := by
  refine pure_cond (Lp := (fun _ => none)) (by kernel_rfl) Try.func31 (by kernel_rfl) (by kernel_rfl) ?_
  rw [vc_empty p q]
  repeat' (first
    | (refine ex_some (by simp (disch := omega) only [bin_shr, bin_shl, bin_and, bin_or, bin_xor, len_str, toStr_ofL, bin_add, bin_sub, bin_mul, bin_quo, bin_rem, bin_lss, bin_leq, bin_gtr, bin_geq, bin_eql, bin_neq, eqs_cn, eqs_ci, eqs_cb, eqs_cs, Option.map_some, lenT_ofL, lst_ofL, lstSz_ofL, chunk_one, lst_nil, lst_sl, lstSz_sl, lstSz_nil, Bool.and_true, Bool.true_and, Bool.and_false, Bool.false_and, beq_self_eq_true, beq_bb, bne_bb, un_not, un_neg, conv_int, min2_int, max2_int, w64, w32, wu8, wu16, wu32, wu64, tdiv_nn, tmod_nn, cell_zero, cell_succ, cell_v, cells_v, cells_agg, Bool.not_true, Bool.not_false, Int.reduceLT, Int.reduceLE, Int.reduceEq, Int.reduceNeg, Int.reduceAdd, Int.reduceSub, Int.reduceMul, intOf_v, decide_true, decide_false]; rfl) ?_)
    | (refine ex_bool ?_)
    | (refine And.intro ?_ ?_)
    | (intro hx; have hprop := (show ∀ (p : Prop), p → True from fun _ _ => True.intro) _ hx; clear hprop; first | (cases hx; done) | (exfalso; revert hx; simp (disch := omega) only [decide_eq_true_eq, decide_eq_false_iff_not, Bool.not_eq_true', Bool.not_eq_false', Bool.and_eq_true, Bool.and_eq_false_iff, Int.not_lt, Int.not_le, ne_eq, not_false_eq_true, not_true_eq_false, reduceCtorEq, Bool.true_eq_false, Bool.false_eq_true, beq_iff_eq, bne_iff_ne, beq_eq_false_iff_ne, false_or, or_false, true_and, and_true]; done) | (simp (disch := omega) only [decide_eq_true_eq, decide_eq_false_iff_not, Bool.not_eq_true', Bool.not_eq_false', Bool.and_eq_true, Bool.and_eq_false_iff, Int.not_lt, Int.not_le, ne_eq, not_false_eq_true, not_true_eq_false, reduceCtorEq, Bool.true_eq_false, Bool.false_eq_true, beq_iff_eq, bne_iff_ne, beq_eq_false_iff_ne, false_or, or_false, true_and, and_true] at hx; first | (exfalso; omega) | skip) | skip)
    | trivial
    | exact fit_ofL _ _
    | (simp (disch := omega) only [notAgg_v, notAgg_sl, plain_v, fits, fitsOne, fitsCells, xsOf, cell_zero, cell_succ, List.range, List.range.loop, List.map, cond_true, cond_false, D.v.injEq, exists_eq', exists_eq, and_self, and_true, true_and, D.agg.injEq, List.length, exists_eq_left', D.sl.injEq, reduceCtorEq, false_or, true_or, or_true, or_false, cell_zero, cell_succ, cell_v, cells_v, cells_agg, List.length_cons, List.length_nil]; done))
  all_goals first
    | (exfalso; omega)
    | omega
    | (simp only [leftG]; omega)
    | exact notAgg_fn _ _
    | exact hX.notAgg
    | (rw [show hasF zs n = true from hc (by simp [*])]; done)
    | (rw [show hasF zs n = false from hA]; done)
    | (rw [ht, hA, Bool.false_or, Bool.and_eq_false_iff, decide_eq_false_iff_not, decide_eq_false_iff_not]; omega)
    | (rw [Bool.eq_iff_iff]; simp [rgd, emp]; omega)
    | (simp_all [inI, rgd, emp]; done)
    | (simp_all [inI, rgd, emp]; omega)
    | fail

theorem vc_ranged (p q : Int) : Cond Try.prog (fun _ => none) Try.f38 [.agg [.v (.int .i64 p), .v (.int .i64 q)]] [.v (.bool (rgd (p, q)))] = (((∃ (cs : List D), D.agg [D.v (Value.int IntKind.i64 p), D.v (Value.int IntKind.i64 q)] = D.agg cs ∧ cs.length = 2) ∧ True) ∧ ∃ (r : D), D.bin BinOp.geq (D.v (Value.int IntKind.i64 p)) (D.v (Value.int IntKind.i64 0)) = some r ∧ ∃ (b : Bool), r = D.v (Value.bool b) ∧ (b = true → ∃ (r : D), D.bin BinOp.leq (D.v (Value.int IntKind.i64 p)) (D.v (Value.int IntKind.i64 4611686018427387903)) = some r ∧ ∃ (b : Bool), r = D.v (Value.bool b) ∧ (b = true → ∃ (r : D), D.bin BinOp.geq (D.v (Value.int IntKind.i64 q)) (D.v (Value.int IntKind.i64 0)) = some r ∧ ∃ (b : Bool), r = D.v (Value.bool b) ∧ (b = true → ∃ (r : D), D.bin BinOp.leq (D.v (Value.int IntKind.i64 q)) (D.v (Value.int IntKind.i64 4611686018427387903)) = some r ∧ ((∃ (y : Value), r = D.v y) ∧ True) ∧ [r] = [D.v (Value.bool (rgd (p, q)))]) ∧ (b = false → (True ∧ True) ∧ [D.v (Value.bool false)] = [D.v (Value.bool (rgd (p, q)))])) ∧ (b = false → (True ∧ True) ∧ [D.v (Value.bool false)] = [D.v (Value.bool (rgd (p, q)))])) ∧ (b = false → (True ∧ True) ∧ [D.v (Value.bool false)] = [D.v (Value.bool (rgd (p, q)))])) := by kernel_rfl
theorem ranged (p q : Int)  : PureD Try.prog 38 [.agg [.v (.int .i64 p), .v (.int .i64 q)]] [.v (.bool (rgd (p, q)))] := by
  refine pure_cond (Lp := (fun _ => none)) (by kernel_rfl) Try.func38 (by kernel_rfl) (by kernel_rfl) ?_
  rw [vc_ranged p q]
  repeat' (first
    | (refine ex_some (by simp (disch := omega) only [bin_shr, bin_shl, bin_and, bin_or, bin_xor, len_str, toStr_ofL, bin_add, bin_sub, bin_mul, bin_quo, bin_rem, bin_lss, bin_leq, bin_gtr, bin_geq, bin_eql, bin_neq, eqs_cn, eqs_ci, eqs_cb, eqs_cs, Option.map_some, lenT_ofL, lst_ofL, lstSz_ofL, chunk_one, lst_nil, lst_sl, lstSz_sl, lstSz_nil, Bool.and_true, Bool.true_and, Bool.and_false, Bool.false_and, beq_self_eq_true, beq_bb, bne_bb, un_not, un_neg, conv_int, min2_int, max2_int, w64, w32, wu8, wu16, wu32, wu64, tdiv_nn, tmod_nn, cell_zero, cell_succ, cell_v, cells_v, cells_agg, Bool.not_true, Bool.not_false, Int.reduceLT, Int.reduceLE, Int.reduceEq, Int.reduceNeg, Int.reduceAdd, Int.reduceSub, Int.reduceMul, intOf_v, decide_true, decide_false]; rfl) ?_)
    | (refine ex_bool ?_)
    | (refine And.intro ?_ ?_)
    | (intro hx; have hprop := (show ∀ (p : Prop), p → True from fun _ _ => True.intro) _ hx; clear hprop; first | (cases hx; done) | (exfalso; revert hx; simp (disch := omega) only [decide_eq_true_eq, decide_eq_false_iff_not, Bool.not_eq_true', Bool.not_eq_false', Bool.and_eq_true, Bool.and_eq_false_iff, Int.not_lt, Int.not_le, ne_eq, not_false_eq_true, not_true_eq_false, reduceCtorEq, Bool.true_eq_false, Bool.false_eq_true, beq_iff_eq, bne_iff_ne, beq_eq_false_iff_ne, false_or, or_false, true_and, and_true]; done) | (simp (disch := omega) only [decide_eq_true_eq, decide_eq_false_iff_not, Bool.not_eq_true', Bool.not_eq_false', Bool.and_eq_true, Bool.and_eq_false_iff, Int.not_lt, Int.not_le, ne_eq, not_false_eq_true, not_true_eq_false, reduceCtorEq, Bool.true_eq_false, Bool.false_eq_true, beq_iff_eq, bne_iff_ne, beq_eq_false_iff_ne, false_or, or_false, true_and, and_true] at hx; first | (exfalso; omega) | skip) | skip)
    | trivial
    | exact fit_ofL _ _
    | (simp (disch := omega) only [notAgg_v, notAgg_sl, plain_v, fits, fitsOne, fitsCells, xsOf, cell_zero, cell_succ, List.range, List.range.loop, List.map, cond_true, cond_false, D.v.injEq, exists_eq', exists_eq, and_self, and_true, true_and, D.agg.injEq, List.length, exists_eq_left', D.sl.injEq, reduceCtorEq, false_or, true_or, or_true, or_false, cell_zero, cell_succ, cell_v, cells_v, cells_agg, List.length_cons, List.length_nil]; done))
  all_goals first
    | (exfalso; omega)
    | omega
    | (simp only [leftG]; omega)
    | exact notAgg_fn _ _
    | exact hX.notAgg
    | (rw [show hasF zs n = true from hc (by simp [*])]; done)
    | (rw [show hasF zs n = false from hA]; done)
    | (rw [ht, hA, Bool.false_or, Bool.and_eq_false_iff, decide_eq_false_iff_not, decide_eq_false_iff_not]; omega)
    | (rw [Bool.eq_iff_iff]; simp [rgd, emp]; omega)
    | (simp_all [inI, rgd, emp]; done)
    | (simp_all [inI, rgd, emp]; omega)
    | fail

theorem vc_has (x : D) (zs : List (Int × Int)) (n : Int) : Cond Try.prog (fun k => if k = 3002 then some ⟨[], [], [3, 4], []⟩ else if k = 4002 then some ⟨[40], [], [], []⟩ else none) Try.f24 [x, .v (.int .i64 n)] [.v (.bool (hasF zs n))] = ((NotAgg x ∧ NotAgg (D.v (Value.int IntKind.i64 n)) ∧ True) ∧ ∃ (r : D), ReadD Try.prog 33 [x] [r] ∧ (NotAgg r ∧ True) ∧ ∃ (caps : List D), ∃ (xs : List (List D)), ∃ (I : Nat → List D → Prop), r = D.fn 40 caps ∧ SeqD Try.prog 40 caps xs ∧ fitsX [some 2] xs ∧ (((true = true ∧ true = true) ∧ (true = true ∧ true = true) ∧ True) ∧ ((D.v (Value.int IntKind.i64 n) = D.v (Value.int IntKind.i64 n) ∧ True) ∧ (D.v (Value.bool false) = D.v (Value.bool false) ∧ True) ∧ True) ∧ I 0 []) ∧ (∀ (k : Nat) (r : D), xs[k]? = some [r] → I k [] → ∃ (r_1 : D), D.bin BinOp.leq (r.cell 0) (D.v (Value.int IntKind.i64 n)) = some r_1 ∧ ∃ (b : Bool), r_1 = D.v (Value.bool b) ∧ (b = true → ∃ (r_2 : D), D.bin BinOp.lss (D.v (Value.int IntKind.i64 n)) (r.cell 1) = some r_2 ∧ ∃ (b : Bool), r_2 = D.v (Value.bool b) ∧ (b = true → (True ∧ True) ∧ [D.v (Value.bool true)] = [D.v (Value.bool (hasF zs n))]) ∧ (b = false → ((true = true ∧ true = true) ∧ (true = true ∧ true = true) ∧ True) ∧ ((D.v (Value.int IntKind.i64 n) = D.v (Value.int IntKind.i64 n) ∧ True) ∧ (D.v (Value.bool false) = D.v (Value.bool false) ∧ True) ∧ True) ∧ I (k + 1) [])) ∧ (b = false → ((true = true ∧ true = true) ∧ (true = true ∧ true = true) ∧ True) ∧ ((D.v (Value.int IntKind.i64 n) = D.v (Value.int IntKind.i64 n) ∧ True) ∧ (D.v (Value.bool false) = D.v (Value.bool false) ∧ True) ∧ True) ∧ I (k + 1) [])) ∧ (I xs.length [] → (True ∧ True) ∧ [D.v (Value.bool false)] = [D.v (Value.bool (hasF zs n))])) := by kernel_rfl
set_option maxHeartbeats 2000000 in
theorem has (x : D) (zs : List (Int × Int)) (n : Int) (hX : IsL 2 (zs.map iv) x) (hm : zs.length ≤ 100000)  : PureD Try.prog 24 [x, .v (.int .i64 n)] [.v (.bool (hasF zs n))] := by
  refine pure_cond (Lp := (fun k => if k = 3002 then some ⟨[], [], [3, 4], []⟩ else if k = 4002 then some ⟨[40], [], [], []⟩ else none)) (by kernel_rfl) Try.func24 (by kernel_rfl) (by kernel_rfl) ?_
  rw [vc_has x zs n]
  have EA := each x hX.notAgg
  repeat' (first
    | (refine ex_some (by simp (disch := omega) only [bin_shr, bin_shl, bin_and, bin_or, bin_xor, len_str, toStr_ofL, bin_add, bin_sub, bin_mul, bin_quo, bin_rem, bin_lss, bin_leq, bin_gtr, bin_geq, bin_eql, bin_neq, eqs_cn, eqs_ci, eqs_cb, eqs_cs, Option.map_some, lenT_ofL, lst_ofL, lstSz_ofL, chunk_one, lst_nil, lst_sl, lstSz_sl, lstSz_nil, Bool.and_true, Bool.true_and, Bool.and_false, Bool.false_and, beq_self_eq_true, beq_bb, bne_bb, un_not, un_neg, conv_int, min2_int, max2_int, w64, w32, wu8, wu16, wu32, wu64, tdiv_nn, tmod_nn, cell_zero, cell_succ, cell_v, cells_v, cells_agg, Bool.not_true, Bool.not_false, Int.reduceLT, Int.reduceLE, Int.reduceEq, Int.reduceNeg, Int.reduceAdd, Int.reduceSub, Int.reduceMul, intOf_v, decide_true, decide_false]; rfl) ?_)
    | (refine ex_bool ?_)
    | (refine ⟨_, EA, ?_⟩)
    | (refine ⟨_, zs.map fun z => [iv z], (fun k r => (zs.take k).any (inI n) = false ∧ r = []), rfl, seq_each hX (by omega), fits_iv zs, ?_, ?_, ?_⟩)
    | (exact ⟨rfl, rfl⟩)
    | (refine fun (k : Nat) (r : D) (hk : (zs.map fun z => [iv z])[k]? = some [r]) => ?_; obtain ⟨hk1, rfl⟩ := iv_at hk; clear hk; refine fun (hI : (fun k r => (zs.take k).any (inI n) = false ∧ r = []) k []) => ?_; obtain ⟨hA, hl0⟩ := hI; clear hl0; have ht := any_succ (d := (0, 0)) hk1 (inI n); have hc := any_at (d := (0, 0)) hk1 (p := inI n); generalize zs.getD k (0, 0) = z at ht hc; obtain ⟨p, q⟩ := z; simp only [iv, inI] at ht hc; simp only [iv, cell_zero, cell_succ, cells_agg, List.length_cons, List.length_nil]; have inl : True := trivial)
    | (refine fun (hI : (fun k r => (zs.take k).any (inI n) = false ∧ r = []) (zs.map fun z => [iv z]).length []) => ?_; rw [List.length_map] at hI; obtain ⟨hA, hl0⟩ := hI; clear hl0; rw [List.take_length] at hA; have out1 : True := trivial)
    | (have := inl; refine ⟨?_, rfl⟩)
    | (refine And.intro ?_ ?_)
    | (intro hx; have hprop := (show ∀ (p : Prop), p → True from fun _ _ => True.intro) _ hx; clear hprop; first | (cases hx; done) | (exfalso; revert hx; simp (disch := omega) only [decide_eq_true_eq, decide_eq_false_iff_not, Bool.not_eq_true', Bool.not_eq_false', Bool.and_eq_true, Bool.and_eq_false_iff, Int.not_lt, Int.not_le, ne_eq, not_false_eq_true, not_true_eq_false, reduceCtorEq, Bool.true_eq_false, Bool.false_eq_true, beq_iff_eq, bne_iff_ne, beq_eq_false_iff_ne, false_or, or_false, true_and, and_true]; done) | (simp (disch := omega) only [decide_eq_true_eq, decide_eq_false_iff_not, Bool.not_eq_true', Bool.not_eq_false', Bool.and_eq_true, Bool.and_eq_false_iff, Int.not_lt, Int.not_le, ne_eq, not_false_eq_true, not_true_eq_false, reduceCtorEq, Bool.true_eq_false, Bool.false_eq_true, beq_iff_eq, bne_iff_ne, beq_eq_false_iff_ne, false_or, or_false, true_and, and_true] at hx; first | (exfalso; omega) | skip) | skip)
    | trivial
    | exact fit_ofL _ _
    | (simp (disch := omega) only [notAgg_v, notAgg_sl, plain_v, fits, fitsOne, fitsCells, xsOf, cell_zero, cell_succ, List.range, List.range.loop, List.map, cond_true, cond_false, D.v.injEq, exists_eq', exists_eq, and_self, and_true, true_and, D.agg.injEq, List.length, exists_eq_left', D.sl.injEq, reduceCtorEq, false_or, true_or, or_true, or_false, cell_zero, cell_succ, cell_v, cells_v, cells_agg, List.length_cons, List.length_nil]; done))
  all_goals first
    | (exfalso; omega)
    | omega
    | (simp only [leftG]; omega)
    | exact notAgg_fn _ _
    | exact hX.notAgg
    | (rw [show hasF zs n = true from hc (by simp [*])]; done)
    | (rw [show hasF zs n = false from hA]; done)
    | (rw [ht, hA, Bool.false_or, Bool.and_eq_false_iff, decide_eq_false_iff_not, decide_eq_false_iff_not]; omega)
    | (rw [Bool.eq_iff_iff]; simp [rgd, emp]; omega)
    | (simp_all [inI, rgd, emp]; done)
    | (simp_all [inI, rgd, emp]; omega)
    | fail

end Go.Proofs.Ytpbmlllffmkkdaa