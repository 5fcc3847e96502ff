/-
  Layer 6: whether a set may be.
-/
import Derived.Test.YtpbmlllffmkkdaaT1
import Derived.Test.YtpbmlllffmkkdaaT2
namespace Go.Proofs.Ytpbmlllffmkkdaa
open Go.RowKit
set_option linter.unusedSimpArgs false
set_option linter.unusedVariables false


theorem cg {k : IntKind} {a b : Int} (h : b = a) : [D.v (.int k a)] = [D.v (.int k b)] := by rw [h]
def endF (zs : List (Int × Int)) : Nat → Int
  | 0 => -1
  | k + 1 => (zs.getD k (0, 0)).2
def ordP (zs : List (Int × Int)) (k : Nat) : Bool := decide (endF zs k < (zs.getD k (0, 0)).1)
def nrg (z : Int × Int) : Bool := !rgd z
def chkF (zs : List (Int × Int)) : Int := if zs.any nrg = true then 8 else if zs.any emp = true then 4 else if (List.range zs.length).all (ordP zs) = true then 0 else 10
theorem all_succ (p : Nat → Bool) (k : Nat) : (List.range (k + 1)).all p = ((List.range k).all p && p k) := by simp [List.range_succ]
theorem all_no {p : Nat → Bool} {k n : Nat} (h : k < n) (hp : p k = false) : (List.range n).all p = false := by
  rw [List.all_eq_false]; exact ⟨k, List.mem_range.2 h, by simp [hp]⟩
def mayI (n : Int) : Bool := decide (0 ≤ n) && decide (n ≤ 4611686018427387903)
theorem rgd_may (p q : Int) : rgd (p, q) = (mayI p && mayI q) := by simp [rgd, mayI, Bool.and_assoc]

theorem iv_get {zs : List (Int × Int)} {x : D} (hX : IsL 2 (zs.map iv) x) {k : Nat} (hk : k < zs.length) : x.at_ (.v (.int .i64 (k : Nat))) = iv (zs.getD k (0, 0)) := by
  rw [hX.at_]; simp [List.getD, hk]
theorem iv_inb {zs : List (Int × Int)} {x : D} (hX : IsL 2 (zs.map iv) x) {k : Nat} (hk : k < zs.length) : D.inb 2 x (.v (.int .i64 (k : Nat))) := hX.inb (by omega) (by simpa using hk)
theorem all_end {p : Nat → Bool} {k n : Nat} (h0 : 1 ≤ k) (h : n ≤ k) (hk : k ≤ n ∨ k = 1) (hp : (List.range k).all p = true) : (List.range n).all p = true := by
  rw [List.all_eq_true] at hp ⊢
  intro i hi
  exact hp i (List.mem_range.2 (by have := List.mem_range.1 hi; omega))
theorem ord1 {zs : List (Int × Int)} (h : zs.any nrg = false) : (List.range 1).all (ordP zs) = true := by
  cases zs with
  | nil => rfl
  | cons z zs =>
    simp only [List.any_cons, Bool.or_eq_false_iff] at h
    have := h.1
    simp [nrg, rgd] at this
    simp [List.range, List.range.loop, ordP, endF]
    omega

theorem vc_check (x : D) (zs : List (Int × Int)) : Cond Try.prog (fun k => if k = 3002 then some ⟨[], [], [0, 2], []⟩ else if k = 3006 then some ⟨[], [], [0, 2], []⟩ else if k = 3011 then some ⟨[], [], [0, 2, 5], [(5, [0], [])]⟩ else if k = 4002 then some ⟨[40], [], [], []⟩ else if k = 4006 then some ⟨[40], [], [], []⟩ else if k = 4011 then some ⟨[40], [], [], []⟩ else none) Try.f19 [x] [.v (.int .i64 (chkF zs))] = ((NotAgg x ∧ True) ∧ ∃ (r : D), ReadD Try.prog 33 [x] [r] ∧ (NotAgg r ∧ True) ∧ ∃ (caps : List D), ∃ (xs : List (List D)), ∃ (I : Nat → List D → Prop), r = D.fn 40 caps ∧ SeqD Try.prog 40 caps xs ∧ fitsX [some 2] xs ∧ ((x = x ∧ (true = true ∧ true = true) ∧ True) ∧ ((D.v (Value.int IntKind.i64 0) = D.v (Value.int IntKind.i64 0) ∧ True) ∧ True) ∧ I 0 []) ∧ (∀ (k : Nat) (r : D), xs[k]? = some [r] → I k [] → ∃ (r_1 : D), PureD Try.prog 38 [D.agg [r.cell 0, r.cell 1]] [r_1] ∧ fits [(false, [none])] [r_1] ∧ ∃ (r : D), D.un UnOp.not r_1 = some r ∧ ∃ (b : Bool), r = D.v (Value.bool b) ∧ (b = true → (True ∧ True) ∧ [D.v (Value.int IntKind.i64 8)] = [D.v (Value.int IntKind.i64 (chkF zs))]) ∧ (b = false → (x = x ∧ (true = true ∧ true = true) ∧ True) ∧ ((D.v (Value.int IntKind.i64 0) = D.v (Value.int IntKind.i64 0) ∧ True) ∧ True) ∧ I (k + 1) [])) ∧ (I xs.length [] → ∃ (r : D), ReadD Try.prog 33 [x] [r] ∧ (NotAgg r ∧ True) ∧ ∃ (caps : List D), ∃ (xs : List (List D)), ∃ (I : Nat → List D → Prop), r = D.fn 40 caps ∧ SeqD Try.prog 40 caps xs ∧ fitsX [some 2] xs ∧ ((x = x ∧ (true = true ∧ true = true) ∧ True) ∧ ((D.v (Value.int IntKind.i64 0) = D.v (Value.int IntKind.i64 0) ∧ True) ∧ True) ∧ I 0 []) ∧ (∀ (k : Nat) (r : D), xs[k]? = some [r] → I k [] → ∃ (r_1 : D), PureD Try.prog 31 [D.agg [r.cell 0, r.cell 1]] [r_1] ∧ fits [(false, [none])] [r_1] ∧ ∃ (b : Bool), r_1 = D.v (Value.bool b) ∧ (b = true → (True ∧ True) ∧ [D.v (Value.int IntKind.i64 4)] = [D.v (Value.int IntKind.i64 (chkF zs))]) ∧ (b = false → (x = x ∧ (true = true ∧ true = true) ∧ True) ∧ ((D.v (Value.int IntKind.i64 0) = D.v (Value.int IntKind.i64 0) ∧ True) ∧ True) ∧ I (k + 1) [])) ∧ (I xs.length [] → ∃ (r : D), ReadD Try.prog 33 [x] [r] ∧ (NotAgg r ∧ True) ∧ ∃ (caps : List D), ∃ (xs : List (List D)), ∃ (I : Nat → List D → Prop), r = D.fn 40 caps ∧ SeqD Try.prog 40 caps xs ∧ fitsX [some 2] xs ∧ ((x = x ∧ (true = true ∧ true = true) ∧ (true = true ∧ true = true) ∧ True) ∧ ((D.v (Value.int IntKind.i64 (-1)) = D.v (Value.int IntKind.i64 (-1)) ∧ True) ∧ (D.v (Value.int IntKind.i64 0) = D.v (Value.int IntKind.i64 0) ∧ True) ∧ True) ∧ I 0 [D.v (Value.int IntKind.i64 (-1))]) ∧ (∀ (k : Nat) (r : D), xs[k]? = some [r] → ∀ (r_1 : D), I k [r_1] → ∃ (r_2 : D), D.bin BinOp.leq (r.cell 0) r_1 = some r_2 ∧ ∃ (b : Bool), r_2 = D.v (Value.bool b) ∧ (b = true → (True ∧ True) ∧ [D.v (Value.int IntKind.i64 10)] = [D.v (Value.int IntKind.i64 (chkF zs))]) ∧ (b = false → (x = x ∧ (true = true ∧ true = true) ∧ (true = true ∧ true = true) ∧ True) ∧ ((r.cell 1 = r.cell 1 ∧ True) ∧ (D.v (Value.int IntKind.i64 0) = D.v (Value.int IntKind.i64 0) ∧ True) ∧ True) ∧ I (k + 1) [r.cell 1])) ∧ ∀ (r : D), I xs.length [r] → (True ∧ True) ∧ [D.v (Value.int IntKind.i64 0)] = [D.v (Value.int IntKind.i64 (chkF zs))]))) := by kernel_rfl
set_option maxHeartbeats 4000000 in
theorem check (x : D) (zs : List (Int × Int)) (hX : IsL 2 (zs.map iv) x) (hm : zs.length ≤ 100000)  : PureD Try.prog 19 [x] [.v (.int .i64 (chkF zs))] := by
  refine pure_cond (Lp := (fun k => if k = 3002 then some ⟨[], [], [0, 2], []⟩ else if k = 3006 then some ⟨[], [], [0, 2], []⟩ else if k = 3011 then some ⟨[], [], [0, 2, 5], [(5, [0], [])]⟩ else if k = 4002 then some ⟨[40], [], [], []⟩ else if k = 4006 then some ⟨[40], [], [], []⟩ else if k = 4011 then some ⟨[40], [], [], []⟩ else none)) (by kernel_rfl) Try.func19 (by kernel_rfl) (by kernel_rfl) ?_
  rw [vc_check x zs]
  have EA := each x hX.notAgg
  have hc8 : zs.any nrg = true → chkF zs = 8 := fun h => by unfold chkF; rw [if_pos h]
  have hc4 : zs.any nrg = false → zs.any emp = true → chkF zs = 4 := fun h h2 => by unfold chkF; rw [if_neg (by rw [h]; simp), if_pos h2]
  have hc10 : zs.any nrg = false → zs.any emp = false → (List.range zs.length).all (ordP zs) = false → chkF zs = 10 := fun h h2 h3 => by unfold chkF; rw [if_neg (by rw [h]; simp), if_neg (by rw [h2]; simp), if_neg (by rw [h3]; simp)]
  have hc0 : zs.any nrg = false → zs.any emp = false → (List.range zs.length).all (ordP zs) = true → chkF zs = 0 := fun h h2 h3 => by unfold chkF; rw [if_neg (by rw [h]; simp), if_neg (by rw [h2]; simp), if_pos h3]
  repeat' (first
    | (refine ex_some (by simp (disch := omega) only [bin_shr, bin_shl, bin_and, bin_or, bin_xor, len_str, toStr_ofL, bin_add, bin_sub, bin_mul, bin_quo, bin_rem, bin_lss, bin_leq, bin_gtr, bin_geq, bin_eql, bin_neq, eqs_cn, eqs_ci, eqs_cb, eqs_cs, Option.map_some, lenT_ofL, lst_ofL, lstSz_ofL, chunk_one, lst_nil, lst_sl, lstSz_sl, lstSz_nil, Bool.and_true, Bool.true_and, Bool.and_false, Bool.false_and, beq_self_eq_true, beq_bb, bne_bb, un_not, un_neg, conv_int, min2_int, max2_int, w64, w32, wu8, wu16, wu32, wu64, tdiv_nn, tmod_nn, cell_zero, cell_succ, cell_v, cells_v, cells_agg, Bool.not_true, Bool.not_false, Int.reduceLT, Int.reduceLE, Int.reduceEq, Int.reduceNeg, Int.reduceAdd, Int.reduceSub, Int.reduceMul, intOf_v, decide_true, decide_false]; rfl) ?_)
    | (refine ex_bool ?_)
    | (refine ⟨_, EA, ?_⟩)
    | (refine ⟨_, R, ?_⟩)
    | (have := out2; refine ⟨_, zs.map fun z => [iv z], (fun k r => (List.range k).all (ordP zs) = true ∧ r = [.v (.int .i64 (endF zs k))]), rfl, seq_each hX (by omega), fits_iv zs, ?_, ?_, ?_⟩)
    | (have := out2; exact ⟨rfl, rfl⟩)
    | (have := out2; refine fun (k : Nat) (r : D) (hk : (zs.map fun z => [iv z])[k]? = some [r]) => ?_; obtain ⟨hk1, rfl⟩ := iv_at hk; clear hk; refine fun (r4 : D) (hI : (fun k r => (List.range k).all (ordP zs) = true ∧ r = [.v (.int .i64 (endF zs k))]) k [r4]) => ?_; obtain ⟨hC, hl0⟩ := hI; simp only [List.cons.injEq, and_true] at hl0; subst hl0; have ho : ordP zs k = decide (endF zs k < (zs.getD k (0, 0)).1) := rfl; have he : endF zs (k + 1) = (zs.getD k (0, 0)).2 := rfl; generalize zs.getD k (0, 0) = z at ho he; obtain ⟨p, q⟩ := z; simp only [iv, cell_zero, cell_succ, cells_agg, List.length_cons, List.length_nil]; simp only at ho he; have n10 : endF zs k < p → (List.range (k + 1)).all (ordP zs) = true := fun h => (by rw [all_succ, hC, ho]; simp [h]); have h10 : p ≤ endF zs k → chkF zs = 10 := fun h => hc10 hA hB (all_no hk1 (by rw [ho, decide_eq_false_iff_not]; omega)); have inl3 : True := trivial)
    | (have := out2; refine fun (r4 : D) (hI : (fun k r => (List.range k).all (ordP zs) = true ∧ r = [.v (.int .i64 (endF zs k))]) (zs.map fun z => [iv z]).length [r4]) => ?_; rw [List.length_map] at hI; obtain ⟨hC, hl0⟩ := hI; simp only [List.cons.injEq, and_true] at hl0; subst hl0; have out3 : True := trivial)
    | (have := out1; refine ⟨_, zs.map fun z => [iv z], (fun k r => (zs.take k).any emp = false ∧ r = []), rfl, seq_each hX (by omega), fits_iv zs, ?_, ?_, ?_⟩)
    | (have := out1; exact ⟨rfl, rfl⟩)
    | (have := out1; refine fun (k : Nat) (r : D) (hk : (zs.map fun z => [iv z])[k]? = some [r]) => ?_; obtain ⟨hk1, rfl⟩ := iv_at hk; clear hk; refine fun (hI : (fun k r => (zs.take k).any emp = false ∧ r = []) k []) => ?_; obtain ⟨hB, hl0⟩ := hI; clear hl0; have ht := any_succ (d := (0, 0)) hk1 emp; have h4 := any_at (d := (0, 0)) hk1 (p := emp); generalize zs.getD k (0, 0) = z at ht h4; obtain ⟨p, q⟩ := z; simp only [iv, cell_zero, cell_succ, cells_agg, List.length_cons, List.length_nil]; have n4 : emp (p, q) = false → (zs.take (k + 1)).any emp = false := fun h => (by rw [ht, hB, h]; rfl); replace h4 : emp (p, q) = true → chkF zs = 4 := fun h => hc4 hA (h4 h); have R := empty p q; have inl2 : True := trivial)
    | (have := out1; refine fun (hI : (fun k r => (zs.take k).any emp = false ∧ r = []) (zs.map fun z => [iv z]).length []) => ?_; rw [List.length_map] at hI; obtain ⟨hB, hl0⟩ := hI; clear hl0; rw [List.take_length] at hB; have out2 : True := trivial)
    | (refine ⟨_, zs.map fun z => [iv z], (fun k r => (zs.take k).any nrg = false ∧ r = []), rfl, seq_each hX (by omega), fits_iv zs, ?_, ?_, ?_⟩)
    | (exact ⟨rfl, rfl⟩)
    | (refine fun (k : Nat) (r : D) (hk : (zs.map fun z => [iv z])[k]? = some [r]) => ?_; obtain ⟨hk1, rfl⟩ := iv_at hk; clear hk; refine fun (hI : (fun k r => (zs.take k).any nrg = false ∧ r = []) k []) => ?_; obtain ⟨hA, hl0⟩ := hI; clear hl0; have ht := any_succ (d := (0, 0)) hk1 nrg; have h8 := any_at (d := (0, 0)) hk1 (p := nrg); generalize zs.getD k (0, 0) = z at ht h8; obtain ⟨p, q⟩ := z; simp only [iv, cell_zero, cell_succ, cells_agg, List.length_cons, List.length_nil]; have n8 : rgd (p, q) = true → (zs.take (k + 1)).any nrg = false := fun h => (by rw [ht, hA]; simp [nrg, h]); replace h8 : rgd (p, q) = false → chkF zs = 8 := fun h => hc8 (h8 (by simp [nrg, h])); have R := ranged p q; have inl1 : True := trivial)
    | (refine fun (hI : (fun k r => (zs.take k).any nrg = false ∧ r = []) (zs.map fun z => [iv z]).length []) => ?_; rw [List.length_map] at hI; obtain ⟨hA, hl0⟩ := hI; clear hl0; rw [List.take_length] at hA; have out1 : True := trivial)
    | (have := inl3; refine ⟨?_, congrArg (fun t => [D.v (Value.int IntKind.i64 t)]) he.symm⟩)
    | (have := inl2; refine ⟨?_, rfl⟩)
    | (have := inl1; refine ⟨?_, rfl⟩)
    | (refine And.intro ?_ ?_)
    | (intro hx; have hprop := (show ∀ (p : Prop), p → True from fun _ _ => True.intro) _ hx; clear hprop; first | (cases hx; done) | (exfalso; revert hx; simp (disch := omega) only [decide_eq_true_eq, decide_eq_false_iff_not, Bool.not_eq_true', Bool.not_eq_false', Bool.and_eq_true, Bool.and_eq_false_iff, Int.not_lt, Int.not_le, ne_eq, not_false_eq_true, not_true_eq_false, reduceCtorEq, Bool.true_eq_false, Bool.false_eq_true, beq_iff_eq, bne_iff_ne, beq_eq_false_iff_ne, false_or, or_false, true_and, and_true]; done) | (simp (disch := omega) only [decide_eq_true_eq, decide_eq_false_iff_not, Bool.not_eq_true', Bool.not_eq_false', Bool.and_eq_true, Bool.and_eq_false_iff, Int.not_lt, Int.not_le, ne_eq, not_false_eq_true, not_true_eq_false, reduceCtorEq, Bool.true_eq_false, Bool.false_eq_true, beq_iff_eq, bne_iff_ne, beq_eq_false_iff_ne, false_or, or_false, true_and, and_true] at hx; first | (exfalso; omega) | skip) | skip)
    | trivial
    | exact fit_ofL _ _
    | (simp (disch := omega) only [notAgg_v, notAgg_sl, plain_v, fits, fitsOne, fitsCells, xsOf, cell_zero, cell_succ, List.range, List.range.loop, List.map, cond_true, cond_false, D.v.injEq, exists_eq', exists_eq, and_self, and_true, true_and, D.agg.injEq, List.length, exists_eq_left', D.sl.injEq, reduceCtorEq, false_or, true_or, or_true, or_false, cell_zero, cell_succ, cell_v, cells_v, cells_agg, List.length_cons, List.length_nil]; done))
  all_goals first
    | (exfalso; omega)
    | omega
    | (simp only [leftG]; omega)
    | (rw [h2e]; exact Nat.le_refl _)
    | exact notAgg_fn _ _
    | exact hX.notAgg
    | (refine cg (h8 ?_); assumption)
    | (refine cg (h4 ?_); assumption)
    | (refine cg (h10 ?_); assumption)
    | (refine cg (hc0 hA hB ?_); assumption)
    | (refine n8 ?_; assumption)
    | (refine n4 ?_; assumption)
    | (refine n10 ?_; assumption)
    | (rw [Bool.eq_iff_iff]; simp [rgd, emp]; omega)
    | (simp_all [inI, rgd, emp]; done)
    | (simp_all [inI, rgd, emp]; omega)
    | fail

theorem vc_rin (p : Int) : Cond Try.prog (fun _ => none) Try.f41 [.v (.int .i64 p)] [.v (.bool (mayI p))] = ((NotAgg (D.v (Value.int IntKind.i64 p)) ∧ True) ∧ ∃ (r : D), D.bin BinOp.geq (D.v (Value.int IntKind.i64 p)) (D.v (Value.int IntKind.i64 0)) = some r ∧ ∃ (b : Bool), r = D.v (Value.bool b) ∧ (b = true → ∃ (r : D), D.bin BinOp.leq (D.v (Value.int IntKind.i64 p)) (D.v (Value.int IntKind.i64 4611686018427387903)) = some r ∧ ((∃ (y : Value), r = D.v y) ∧ True) ∧ [r] = [D.v (Value.bool (mayI p))]) ∧ (b = false → (True ∧ True) ∧ [D.v (Value.bool false)] = [D.v (Value.bool (mayI p))])) := by kernel_rfl
theorem rin (p : Int)  : PureD Try.prog 41 [.v (.int .i64 p)] [.v (.bool (mayI p))] := by
  refine pure_cond (Lp := (fun _ => none)) (by kernel_rfl) Try.func41 (by kernel_rfl) (by kernel_rfl) ?_
  rw [vc_rin p]
  repeat' (first
    | (refine ex_some (by simp (disch := omega) only [bin_shr, bin_shl, bin_and, bin_or, bin_xor, len_str, toStr_ofL, bin_add, bin_sub, bin_mul, bin_quo, bin_rem, bin_lss, bin_leq, bin_gtr, bin_geq, bin_eql, bin_neq, eqs_cn, eqs_ci, eqs_cb, eqs_cs, Option.map_some, lenT_ofL, lst_ofL, lstSz_ofL, chunk_one, lst_nil, lst_sl, lstSz_sl, lstSz_nil, Bool.and_true, Bool.true_and, Bool.and_false, Bool.false_and, beq_self_eq_true, beq_bb, bne_bb, un_not, un_neg, conv_int, min2_int, max2_int, w64, w32, wu8, wu16, wu32, wu64, tdiv_nn, tmod_nn, cell_zero, cell_succ, cell_v, cells_v, cells_agg, Bool.not_true, Bool.not_false, Int.reduceLT, Int.reduceLE, Int.reduceEq, Int.reduceNeg, Int.reduceAdd, Int.reduceSub, Int.reduceMul, intOf_v, decide_true, decide_false]; rfl) ?_)
    | (refine ex_bool ?_)
    | (refine And.intro ?_ ?_)
    | (intro hx; have hprop := (show ∀ (p : Prop), p → True from fun _ _ => True.intro) _ hx; clear hprop; first | (cases hx; done) | (exfalso; revert hx; simp (disch := omega) only [decide_eq_true_eq, decide_eq_false_iff_not, Bool.not_eq_true', Bool.not_eq_false', Bool.and_eq_true, Bool.and_eq_false_iff, Int.not_lt, Int.not_le, ne_eq, not_false_eq_true, not_true_eq_false, reduceCtorEq, Bool.true_eq_false, Bool.false_eq_true, beq_iff_eq, bne_iff_ne, beq_eq_false_iff_ne, false_or, or_false, true_and, and_true]; done) | (simp (disch := omega) only [decide_eq_true_eq, decide_eq_false_iff_not, Bool.not_eq_true', Bool.not_eq_false', Bool.and_eq_true, Bool.and_eq_false_iff, Int.not_lt, Int.not_le, ne_eq, not_false_eq_true, not_true_eq_false, reduceCtorEq, Bool.true_eq_false, Bool.false_eq_true, beq_iff_eq, bne_iff_ne, beq_eq_false_iff_ne, false_or, or_false, true_and, and_true] at hx; first | (exfalso; omega) | skip) | skip)
    | trivial
    | exact fit_ofL _ _
    | (simp (disch := omega) only [notAgg_v, notAgg_sl, plain_v, fits, fitsOne, fitsCells, xsOf, cell_zero, cell_succ, List.range, List.range.loop, List.map, cond_true, cond_false, D.v.injEq, exists_eq', exists_eq, and_self, and_true, true_and, D.agg.injEq, List.length, exists_eq_left', D.sl.injEq, reduceCtorEq, false_or, true_or, or_true, or_false, cell_zero, cell_succ, cell_v, cells_v, cells_agg, List.length_cons, List.length_nil]; done))
  all_goals first
    | (simp_all [mayI]; done)
    | (simp [mayI]; omega)
    | fail

theorem vc_rmay (p q : Int) : Cond Try.prog (fun _ => none) Try.f34 [.agg [.v (.int .i64 p), .v (.int .i64 q)]] [.v (.bool (rgd (p, q)))] = (((∃ (cs : List D), D.agg [D.v (Value.int IntKind.i64 p), D.v (Value.int IntKind.i64 q)] = D.agg cs ∧ cs.length = 2) ∧ True) ∧ ∃ (r : D), PureD Try.prog 41 [D.v (Value.int IntKind.i64 p)] [r] ∧ fits [(false, [none])] [r] ∧ ∃ (b : Bool), r = D.v (Value.bool b) ∧ (b = true → ∃ (r : D), PureD Try.prog 41 [D.v (Value.int IntKind.i64 q)] [r] ∧ fits [(false, [none])] [r] ∧ ((∃ (y : Value), r = D.v y) ∧ True) ∧ [r] = [D.v (Value.bool (rgd (p, q)))]) ∧ (b = false → (True ∧ True) ∧ [D.v (Value.bool false)] = [D.v (Value.bool (rgd (p, q)))])) := by kernel_rfl
theorem rmay (p q : Int)  : PureD Try.prog 34 [.agg [.v (.int .i64 p), .v (.int .i64 q)]] [.v (.bool (rgd (p, q)))] := by
  refine pure_cond (Lp := (fun _ => none)) (by kernel_rfl) Try.func34 (by kernel_rfl) (by kernel_rfl) ?_
  rw [vc_rmay p q]
  have A := rin p
  have B := rin q
  repeat' (first
    | (refine ex_some (by simp (disch := omega) only [bin_shr, bin_shl, bin_and, bin_or, bin_xor, len_str, toStr_ofL, bin_add, bin_sub, bin_mul, bin_quo, bin_rem, bin_lss, bin_leq, bin_gtr, bin_geq, bin_eql, bin_neq, eqs_cn, eqs_ci, eqs_cb, eqs_cs, Option.map_some, lenT_ofL, lst_ofL, lstSz_ofL, chunk_one, lst_nil, lst_sl, lstSz_sl, lstSz_nil, Bool.and_true, Bool.true_and, Bool.and_false, Bool.false_and, beq_self_eq_true, beq_bb, bne_bb, un_not, un_neg, conv_int, min2_int, max2_int, w64, w32, wu8, wu16, wu32, wu64, tdiv_nn, tmod_nn, cell_zero, cell_succ, cell_v, cells_v, cells_agg, Bool.not_true, Bool.not_false, Int.reduceLT, Int.reduceLE, Int.reduceEq, Int.reduceNeg, Int.reduceAdd, Int.reduceSub, Int.reduceMul, intOf_v, decide_true, decide_false]; rfl) ?_)
    | (refine ex_bool ?_)
    | (refine ⟨_, A, ?_⟩)
    | (refine ⟨_, B, ?_⟩)
    | (refine And.intro ?_ ?_)
    | (intro hx; have hprop := (show ∀ (p : Prop), p → True from fun _ _ => True.intro) _ hx; clear hprop; first | (cases hx; done) | (exfalso; revert hx; simp (disch := omega) only [decide_eq_true_eq, decide_eq_false_iff_not, Bool.not_eq_true', Bool.not_eq_false', Bool.and_eq_true, Bool.and_eq_false_iff, Int.not_lt, Int.not_le, ne_eq, not_false_eq_true, not_true_eq_false, reduceCtorEq, Bool.true_eq_false, Bool.false_eq_true, beq_iff_eq, bne_iff_ne, beq_eq_false_iff_ne, false_or, or_false, true_and, and_true]; done) | (simp (disch := omega) only [decide_eq_true_eq, decide_eq_false_iff_not, Bool.not_eq_true', Bool.not_eq_false', Bool.and_eq_true, Bool.and_eq_false_iff, Int.not_lt, Int.not_le, ne_eq, not_false_eq_true, not_true_eq_false, reduceCtorEq, Bool.true_eq_false, Bool.false_eq_true, beq_iff_eq, bne_iff_ne, beq_eq_false_iff_ne, false_or, or_false, true_and, and_true] at hx; first | (exfalso; omega) | skip) | skip)
    | trivial
    | exact fit_ofL _ _
    | (simp (disch := omega) only [notAgg_v, notAgg_sl, plain_v, fits, fitsOne, fitsCells, xsOf, cell_zero, cell_succ, List.range, List.range.loop, List.map, cond_true, cond_false, D.v.injEq, exists_eq', exists_eq, and_self, and_true, true_and, D.agg.injEq, List.length, exists_eq_left', D.sl.injEq, reduceCtorEq, false_or, true_or, or_true, or_false, cell_zero, cell_succ, cell_v, cells_v, cells_agg, List.length_cons, List.length_nil]; done))
  all_goals first
    | (rw [rgd_may]; simp_all; done)
    | fail

theorem vc_rcheck (x : D) (zs : List (Int × Int)) : Cond Try.prog (fun k => if k = 2 then some ⟨[3], [], [0], []⟩ else if k = 7 then some ⟨[4], [], [0], []⟩ else if k = 12 then some ⟨[5], [], [0], []⟩ else none) Try.f20 [x] [.v (.int .i64 (chkF zs))] = ((NotAgg x ∧ True) ∧ ∃ (I : List D → Prop), ∃ (μ : List D → Nat), ((D.v (Value.int IntKind.i64 0) = D.v (Value.int IntKind.i64 0) ∧ x = x ∧ True) ∧ True ∧ I [D.v (Value.int IntKind.i64 0)]) ∧ ∀ (r : D), I [r] → ∃ (r_1 : D), D.lenT (TypeDesc.slice 24) x = some r_1 ∧ ∃ (r_2 : D), D.bin BinOp.lss r r_1 = some r_2 ∧ ∃ (b : Bool), r_2 = D.v (Value.bool b) ∧ (b = true → D.inb 2 x r ∧ 0 + 2 ≤ (x.at_ r).cells.length ∧ ∃ (r_3 : D), PureD Try.prog 34 [D.agg [(x.at_ r).cell (0 + 0), (x.at_ r).cell (0 + 1)]] [r_3] ∧ fits [(false, [none])] [r_3] ∧ ∃ (r_4 : D), D.un UnOp.not r_3 = some r_4 ∧ ∃ (b : Bool), r_4 = D.v (Value.bool b) ∧ (b = true → (True ∧ True) ∧ [D.v (Value.int IntKind.i64 8)] = [D.v (Value.int IntKind.i64 (chkF zs))]) ∧ (b = false → ∃ (r_5 : D), D.bin BinOp.add r (D.v (Value.int IntKind.i64 1)) = some r_5 ∧ (r_5 = r_5 ∧ x = x ∧ True) ∧ True ∧ I [r_5] ∧ μ [r_5] < μ [r])) ∧ (b = false → ∃ (I : List D → Prop), ∃ (μ : List D → Nat), ((D.v (Value.int IntKind.i64 0) = D.v (Value.int IntKind.i64 0) ∧ x = x ∧ True) ∧ True ∧ I [D.v (Value.int IntKind.i64 0)]) ∧ ∀ (r : D), I [r] → ∃ (r_3 : D), D.lenT (TypeDesc.slice 24) x = some r_3 ∧ ∃ (r_4 : D), D.bin BinOp.lss r r_3 = some r_4 ∧ ∃ (b : Bool), r_4 = D.v (Value.bool b) ∧ (b = true → D.inb 2 x r ∧ 0 + 1 + 1 ≤ (x.at_ r).cells.length ∧ D.inb 2 x r ∧ 0 + 1 ≤ (x.at_ r).cells.length ∧ ∃ (r_5 : D), D.bin BinOp.leq ((x.at_ r).cell (0 + 1)) ((x.at_ r).cell 0) = some r_5 ∧ ∃ (b : Bool), r_5 = D.v (Value.bool b) ∧ (b = true → (True ∧ True) ∧ [D.v (Value.int IntKind.i64 4)] = [D.v (Value.int IntKind.i64 (chkF zs))]) ∧ (b = false → ∃ (r_6 : D), D.bin BinOp.add r (D.v (Value.int IntKind.i64 1)) = some r_6 ∧ (r_6 = r_6 ∧ x = x ∧ True) ∧ True ∧ I [r_6] ∧ μ [r_6] < μ [r])) ∧ (b = false → ∃ (I : List D → Prop), ∃ (μ : List D → Nat), ((D.v (Value.int IntKind.i64 1) = D.v (Value.int IntKind.i64 1) ∧ x = x ∧ True) ∧ True ∧ I [D.v (Value.int IntKind.i64 1)]) ∧ ∀ (r : D), I [r] → ∃ (r_5 : D), D.lenT (TypeDesc.slice 24) x = some r_5 ∧ ∃ (r_6 : D), D.bin BinOp.lss r r_5 = some r_6 ∧ ∃ (b : Bool), r_6 = D.v (Value.bool b) ∧ (b = true → D.inb 2 x r ∧ 0 + 1 ≤ (x.at_ r).cells.length ∧ ∃ (r_7 : D), D.bin BinOp.sub r (D.v (Value.int IntKind.i64 1)) = some r_7 ∧ D.inb 2 x r_7 ∧ 0 + 1 + 1 ≤ (x.at_ r_7).cells.length ∧ ∃ (r_8 : D), D.bin BinOp.leq ((x.at_ r).cell 0) ((x.at_ r_7).cell (0 + 1)) = some r_8 ∧ ∃ (b : Bool), r_8 = D.v (Value.bool b) ∧ (b = true → (True ∧ True) ∧ [D.v (Value.int IntKind.i64 10)] = [D.v (Value.int IntKind.i64 (chkF zs))]) ∧ (b = false → ∃ (r_9 : D), D.bin BinOp.add r (D.v (Value.int IntKind.i64 1)) = some r_9 ∧ (r_9 = r_9 ∧ x = x ∧ True) ∧ True ∧ I [r_9] ∧ μ [r_9] < μ [r])) ∧ (b = false → (True ∧ True) ∧ [D.v (Value.int IntKind.i64 0)] = [D.v (Value.int IntKind.i64 (chkF zs))])))) := by kernel_rfl
set_option maxHeartbeats 4000000 in
theorem rcheck (x : D) (zs : List (Int × Int)) (hX : IsL 2 (zs.map iv) x) (hm : zs.length ≤ 100000)  : PureD Try.prog 20 [x] [.v (.int .i64 (chkF zs))] := by
  refine pure_cond (Lp := (fun k => if k = 2 then some ⟨[3], [], [0], []⟩ else if k = 7 then some ⟨[4], [], [0], []⟩ else if k = 12 then some ⟨[5], [], [0], []⟩ else none)) (by kernel_rfl) Try.func20 (by kernel_rfl) (by kernel_rfl) ?_
  rw [vc_rcheck x zs]
  simp only [hX.lenT, List.length_map, Option.some.injEq, exists_eq_left']
  have h2e : True := trivial
  have h1 : True := trivial
  have hc8 : zs.any nrg = true → chkF zs = 8 := fun h => by unfold chkF; rw [if_pos h]
  have hc4 : zs.any nrg = false → zs.any emp = true → chkF zs = 4 := fun h h2 => by unfold chkF; rw [if_neg (by rw [h]; simp), if_pos h2]
  have hc10 : zs.any nrg = false → zs.any emp = false → (List.range zs.length).all (ordP zs) = false → chkF zs = 10 := fun h h2 h3 => by unfold chkF; rw [if_neg (by rw [h]; simp), if_neg (by rw [h2]; simp), if_neg (by rw [h3]; simp)]
  have hc0 : zs.any nrg = false → zs.any emp = false → (List.range zs.length).all (ordP zs) = true → chkF zs = 0 := fun h h2 h3 => by unfold chkF; rw [if_neg (by rw [h]; simp), if_neg (by rw [h2]; simp), if_pos h3]
  repeat' (first
    | (refine ex_some (by simp (disch := omega) only [bin_shr, bin_shl, bin_and, bin_or, bin_xor, len_str, toStr_ofL, bin_add, bin_sub, bin_mul, bin_quo, bin_rem, bin_lss, bin_leq, bin_gtr, bin_geq, bin_eql, bin_neq, eqs_cn, eqs_ci, eqs_cb, eqs_cs, Option.map_some, lenT_ofL, lst_ofL, lstSz_ofL, chunk_one, lst_nil, lst_sl, lstSz_sl, lstSz_nil, Bool.and_true, Bool.true_and, Bool.and_false, Bool.false_and, beq_self_eq_true, beq_bb, bne_bb, un_not, un_neg, conv_int, min2_int, max2_int, w64, w32, wu8, wu16, wu32, wu64, tdiv_nn, tmod_nn, cell_zero, cell_succ, cell_v, cells_v, cells_agg, Bool.not_true, Bool.not_false, Int.reduceLT, Int.reduceLE, Int.reduceEq, Int.reduceNeg, Int.reduceAdd, Int.reduceSub, Int.reduceMul, intOf_v, decide_true, decide_false, hX.lenT, List.length_map, h1, h2e]; rfl) ?_)
    | (refine ex_bool ?_)
    | (refine ⟨_, R, ?_⟩)
    | (exact i1)
    | (exact i2)
    | (have := out2; refine ⟨(fun r => ∃ k : Nat, 1 ≤ k ∧ (k ≤ zs.length ∨ k = 1) ∧ (List.range k).all (ordP zs) = true ∧ r = [.v (.int .i64 (k : Nat))]), leftG zs.length, ?_⟩)
    | (have := out2; refine fun (r2 : D) (hI : (fun r => ∃ k : Nat, 1 ≤ k ∧ (k ≤ zs.length ∨ k = 1) ∧ (List.range k).all (ordP zs) = true ∧ r = [.v (.int .i64 (k : Nat))]) [r2]) => ?_; obtain ⟨k, hk0, hk, hC, hl0⟩ := hI; simp only [List.cons.injEq, and_true] at hl0; subst hl0; by_cases hlt : k < zs.length <;> first | (have hk1 : k < zs.length := (by omega); obtain ⟨j, rfl⟩ : ∃ j, k = j + 1 := ⟨k - 1, by omega⟩; have h1 := iv_get hX hk1; have i1 := iv_inb hX hk1; have h2 := iv_get hX (k := j) (by omega); have i2 := iv_inb hX (k := j) (by omega); have hj : (((j + 1 : Nat)) : Int) - 1 = (j : Nat) := (by omega); have ho : ordP zs (j + 1) = decide ((zs.getD j (0, 0)).2 < (zs.getD (j + 1) (0, 0)).1) := rfl; generalize zs.getD (j + 1) (0, 0) = z at h1 ho; generalize zs.getD j (0, 0) = y at h2 ho; obtain ⟨p, q⟩ := z; obtain ⟨p0, q0⟩ := y; simp only at ho; have n10 : q0 < p → (List.range (j + 1 + 1)).all (ordP zs) = true := fun h => (by rw [all_succ, hC, ho]; simp [h]); have h10 : p ≤ q0 → chkF zs = 10 := fun h => hc10 hA hB (all_no hk1 (by rw [ho, decide_eq_false_iff_not]; omega)); have h2e := h2; rw [← hj] at h2e i2; simp only [iv] at h2e h1; simp only [h1, h2e, iv, Nat.zero_add, cell_zero, cell_succ, cells_agg, List.length_cons, List.length_nil]; have inl3 : True := trivial) | (have hkk : (List.range zs.length).all (ordP zs) = true := all_end hk0 (by omega) (by omega) hC; have out3 : True := trivial))
    | (have := out1; refine ⟨(fun r => ∃ k : Nat, k ≤ zs.length ∧ (zs.take k).any emp = false ∧ r = [.v (.int .i64 (k : Nat))]), leftG zs.length, ?_⟩)
    | (have := out1; refine fun (r2 : D) (hI : (fun r => ∃ k : Nat, k ≤ zs.length ∧ (zs.take k).any emp = false ∧ r = [.v (.int .i64 (k : Nat))]) [r2]) => ?_; obtain ⟨k, hk, hB, hl0⟩ := hI; simp only [List.cons.injEq, and_true] at hl0; subst hl0; by_cases hlt : k < zs.length <;> first | (have hk1 : k < zs.length := (by omega); have h1 := iv_get hX hk1; have i1 := iv_inb hX hk1; have ht := any_succ (d := (0, 0)) hk1 emp; have h4 := any_at (d := (0, 0)) hk1 (p := emp); generalize zs.getD k (0, 0) = z at h1 ht h4; obtain ⟨p, q⟩ := z; have n4 : p < q → (zs.take (k + 1)).any emp = false := fun h => (by rw [ht, hB]; simp [emp]; omega); replace h4 : q ≤ p → chkF zs = 4 := fun h => hc4 hA (h4 (by simp [emp, h])); simp only [h1, iv, Nat.zero_add, cell_zero, cell_succ, cells_agg, List.length_cons, List.length_nil]; have inl2 : True := trivial) | (have hkk : k = zs.length := (by omega); subst hkk; rw [List.take_length] at hB; have out2 : True := trivial))
    | (refine ⟨(fun r => ∃ k : Nat, k ≤ zs.length ∧ (zs.take k).any nrg = false ∧ r = [.v (.int .i64 (k : Nat))]), leftG zs.length, ?_⟩)
    | (refine fun (r2 : D) (hI : (fun r => ∃ k : Nat, k ≤ zs.length ∧ (zs.take k).any nrg = false ∧ r = [.v (.int .i64 (k : Nat))]) [r2]) => ?_; obtain ⟨k, hk, hA, hl0⟩ := hI; simp only [List.cons.injEq, and_true] at hl0; subst hl0; by_cases hlt : k < zs.length <;> first | (have hk1 : k < zs.length := (by omega); have h1 := iv_get hX hk1; have i1 := iv_inb hX hk1; have ht := any_succ (d := (0, 0)) hk1 nrg; have h8 := any_at (d := (0, 0)) hk1 (p := nrg); generalize zs.getD k (0, 0) = z at h1 ht h8; obtain ⟨p, q⟩ := z; have R := rmay p q; have n8 : rgd (p, q) = true → (zs.take (k + 1)).any nrg = false := fun h => (by rw [ht, hA]; simp [nrg, h]); replace h8 : rgd (p, q) = false → chkF zs = 8 := fun h => hc8 (h8 (by simp [nrg, h])); simp only [h1, iv, Nat.zero_add, cell_zero, cell_succ, cells_agg, List.length_cons, List.length_nil]; have inl1 : True := trivial) | (have hkk : k = zs.length := (by omega); subst hkk; rw [List.take_length] at hA; have out1 : True := trivial))
    | (have := inl3; refine ⟨j + 1 + 1, by omega, by omega, ?_, rfl⟩)
    | (have := inl2; refine ⟨k + 1, by omega, ?_, rfl⟩)
    | (have := inl1; refine ⟨k + 1, by omega, ?_, rfl⟩)
    | (have := out2; exact ⟨1, Nat.le_refl _, .inr rfl, ord1 hA, rfl⟩)
    | (have := out1; exact ⟨0, by omega, rfl, rfl⟩)
    | (exact ⟨0, by omega, rfl, rfl⟩)
    | (refine And.intro ?_ ?_)
    | (intro hx; have hprop := (show ∀ (p : Prop), p → True from fun _ _ => True.intro) _ hx; clear hprop; first | (cases hx; done) | (exfalso; revert hx; simp (disch := omega) only [decide_eq_true_eq, decide_eq_false_iff_not, Bool.not_eq_true', Bool.not_eq_false', Bool.and_eq_true, Bool.and_eq_false_iff, Int.not_lt, Int.not_le, ne_eq, not_false_eq_true, not_true_eq_false, reduceCtorEq, Bool.true_eq_false, Bool.false_eq_true, beq_iff_eq, bne_iff_ne, beq_eq_false_iff_ne, false_or, or_false, true_and, and_true, hX.lenT, List.length_map, h1, h2e]; done) | (simp (disch := omega) only [decide_eq_true_eq, decide_eq_false_iff_not, Bool.not_eq_true', Bool.not_eq_false', Bool.and_eq_true, Bool.and_eq_false_iff, Int.not_lt, Int.not_le, ne_eq, not_false_eq_true, not_true_eq_false, reduceCtorEq, Bool.true_eq_false, Bool.false_eq_true, beq_iff_eq, bne_iff_ne, beq_eq_false_iff_ne, false_or, or_false, true_and, and_true, hX.lenT, List.length_map, h1, h2e] at hx; first | (exfalso; omega) | skip) | skip)
    | trivial
    | exact fit_ofL _ _
    | (simp (disch := omega) only [notAgg_v, notAgg_sl, plain_v, fits, fitsOne, fitsCells, xsOf, cell_zero, cell_succ, List.range, List.range.loop, List.map, cond_true, cond_false, D.v.injEq, exists_eq', exists_eq, and_self, and_true, true_and, D.agg.injEq, List.length, exists_eq_left', D.sl.injEq, reduceCtorEq, false_or, true_or, or_true, or_false, cell_zero, cell_succ, cell_v, cells_v, cells_agg, List.length_cons, List.length_nil, hX.lenT, List.length_map, h1, h2e]; done))
  all_goals first
    | (exfalso; omega)
    | omega
    | (simp only [leftG]; omega)
    | (rw [h2e]; exact Nat.le_refl _)
    | exact notAgg_fn _ _
    | exact hX.notAgg
    | (refine cg (h8 ?_); assumption)
    | (refine cg (h4 ?_); assumption)
    | (refine cg (h10 ?_); assumption)
    | (refine cg (hc0 hA hB ?_); assumption)
    | (refine n8 ?_; assumption)
    | (refine n4 ?_; assumption)
    | (refine n10 ?_; assumption)
    | (rw [Bool.eq_iff_iff]; simp [rgd, emp]; omega)
    | (simp_all [inI, rgd, emp]; done)
    | (simp_all [inI, rgd, emp]; omega)
    | fail

end Go.Proofs.Ytpbmlllffmkkdaa