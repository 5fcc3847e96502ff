/-
  Layer 6: what the document tells of a set; the law IvalsTell.
-/
import Derived.Test.YtpbmlllffmkkdaaT1
import Derived.Test.YtpbmlllffmkkdaaT2
import Derived.Test.YtpbmlllffmkkdaaT3
import Derived.Test.YtpbmlllffmkkdaaT4
import Derived.Test.YtpbmlllffmkkdaaT5
import Derived.Test.YtpbmlllffmkkdaaT6
import Derived.Test.YtpbmlllffmkkdaaT7
namespace Go.Proofs.Ytpbmlllffmkkdaa
open Go.RowKit
set_option linter.unusedSimpArgs false
set_option linter.unusedVariables false


def itR (zs : List Z) : Nat → Int → Int
  | 0, a => a
  | t + 1, a => zs.foldl stp (itR zs t a)
def Apt (zs : List Z) : Prop := zs.Pairwise (fun a b => a.2 < b.1) ∧ ∀ z ∈ zs, z.1 < z.2
theorem apt_of {zs : List Z} (h : chkF zs = 0) : Apt zs := by
  have key : ∀ d i, i + d + 1 < zs.length → (zs.getD i (0, 0)).2 < (zs.getD (i + d + 1) (0, 0)).1 := by
    intro d
    induction d with
    | zero => intro i hi; exact (chk_at h (k := i + 1) hi).2.2
    | succ d ih =>
      intro i hi
      have h1 := ih i (by omega)
      have h2 := chk_at h (k := i + d + 1) (by omega)
      have h3 : (zs.getD (i + d + 1) (0, 0)).2 < (zs.getD (i + d + 1 + 1) (0, 0)).1 := (chk_at h (k := i + d + 1 + 1) (by omega)).2.2
      have e : i + (d + 1) + 1 = i + d + 1 + 1 := by omega
      rw [e]; omega
  refine ⟨List.pairwise_iff_getElem.2 fun i j hi hj hij => ?_, fun z hz => ?_⟩
  · obtain ⟨d, rfl⟩ : ∃ d, j = i + d + 1 := ⟨j - i - 1, by omega⟩
    have := key d i hj
    simpa [List.getD, hi, hj] using this
  · obtain ⟨i, hi, rfl⟩ := List.mem_iff_getElem.1 hz
    have := (chk_at h hi).2.1
    simpa [List.getD, hi] using this
theorem pw_tri {α : Type} {R : α → α → Prop} : ∀ {l : List α}, l.Pairwise R → ∀ {a b : α}, a ∈ l → b ∈ l → a = b ∨ R a b ∨ R b a
  | [], _, a, b, ha, _ => by cases ha
  | x :: l, h, a, b, ha, hb => by
    obtain ⟨h1, h2⟩ := List.pairwise_cons.1 h
    rcases List.mem_cons.1 ha with rfl | ha' <;> rcases List.mem_cons.1 hb with rfl | hb'
    · exact .inl rfl
    · exact .inr (.inl (h1 _ hb'))
    · exact .inr (.inr (h1 _ ha'))
    · exact pw_tri h2 ha' hb'
theorem stp_no {a : Int} {z : Z} (h : inI a z = false) : stp a z = a := by unfold stp; rw [h]; rfl
theorem stp_yes {a : Int} {z : Z} (h : inI a z = true) : stp a z = z.2 := by unfold stp; rw [h]; rfl
theorem fold_none : ∀ {l : List Z} {a : Int}, (∀ z ∈ l, inI a z = false) → l.foldl stp a = a
  | [], _, _ => rfl
  | z :: l, a, h => by rw [List.foldl_cons, stp_no (h z (by simp))]; exact fold_none fun y hy => h y (by simp [hy])
theorem fold_in : ∀ {l : List Z}, Apt l → ∀ {a : Int} {z : Z}, z ∈ l → inI a z = true → l.foldl stp a = z.2
  | [], _, a, z, hz, _ => by cases hz
  | y :: l, h, a, z, hz, hin => by
    obtain ⟨h1, h2⟩ := List.pairwise_cons.1 h.1
    have hl : Apt l := ⟨h2, fun w hw => h.2 w (by simp [hw])⟩
    have hin' : z.1 ≤ a ∧ a < z.2 := by simpa [inI] using hin
    rcases List.mem_cons.1 hz with rfl | hz'
    · rw [List.foldl_cons, stp_yes hin]
      refine fold_none fun w hw => ?_
      have := h1 w hw
      simp [inI]; omega
    · rw [List.foldl_cons, stp_no ?_]
      · exact fold_in hl hz' hin
      · have := h1 z hz'
        simp [inI]; omega
theorem fold_again {l : List Z} (h : Apt l) (a : Int) : l.foldl stp (l.foldl stp a) = l.foldl stp a := by
  by_cases hz : ∃ z, z ∈ l ∧ inI a z = true
  · obtain ⟨z, hz, hin⟩ := hz
    rw [fold_in h hz hin]
    refine fold_none fun w hw => ?_
    have hz2 := h.2 z hz
    rcases pw_tri h.1 hz hw with rfl | hr | hr
    · simp [inI]
    · simp [inI]; omega
    · simp [inI]; omega
  · have hn : ∀ z ∈ l, inI a z = false := fun z hm => by
      cases hb : inI a z
      · rfl
      · exact absurd ⟨z, hm, hb⟩ hz
    rw [fold_none hn, fold_none hn]
theorem itR_eq {l : List Z} (h : Apt l) (a : Int) : ∀ t, itR l (t + 1) a = l.foldl stp a
  | 0 => rfl
  | t + 1 => by show l.foldl stp (itR l (t + 1) a) = _; rw [itR_eq h a t, fold_again h a]
theorem hold_eq {l : List Z} (h : Apt l) (p q : Int) : decide (itR l (l.length + 1) p ≥ q) = holdsF l p q := by
  rw [itR_eq h, Bool.eq_iff_iff, decide_eq_true_eq]
  unfold holdsF
  rw [Bool.or_eq_true, List.any_eq_true]
  simp only [emp, hol, Bool.and_eq_true, decide_eq_true_eq]
  by_cases hz : ∃ z, z ∈ l ∧ inI p z = true
  · obtain ⟨z, hz, hin⟩ := hz
    rw [fold_in h hz hin]
    have hin' : z.1 ≤ p ∧ p < z.2 := by simpa [inI] using hin
    constructor
    · intro hq; exact .inr ⟨z, hz, hin'.1, hq⟩
    · rintro (hq | ⟨y, hy, h1, h2⟩)
      · omega
      · rcases (show p < q ∨ q ≤ p by omega) with hpq | hpq
        · have hz2 := h.2 z hz
          rcases pw_tri h.1 hz hy with rfl | hr | hr <;> omega
        · omega
  · have hn : ∀ z ∈ l, inI p z = false := fun z hm => by
      cases hb : inI p z
      · rfl
      · exact absurd ⟨z, hm, hb⟩ hz
    rw [fold_none hn]
    constructor
    · intro hq; exact .inl hq
    · rintro (hq | ⟨y, hy, h1, h2⟩)
      · exact hq
      · rcases (show p < q ∨ q ≤ p by omega) with hpq | hpq
        · have := hn y hy
          simp [inI] at this
          omega
        · exact hpq
theorem first_eq {l : List Z} (h : Apt l) (a : Int) : itR l (l.length + 1) (max 0 a) = firstF l a := by
  rw [itR_eq h]; unfold firstF; rw [show max 0 a = max a 0 by omega]

def leftH (n : Nat) : List D → Nat
  | _ :: .v (.int _ i) :: _ => n - i.toNat
  | _ => 0

theorem vc_rhas (x : D) (zs : List (Int × Int)) (n : Int) : Cond Try.prog (fun k => if k = 2 then some ⟨[5], [], [0, 1], []⟩ else none) Try.f25 [x, .v (.int .i64 n)] [.v (.bool (hasF zs n))] = ((NotAgg x ∧ NotAgg (D.v (Value.int IntKind.i64 n)) ∧ True) ∧ ∃ (I : List D → Prop), ∃ (μ : List D → Nat), ((D.v (Value.int IntKind.i64 0) = D.v (Value.int IntKind.i64 0) ∧ x = x ∧ D.v (Value.int IntKind.i64 n) = D.v (Value.int IntKind.i64 n) ∧ True) ∧ True ∧ I [D.v (Value.int IntKind.i64 0)]) ∧ ∀ (r : D), I [r] → ∃ (r_1 : D), D.lenT (TypeDesc.slice 24) x = some r_1 ∧ ∃ (r_2 : D), D.bin BinOp.lss r r_1 = some r_2 ∧ ∃ (b : Bool), r_2 = D.v (Value.bool b) ∧ (b = true → D.inb 2 x r ∧ 0 + 1 ≤ (x.at_ r).cells.length ∧ ∃ (r_3 : D), D.bin BinOp.geq (D.v (Value.int IntKind.i64 n)) ((x.at_ r).cell 0) = some r_3 ∧ ∃ (b : Bool), r_3 = D.v (Value.bool b) ∧ (b = true → D.inb 2 x r ∧ 0 + 1 + 1 ≤ (x.at_ r).cells.length ∧ ∃ (r_4 : D), D.bin BinOp.lss (D.v (Value.int IntKind.i64 n)) ((x.at_ r).cell (0 + 1)) = some r_4 ∧ ∃ (b : Bool), r_4 = D.v (Value.bool b) ∧ (b = true → (True ∧ True) ∧ [D.v (Value.bool true)] = [D.v (Value.bool (hasF zs n))]) ∧ (b = false → ∃ (r_5 : D), D.bin BinOp.add r (D.v (Value.int IntKind.i64 1)) = some r_5 ∧ (r_5 = r_5 ∧ x = x ∧ D.v (Value.int IntKind.i64 n) = D.v (Value.int IntKind.i64 n) ∧ True) ∧ True ∧ I [r_5] ∧ μ [r_5] < μ [r])) ∧ (b = false → ∃ (r_4 : D), D.bin BinOp.add r (D.v (Value.int IntKind.i64 1)) = some r_4 ∧ (r_4 = r_4 ∧ x = x ∧ D.v (Value.int IntKind.i64 n) = D.v (Value.int IntKind.i64 n) ∧ True) ∧ True ∧ I [r_4] ∧ μ [r_4] < μ [r])) ∧ (b = false → (True ∧ True) ∧ [D.v (Value.bool false)] = [D.v (Value.bool (hasF zs n))])) := by kernel_rfl
set_option maxHeartbeats 4000000 in
theorem rhas (x : D) (zs : List (Int × Int)) (n : Int) (hX : IsL 2 (zs.map iv) x) (hm : zs.length ≤ 1000)  : PureD Try.prog 25 [x, .v (.int .i64 n)] [.v (.bool (hasF zs n))] := by
  refine pure_cond (Lp := (fun k => if k = 2 then some ⟨[5], [], [0, 1], []⟩ else none)) (by kernel_rfl) Try.func25 (by kernel_rfl) (by kernel_rfl) ?_
  rw [vc_rhas x zs n]
  simp only [hX.lenT, List.length_map, Option.some.injEq, exists_eq_left']
  have h1 : True := trivial
  repeat' (first
    | (refine ex_some (by simp (disch := omega) only [bin_shr, bin_shl, bin_and, bin_or, bin_xor, len_str, toStr_ofL, bin_add, bin_sub, bin_mul, bin_quo, bin_rem, bin_lss, bin_leq, bin_gtr, bin_geq, bin_eql, bin_neq, eqs_cn, eqs_ci, eqs_cb, eqs_cs, Option.map_some, lenT_ofL, lst_ofL, lstSz_ofL, chunk_one, lst_nil, lst_sl, lstSz_sl, lstSz_nil, Bool.and_true, Bool.true_and, Bool.and_false, Bool.false_and, beq_self_eq_true, beq_bb, bne_bb, un_not, un_neg, conv_int, min2_int, max2_int, w64, w32, wu8, wu16, wu32, wu64, tdiv_nn, tmod_nn, cell_zero, cell_succ, cell_v, cells_v, cells_agg, Bool.not_true, Bool.not_false, Int.reduceLT, Int.reduceLE, Int.reduceEq, Int.reduceNeg, Int.reduceAdd, Int.reduceSub, Int.reduceMul, intOf_v, decide_true, decide_false, h1, hX.lenT, List.length_map]; rfl) ?_)
    | (refine ex_bool ?_)
    | (exact i1)
    | (refine ⟨(fun r => ∃ i : Nat, i ≤ zs.length ∧ (zs.take i).any (inI n) = false ∧ r = [.v (.int .i64 (i : Nat))]), leftG zs.length, ?_⟩)
    | (refine fun (r2 : D) (hI : (fun r => ∃ i : Nat, i ≤ zs.length ∧ (zs.take i).any (inI n) = false ∧ r = [.v (.int .i64 (i : Nat))]) [r2]) => ?_; obtain ⟨i, hi, hA, hl0⟩ := hI; simp only [List.cons.injEq, and_true] at hl0; subst hl0; by_cases hlt : i < zs.length <;> first | (have hk1 : i < zs.length := (by omega); have h1 := iv_get hX hk1; have i1 := iv_inb hX hk1; have ht := any_succ (d := (0, 0)) hk1 (inI n); have hc := any_at (d := (0, 0)) hk1 (p := inI n); generalize zs.getD i (0, 0) = z at h1 ht hc; obtain ⟨p, q⟩ := z; simp only [h1, iv, Nat.zero_add, cell_zero, cell_succ, cells_agg, List.length_cons, List.length_nil]; have hy : p ≤ n → n < q → hasF zs n = true := fun h1 h2 => hc (by simp [inI, h1, h2]); have nh : (n < p ∨ q ≤ n) → (zs.take (i + 1)).any (inI n) = false := fun h => (by rw [ht, hA, Bool.false_or]; simp [inI]; omega); have inl1 : True := trivial) | (have hkk : i = zs.length := (by omega); subst hkk; rw [List.take_length] at hA; have hh : hasF zs n = false := hA; have h1 : True := trivial; have out1 : True := trivial))
    | (have := inl1; refine ⟨i + 1, by omega, ?_, rfl⟩)
    | (exact ⟨0, by omega, rfl, rfl⟩)
    | (refine And.intro ?_ ?_)
    | (intro hx; have hprop := (show ∀ (p : Prop), p → True from fun _ _ => True.intro) _ hx; clear hprop; first | (cases hx; done) | (exfalso; revert hx; simp (disch := omega) only [decide_eq_true_eq, decide_eq_false_iff_not, Bool.not_eq_true', Bool.not_eq_false', Bool.and_eq_true, Bool.and_eq_false_iff, Int.not_lt, Int.not_le, ne_eq, not_false_eq_true, not_true_eq_false, reduceCtorEq, Bool.true_eq_false, Bool.false_eq_true, beq_iff_eq, bne_iff_ne, beq_eq_false_iff_ne, false_or, or_false, true_and, and_true, h1, hX.lenT, List.length_map]; done) | (simp (disch := omega) only [decide_eq_true_eq, decide_eq_false_iff_not, Bool.not_eq_true', Bool.not_eq_false', Bool.and_eq_true, Bool.and_eq_false_iff, Int.not_lt, Int.not_le, ne_eq, not_false_eq_true, not_true_eq_false, reduceCtorEq, Bool.true_eq_false, Bool.false_eq_true, beq_iff_eq, bne_iff_ne, beq_eq_false_iff_ne, false_or, or_false, true_and, and_true, h1, hX.lenT, List.length_map] at hx; first | (exfalso; omega) | skip) | skip)
    | trivial
    | exact fit_ofL _ _
    | (simp (disch := omega) only [notAgg_v, notAgg_sl, plain_v, fits, fitsOne, fitsCells, xsOf, cell_zero, cell_succ, List.range, List.range.loop, List.map, cond_true, cond_false, D.v.injEq, exists_eq', exists_eq, and_self, and_true, true_and, D.agg.injEq, List.length, exists_eq_left', D.sl.injEq, reduceCtorEq, false_or, true_or, or_true, or_false, cell_zero, cell_succ, cell_v, cells_v, cells_agg, List.length_cons, List.length_nil, h1, hX.lenT, List.length_map]; done))
  all_goals first
    | (exfalso; omega)
    | omega
    | exact notAgg_fn _ _
    | exact hX.notAgg
    | exact plain_ofL (ivs_plain _)
    | (rw [app2r]; exact plain_ofL (ivs_plain _))
    | rfl
    | exact app2 _ _ _
    | (rw [ch2]; simp only [List.length_map, List.length_append, List.length_cons, List.length_nil]; omega)
    | assumption
    | (refine cb (hy ?_ ?_); all_goals omega)
    | (refine cb ?_; assumption)
    | (refine nh (.inl ?_); omega)
    | (refine nh (.inr ?_); omega)
    | (simp only [leftG]; omega)
    | (simp only [leftH]; omega)
    | (rw [h1]; exact Nat.le_refl _)
    | (simp only [List.length_map]; omega)
    | (simp_all [kp]; done)
    | (simp_all; done)
    | fail

theorem vc_rfirst (x : D) (zs : List (Int × Int)) (a : Int) : Cond Try.prog (fun k => if k = 3 then some ⟨[5, 6], [], [0], []⟩ else if k = 6 then some ⟨[5, 7], [], [0, 6], []⟩ else none) Try.f29 [x, .v (.int .i64 a)] [.v (.int .i64 (itR zs (zs.length + 1) (max 0 a)))] = ((NotAgg x ∧ NotAgg (D.v (Value.int IntKind.i64 a)) ∧ True) ∧ ∃ (r : D), (D.v (Value.int IntKind.i64 0)).max2 (D.v (Value.int IntKind.i64 a)) = some r ∧ ∃ (I : List D → Prop), ∃ (μ : List D → Nat), ((r = r ∧ D.v (Value.int IntKind.i64 0) = D.v (Value.int IntKind.i64 0) ∧ x = x ∧ True) ∧ True ∧ I [r, D.v (Value.int IntKind.i64 0)]) ∧ ∀ (r r_1 : D), I [r, r_1] → ∃ (r_2 : D), D.lenT (TypeDesc.slice 24) x = some r_2 ∧ ∃ (r_3 : D), D.bin BinOp.leq r_1 r_2 = some r_3 ∧ ∃ (b : Bool), r_3 = D.v (Value.bool b) ∧ (b = true → ∃ (I_1 : List D → Prop), ∃ (μ_1 : List D → Nat), ((r = r ∧ D.v (Value.int IntKind.i64 0) = D.v (Value.int IntKind.i64 0) ∧ x = x ∧ r_1 = r_1 ∧ True) ∧ True ∧ I_1 [r, D.v (Value.int IntKind.i64 0)]) ∧ ∀ (r_4 r_5 : D), I_1 [r_4, r_5] → ∃ (r_6 : D), D.lenT (TypeDesc.slice 24) x = some r_6 ∧ ∃ (r_7 : D), D.bin BinOp.lss r_5 r_6 = some r_7 ∧ ∃ (b : Bool), r_7 = D.v (Value.bool b) ∧ (b = true → D.inb 2 x r_5 ∧ 0 + 1 ≤ (x.at_ r_5).cells.length ∧ ∃ (r : D), D.bin BinOp.geq r_4 ((x.at_ r_5).cell 0) = some r ∧ ∃ (b : Bool), r = D.v (Value.bool b) ∧ (b = true → D.inb 2 x r_5 ∧ 0 + 1 + 1 ≤ (x.at_ r_5).cells.length ∧ ∃ (r : D), D.bin BinOp.lss r_4 ((x.at_ r_5).cell (0 + 1)) = some r ∧ ∃ (b : Bool), r = D.v (Value.bool b) ∧ (b = true → D.inb 2 x r_5 ∧ 0 + 1 + 1 ≤ (x.at_ r_5).cells.length ∧ ∃ (r : D), D.bin BinOp.add r_5 (D.v (Value.int IntKind.i64 1)) = some r ∧ ((x.at_ r_5).cell (0 + 1) = (x.at_ r_5).cell (0 + 1) ∧ r = r ∧ x = x ∧ r_1 = r_1 ∧ True) ∧ True ∧ I_1 [(x.at_ r_5).cell (0 + 1), r] ∧ μ_1 [(x.at_ r_5).cell (0 + 1), r] < μ_1 [r_4, r_5]) ∧ (b = false → ∃ (r : D), D.bin BinOp.add r_5 (D.v (Value.int IntKind.i64 1)) = some r ∧ (r_4 = r_4 ∧ r = r ∧ x = x ∧ r_1 = r_1 ∧ True) ∧ True ∧ I_1 [r_4, r] ∧ μ_1 [r_4, r] < μ_1 [r_4, r_5])) ∧ (b = false → ∃ (r : D), D.bin BinOp.add r_5 (D.v (Value.int IntKind.i64 1)) = some r ∧ (r_4 = r_4 ∧ r = r ∧ x = x ∧ r_1 = r_1 ∧ True) ∧ True ∧ I_1 [r_4, r] ∧ μ_1 [r_4, r] < μ_1 [r_4, r_5])) ∧ (b = false → ∃ (r_8 : D), D.bin BinOp.add r_1 (D.v (Value.int IntKind.i64 1)) = some r_8 ∧ (r_4 = r_4 ∧ r_8 = r_8 ∧ x = x ∧ True) ∧ True ∧ I [r_4, r_8] ∧ μ [r_4, r_8] < μ [r, r_1])) ∧ (b = false → ((∃ (y : Value), r = D.v y) ∧ True) ∧ [r] = [D.v (Value.int IntKind.i64 (itR zs (zs.length + 1) (max 0 a)))])) := by kernel_rfl
set_option maxHeartbeats 4000000 in
theorem rfirst (x : D) (zs : List (Int × Int)) (a : Int) (hX : IsL 2 (zs.map iv) x) (hm : zs.length ≤ 1000)  : PureD Try.prog 29 [x, .v (.int .i64 a)] [.v (.int .i64 (itR zs (zs.length + 1) (max 0 a)))] := by
  refine pure_cond (Lp := (fun k => if k = 3 then some ⟨[5, 6], [], [0], []⟩ else if k = 6 then some ⟨[5, 7], [], [0, 6], []⟩ else none)) (by kernel_rfl) Try.func29 (by kernel_rfl) (by kernel_rfl) ?_
  rw [vc_rfirst x zs a]
  simp only [hX.lenT, List.length_map, Option.some.injEq, exists_eq_left']
  have h1 : True := trivial
  repeat' (first
    | (refine ex_some (by simp (disch := omega) only [bin_shr, bin_shl, bin_and, bin_or, bin_xor, len_str, toStr_ofL, bin_add, bin_sub, bin_mul, bin_quo, bin_rem, bin_lss, bin_leq, bin_gtr, bin_geq, bin_eql, bin_neq, eqs_cn, eqs_ci, eqs_cb, eqs_cs, Option.map_some, lenT_ofL, lst_ofL, lstSz_ofL, chunk_one, lst_nil, lst_sl, lstSz_sl, lstSz_nil, Bool.and_true, Bool.true_and, Bool.and_false, Bool.false_and, beq_self_eq_true, beq_bb, bne_bb, un_not, un_neg, conv_int, min2_int, max2_int, w64, w32, wu8, wu16, wu32, wu64, tdiv_nn, tmod_nn, cell_zero, cell_succ, cell_v, cells_v, cells_agg, Bool.not_true, Bool.not_false, Int.reduceLT, Int.reduceLE, Int.reduceEq, Int.reduceNeg, Int.reduceAdd, Int.reduceSub, Int.reduceMul, intOf_v, decide_true, decide_false, h1, hX.lenT, List.length_map]; rfl) ?_)
    | (refine ex_bool ?_)
    | (exact i1)
    | (have := inl1; refine ⟨(fun r => ∃ i : Nat, i ≤ zs.length ∧ r = [.v (.int .i64 ((zs.take i).foldl stp u)), .v (.int .i64 (i : Nat))]), leftH zs.length, ?_⟩)
    | (have := inl1; refine fun (r4 r5 : D) (hI : (fun r => ∃ i : Nat, i ≤ zs.length ∧ r = [.v (.int .i64 ((zs.take i).foldl stp u)), .v (.int .i64 (i : Nat))]) [r4, r5]) => ?_; obtain ⟨i, hi, hl0⟩ := hI; simp only [List.cons.injEq, and_true] at hl0; obtain ⟨rfl, rfl⟩ := hl0; by_cases hlt : i < zs.length <;> first | (have hk1 : i < zs.length := (by omega); have h1 := iv_get hX hk1; have i1 := iv_inb hX hk1; have ht := foldl_succ (0, 0) hk1 stp u; generalize zs.getD i (0, 0) = z at h1 ht; obtain ⟨p, q⟩ := z; simp only [h1, iv, Nat.zero_add, cell_zero, cell_succ, cells_agg, List.length_cons, List.length_nil]; generalize hv : (zs.take i).foldl stp u = v at ht; have n1 : p ≤ v → v < q → (zs.take (i + 1)).foldl stp u = q := fun h1 h2 => (by rw [ht]; simp [stp, inI, h1, h2]); have n0 : (v < p ∨ q ≤ v) → (zs.take (i + 1)).foldl stp u = v := fun h => (by rw [ht]; unfold stp; rw [if_neg]; intro hh; simp [inI] at hh; omega); have inl2 : True := trivial) | (have hkk : i = zs.length := (by omega); subst hkk; rw [List.take_length]; have h1 : True := trivial; have out2 : True := trivial))
    | (refine ⟨(fun r => ∃ t : Nat, t ≤ zs.length + 1 ∧ r = [.v (.int .i64 (itR zs t (max 0 a))), .v (.int .i64 (t : Nat))]), leftH (zs.length + 1), ?_⟩)
    | (refine fun (r2 r3 : D) (hI : (fun r => ∃ t : Nat, t ≤ zs.length + 1 ∧ r = [.v (.int .i64 (itR zs t (max 0 a))), .v (.int .i64 (t : Nat))]) [r2, r3]) => ?_; obtain ⟨t, ht0, hl0⟩ := hI; simp only [List.cons.injEq, and_true] at hl0; obtain ⟨rfl, rfl⟩ := hl0; by_cases hlt : t < zs.length + 1 <;> first | (have hkt : t < zs.length + 1 := (by omega); have hu : itR zs (t + 1) (max 0 a) = zs.foldl stp (itR zs t (max 0 a)) := rfl; generalize itR zs t (max 0 a) = u at hu; have h1 : True := trivial; have inl1 : True := trivial) | (have htt : t = zs.length + 1 := (by omega); subst htt; have h1 : True := trivial; have out1 : True := trivial))
    | (have := inl2; refine ⟨i + 1, by omega, ?_⟩)
    | (have := out2; refine ⟨t + 1, by omega, ?_⟩)
    | (have := inl1; exact ⟨0, by omega, rfl⟩)
    | (exact ⟨0, by omega, rfl⟩)
    | (refine And.intro ?_ ?_)
    | (intro hx; have hprop := (show ∀ (p : Prop), p → True from fun _ _ => True.intro) _ hx; clear hprop; first | (cases hx; done) | (exfalso; revert hx; simp (disch := omega) only [decide_eq_true_eq, decide_eq_false_iff_not, Bool.not_eq_true', Bool.not_eq_false', Bool.and_eq_true, Bool.and_eq_false_iff, Int.not_lt, Int.not_le, ne_eq, not_false_eq_true, not_true_eq_false, reduceCtorEq, Bool.true_eq_false, Bool.false_eq_true, beq_iff_eq, bne_iff_ne, beq_eq_false_iff_ne, false_or, or_false, true_and, and_true, h1, hX.lenT, List.length_map]; done) | (simp (disch := omega) only [decide_eq_true_eq, decide_eq_false_iff_not, Bool.not_eq_true', Bool.not_eq_false', Bool.and_eq_true, Bool.and_eq_false_iff, Int.not_lt, Int.not_le, ne_eq, not_false_eq_true, not_true_eq_false, reduceCtorEq, Bool.true_eq_false, Bool.false_eq_true, beq_iff_eq, bne_iff_ne, beq_eq_false_iff_ne, false_or, or_false, true_and, and_true, h1, hX.lenT, List.length_map] at hx; first | (exfalso; omega) | skip) | skip)
    | trivial
    | exact fit_ofL _ _
    | (simp (disch := omega) only [notAgg_v, notAgg_sl, plain_v, fits, fitsOne, fitsCells, xsOf, cell_zero, cell_succ, List.range, List.range.loop, List.map, cond_true, cond_false, D.v.injEq, exists_eq', exists_eq, and_self, and_true, true_and, D.agg.injEq, List.length, exists_eq_left', D.sl.injEq, reduceCtorEq, false_or, true_or, or_true, or_false, cell_zero, cell_succ, cell_v, cells_v, cells_agg, List.length_cons, List.length_nil, h1, hX.lenT, List.length_map]; done))
  all_goals first
    | (exfalso; omega)
    | omega
    | exact notAgg_fn _ _
    | exact hX.notAgg
    | exact plain_ofL (ivs_plain _)
    | (rw [app2r]; exact plain_ofL (ivs_plain _))
    | rfl
    | exact app2 _ _ _
    | (rw [ch2]; simp only [List.length_map, List.length_append, List.length_cons, List.length_nil]; omega)
    | assumption
    | (rw [n1] <;> first | assumption | rfl)
    | (rw [n0] <;> first | rfl | (left; assumption) | (right; assumption))
    | (rw [hu]; done)
    | (rw [hu]; rfl)
    | (simp only [leftG]; omega)
    | (simp only [leftH]; omega)
    | (rw [h1]; exact Nat.le_refl _)
    | (simp only [List.length_map]; omega)
    | fail

theorem vc_rholds (x : D) (zs : List (Int × Int)) (a b : Int) : Cond Try.prog (fun k => if k = 3 then some ⟨[5, 6], [], [0, 3], []⟩ else if k = 6 then some ⟨[5, 7], [], [0, 6, 3], []⟩ else none) Try.f27 [x, .agg [.v (.int .i64 a), .v (.int .i64 b)]] [.v (.bool (decide (itR zs (zs.length + 1) a ≥ b)))] = ((NotAgg x ∧ (∃ (cs : List D), D.agg [D.v (Value.int IntKind.i64 a), D.v (Value.int IntKind.i64 b)] = D.agg cs ∧ cs.length = 2) ∧ True) ∧ ∃ (I : List D → Prop), ∃ (μ : List D → Nat), ((D.v (Value.int IntKind.i64 a) = D.v (Value.int IntKind.i64 a) ∧ D.v (Value.int IntKind.i64 0) = D.v (Value.int IntKind.i64 0) ∧ x = x ∧ (true = true ∧ true = true) ∧ True) ∧ ((D.v (Value.int IntKind.i64 a) = D.v (Value.int IntKind.i64 a) ∧ D.v (Value.int IntKind.i64 b) = D.v (Value.int IntKind.i64 b) ∧ True) ∧ True) ∧ I [D.v (Value.int IntKind.i64 a), D.v (Value.int IntKind.i64 0)]) ∧ ∀ (r r_1 : D), I [r, r_1] → ∃ (r_2 : D), D.lenT (TypeDesc.slice 24) x = some r_2 ∧ ∃ (r_3 : D), D.bin BinOp.leq r_1 r_2 = some r_3 ∧ ∃ (b_1 : Bool), r_3 = D.v (Value.bool b_1) ∧ (b_1 = true → ∃ (I_1 : List D → Prop), ∃ (μ_1 : List D → Nat), ((r = r ∧ D.v (Value.int IntKind.i64 0) = D.v (Value.int IntKind.i64 0) ∧ x = x ∧ r_1 = r_1 ∧ (true = true ∧ true = true) ∧ True) ∧ ((D.v (Value.int IntKind.i64 a) = D.v (Value.int IntKind.i64 a) ∧ D.v (Value.int IntKind.i64 b) = D.v (Value.int IntKind.i64 b) ∧ True) ∧ True) ∧ I_1 [r, D.v (Value.int IntKind.i64 0)]) ∧ ∀ (r_4 r_5 : D), I_1 [r_4, r_5] → ∃ (r_6 : D), D.lenT (TypeDesc.slice 24) x = some r_6 ∧ ∃ (r_7 : D), D.bin BinOp.lss r_5 r_6 = some r_7 ∧ ∃ (b_2 : Bool), r_7 = D.v (Value.bool b_2) ∧ (b_2 = true → D.inb 2 x r_5 ∧ 0 + 1 ≤ (x.at_ r_5).cells.length ∧ ∃ (r : D), D.bin BinOp.geq r_4 ((x.at_ r_5).cell 0) = some r ∧ ∃ (b_3 : Bool), r = D.v (Value.bool b_3) ∧ (b_3 = true → D.inb 2 x r_5 ∧ 0 + 1 + 1 ≤ (x.at_ r_5).cells.length ∧ ∃ (r : D), D.bin BinOp.lss r_4 ((x.at_ r_5).cell (0 + 1)) = some r ∧ ∃ (b_4 : Bool), r = D.v (Value.bool b_4) ∧ (b_4 = true → D.inb 2 x r_5 ∧ 0 + 1 + 1 ≤ (x.at_ r_5).cells.length ∧ ∃ (r : D), D.bin BinOp.add r_5 (D.v (Value.int IntKind.i64 1)) = some r ∧ ((x.at_ r_5).cell (0 + 1) = (x.at_ r_5).cell (0 + 1) ∧ r = r ∧ x = x ∧ r_1 = r_1 ∧ (true = true ∧ true = true) ∧ True) ∧ ((D.v (Value.int IntKind.i64 a) = D.v (Value.int IntKind.i64 a) ∧ D.v (Value.int IntKind.i64 b) = D.v (Value.int IntKind.i64 b) ∧ True) ∧ True) ∧ I_1 [(x.at_ r_5).cell (0 + 1), r] ∧ μ_1 [(x.at_ r_5).cell (0 + 1), r] < μ_1 [r_4, r_5]) ∧ (b_4 = false → ∃ (r : D), D.bin BinOp.add r_5 (D.v (Value.int IntKind.i64 1)) = some r ∧ (r_4 = r_4 ∧ r = r ∧ x = x ∧ r_1 = r_1 ∧ (true = true ∧ true = true) ∧ True) ∧ ((D.v (Value.int IntKind.i64 a) = D.v (Value.int IntKind.i64 a) ∧ D.v (Value.int IntKind.i64 b) = D.v (Value.int IntKind.i64 b) ∧ True) ∧ True) ∧ I_1 [r_4, r] ∧ μ_1 [r_4, r] < μ_1 [r_4, r_5])) ∧ (b_3 = false → ∃ (r : D), D.bin BinOp.add r_5 (D.v (Value.int IntKind.i64 1)) = some r ∧ (r_4 = r_4 ∧ r = r ∧ x = x ∧ r_1 = r_1 ∧ (true = true ∧ true = true) ∧ True) ∧ ((D.v (Value.int IntKind.i64 a) = D.v (Value.int IntKind.i64 a) ∧ D.v (Value.int IntKind.i64 b) = D.v (Value.int IntKind.i64 b) ∧ True) ∧ True) ∧ I_1 [r_4, r] ∧ μ_1 [r_4, r] < μ_1 [r_4, r_5])) ∧ (b_2 = false → ∃ (r_8 : D), D.bin BinOp.add r_1 (D.v (Value.int IntKind.i64 1)) = some r_8 ∧ (r_4 = r_4 ∧ r_8 = r_8 ∧ x = x ∧ (true = true ∧ true = true) ∧ True) ∧ ((D.v (Value.int IntKind.i64 a) = D.v (Value.int IntKind.i64 a) ∧ D.v (Value.int IntKind.i64 b) = D.v (Value.int IntKind.i64 b) ∧ True) ∧ True) ∧ I [r_4, r_8] ∧ μ [r_4, r_8] < μ [r, r_1])) ∧ (b_1 = false → ∃ (r_4 : D), D.bin BinOp.geq r (D.v (Value.int IntKind.i64 b)) = some r_4 ∧ ((∃ (y : Value), r_4 = D.v y) ∧ True) ∧ [r_4] = [D.v (Value.bool (Decidable.rec (fun (h : ¬itR zs (zs.length + 1) a ≥ b) ↦ (fun (x : ¬itR zs (zs.length + 1) a ≥ b) ↦ false) h) (fun (h : itR zs (zs.length + 1) a ≥ b) ↦ (fun (x : itR zs (zs.length + 1) a ≥ b) ↦ true) h) (b.decLe (itR zs (zs.length + 1) a))))])) := by kernel_rfl
set_option maxHeartbeats 4000000 in
theorem rholds (x : D) (zs : List (Int × Int)) (a b : Int) (hX : IsL 2 (zs.map iv) x) (hm : zs.length ≤ 1000)  : PureD Try.prog 27 [x, .agg [.v (.int .i64 a), .v (.int .i64 b)]] [.v (.bool (decide (itR zs (zs.length + 1) a ≥ b)))] := by
  refine pure_cond (Lp := (fun k => if k = 3 then some ⟨[5, 6], [], [0, 3], []⟩ else if k = 6 then some ⟨[5, 7], [], [0, 6, 3], []⟩ else none)) (by kernel_rfl) Try.func27 (by kernel_rfl) (by kernel_rfl) ?_
  rw [vc_rholds x zs a b]
  simp only [hX.lenT, List.length_map, Option.some.injEq, exists_eq_left']
  have h1 : True := trivial
  repeat' (first
    | (refine ex_some (by simp (disch := omega) only [bin_shr, bin_shl, bin_and, bin_or, bin_xor, len_str, toStr_ofL, bin_add, bin_sub, bin_mul, bin_quo, bin_rem, bin_lss, bin_leq, bin_gtr, bin_geq, bin_eql, bin_neq, eqs_cn, eqs_ci, eqs_cb, eqs_cs, Option.map_some, lenT_ofL, lst_ofL, lstSz_ofL, chunk_one, lst_nil, lst_sl, lstSz_sl, lstSz_nil, Bool.and_true, Bool.true_and, Bool.and_false, Bool.false_and, beq_self_eq_true, beq_bb, bne_bb, un_not, un_neg, conv_int, min2_int, max2_int, w64, w32, wu8, wu16, wu32, wu64, tdiv_nn, tmod_nn, cell_zero, cell_succ, cell_v, cells_v, cells_agg, Bool.not_true, Bool.not_false, Int.reduceLT, Int.reduceLE, Int.reduceEq, Int.reduceNeg, Int.reduceAdd, Int.reduceSub, Int.reduceMul, intOf_v, decide_true, decide_false, h1, hX.lenT, List.length_map]; rfl) ?_)
    | (refine ex_bool ?_)
    | (exact i1)
    | (have := inl1; refine ⟨(fun r => ∃ i : Nat, i ≤ zs.length ∧ r = [.v (.int .i64 ((zs.take i).foldl stp u)), .v (.int .i64 (i : Nat))]), leftH zs.length, ?_⟩)
    | (have := inl1; refine fun (r4 r5 : D) (hI : (fun r => ∃ i : Nat, i ≤ zs.length ∧ r = [.v (.int .i64 ((zs.take i).foldl stp u)), .v (.int .i64 (i : Nat))]) [r4, r5]) => ?_; obtain ⟨i, hi, hl0⟩ := hI; simp only [List.cons.injEq, and_true] at hl0; obtain ⟨rfl, rfl⟩ := hl0; by_cases hlt : i < zs.length <;> first | (have hk1 : i < zs.length := (by omega); have h1 := iv_get hX hk1; have i1 := iv_inb hX hk1; have ht := foldl_succ (0, 0) hk1 stp u; generalize zs.getD i (0, 0) = z at h1 ht; obtain ⟨p, q⟩ := z; simp only [h1, iv, Nat.zero_add, cell_zero, cell_succ, cells_agg, List.length_cons, List.length_nil]; generalize hv : (zs.take i).foldl stp u = v at ht; have n1 : p ≤ v → v < q → (zs.take (i + 1)).foldl stp u = q := fun h1 h2 => (by rw [ht]; simp [stp, inI, h1, h2]); have n0 : (v < p ∨ q ≤ v) → (zs.take (i + 1)).foldl stp u = v := fun h => (by rw [ht]; unfold stp; rw [if_neg]; intro hh; simp [inI] at hh; omega); have inl2 : True := trivial) | (have hkk : i = zs.length := (by omega); subst hkk; rw [List.take_length]; have h1 : True := trivial; have out2 : True := trivial))
    | (refine ⟨(fun r => ∃ t : Nat, t ≤ zs.length + 1 ∧ r = [.v (.int .i64 (itR zs t a)), .v (.int .i64 (t : Nat))]), leftH (zs.length + 1), ?_⟩)
    | (refine fun (r2 r3 : D) (hI : (fun r => ∃ t : Nat, t ≤ zs.length + 1 ∧ r = [.v (.int .i64 (itR zs t a)), .v (.int .i64 (t : Nat))]) [r2, r3]) => ?_; obtain ⟨t, ht0, hl0⟩ := hI; simp only [List.cons.injEq, and_true] at hl0; obtain ⟨rfl, rfl⟩ := hl0; by_cases hlt : t < zs.length + 1 <;> first | (have hkt : t < zs.length + 1 := (by omega); have hu : itR zs (t + 1) a = zs.foldl stp (itR zs t a) := rfl; generalize itR zs t a = u at hu; have h1 : True := trivial; have inl1 : True := trivial) | (have htt : t = zs.length + 1 := (by omega); subst htt; have h1 : True := trivial; have out1 : True := trivial))
    | (have := inl2; refine ⟨i + 1, by omega, ?_⟩)
    | (have := out2; refine ⟨t + 1, by omega, ?_⟩)
    | (have := inl1; exact ⟨0, by omega, rfl⟩)
    | (exact ⟨0, by omega, rfl⟩)
    | (refine And.intro ?_ ?_)
    | (intro hx; have hprop := (show ∀ (p : Prop), p → True from fun _ _ => True.intro) _ hx; clear hprop; first | (cases hx; done) | (exfalso; revert hx; simp (disch := omega) only [decide_eq_true_eq, decide_eq_false_iff_not, Bool.not_eq_true', Bool.not_eq_false', Bool.and_eq_true, Bool.and_eq_false_iff, Int.not_lt, Int.not_le, ne_eq, not_false_eq_true, not_true_eq_false, reduceCtorEq, Bool.true_eq_false, Bool.false_eq_true, beq_iff_eq, bne_iff_ne, beq_eq_false_iff_ne, false_or, or_false, true_and, and_true, h1, hX.lenT, List.length_map]; done) | (simp (disch := omega) only [decide_eq_true_eq, decide_eq_false_iff_not, Bool.not_eq_true', Bool.not_eq_false', Bool.and_eq_true, Bool.and_eq_false_iff, Int.not_lt, Int.not_le, ne_eq, not_false_eq_true, not_true_eq_false, reduceCtorEq, Bool.true_eq_false, Bool.false_eq_true, beq_iff_eq, bne_iff_ne, beq_eq_false_iff_ne, false_or, or_false, true_and, and_true, h1, hX.lenT, List.length_map] at hx; first | (exfalso; omega) | skip) | skip)
    | trivial
    | exact fit_ofL _ _
    | (simp (disch := omega) only [notAgg_v, notAgg_sl, plain_v, fits, fitsOne, fitsCells, xsOf, cell_zero, cell_succ, List.range, List.range.loop, List.map, cond_true, cond_false, D.v.injEq, exists_eq', exists_eq, and_self, and_true, true_and, D.agg.injEq, List.length, exists_eq_left', D.sl.injEq, reduceCtorEq, false_or, true_or, or_true, or_false, cell_zero, cell_succ, cell_v, cells_v, cells_agg, List.length_cons, List.length_nil, h1, hX.lenT, List.length_map]; done))
  all_goals first
    | (exfalso; omega)
    | omega
    | exact notAgg_fn _ _
    | exact hX.notAgg
    | exact plain_ofL (ivs_plain _)
    | (rw [app2r]; exact plain_ofL (ivs_plain _))
    | rfl
    | exact app2 _ _ _
    | (rw [ch2]; simp only [List.length_map, List.length_append, List.length_cons, List.length_nil]; omega)
    | assumption
    | (rw [n1] <;> first | assumption | rfl)
    | (rw [n0] <;> first | rfl | (left; assumption) | (right; assumption))
    | (rw [hu]; done)
    | (rw [hu]; rfl)
    | (simp only [leftG]; omega)
    | (simp only [leftH]; omega)
    | (rw [h1]; exact Nat.le_refl _)
    | (simp only [List.length_map]; omega)
    | fail

end Go.Proofs.Ytpbmlllffmkkdaa