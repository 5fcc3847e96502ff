/-
  Layer 6: what two have in common; refusals.
-/
import Derived.Test.YtpbmlllffmkkdaaT1
import Derived.Test.YtpbmlllffmkkdaaT2
import Derived.Test.YtpbmlllffmkkdaaT3
import Derived.Test.YtpbmlllffmkkdaaT4
import Derived.Test.YtpbmlllffmkkdaaT5
namespace Go.Proofs.Ytpbmlllffmkkdaa
open Go.RowKit
set_option linter.unusedSimpArgs false
set_option linter.unusedVariables false


def adv (ys : List Z) (a : Int) (j : Nat) : Nat := if h : j < ys.length then (if (ys.getD j (0, 0)).2 ≤ a then adv ys a (j + 1) else j) else j
termination_by ys.length - j
def mid (ys : List Z) (x : Z) (j : Nat) (l : List Z) : List Z := if h : j < ys.length then (if (ys.getD j (0, 0)).1 < x.2 then mid ys x (j + 1) (kp l (max x.1 (ys.getD j (0, 0)).1, min x.2 (ys.getD j (0, 0)).2)) else l) else l
termination_by ys.length - j
theorem adv_go {ys : List Z} {a : Int} {j : Nat} (h : j < ys.length) (h2 : (ys.getD j (0, 0)).2 ≤ a) : adv ys a (j + 1) = adv ys a j := by
  conv => rhs; rw [adv]
  rw [dif_pos h, if_pos h2]
theorem adv_no {ys : List Z} {a : Int} {j : Nat} (h2 : a < (ys.getD j (0, 0)).2) : adv ys a j = j := by
  rw [adv]
  by_cases h : j < ys.length
  · rw [dif_pos h, if_neg (by omega)]
  · rw [dif_neg h]
theorem adv_end {ys : List Z} {a : Int} {j : Nat} (h : ¬ j < ys.length) : adv ys a j = j := by rw [adv, dif_neg h]
theorem mid_go {ys : List Z} {x : Z} {j : Nat} {l : List Z} (h : j < ys.length) (h2 : (ys.getD j (0, 0)).1 < x.2) : mid ys x (j + 1) (kp l (max x.1 (ys.getD j (0, 0)).1, min x.2 (ys.getD j (0, 0)).2)) = mid ys x j l := by
  conv => rhs; rw [mid]
  rw [dif_pos h, if_pos h2]
theorem mid_no {ys : List Z} {x : Z} {j : Nat} {l : List Z} (h2 : x.2 ≤ (ys.getD j (0, 0)).1) : mid ys x j l = l := by
  rw [mid]
  by_cases h : j < ys.length
  · rw [dif_pos h, if_neg (by omega)]
  · rw [dif_neg h]
theorem mid_end {ys : List Z} {x : Z} {j : Nat} {l : List Z} (h : ¬ j < ys.length) : mid ys x j l = l := by rw [mid, dif_neg h]
theorem adv_le (ys : List Z) (a : Int) : ∀ (n j : Nat), ys.length - j = n → j ≤ ys.length → j ≤ adv ys a j ∧ adv ys a j ≤ ys.length
  | 0, j, h, hj => by rw [adv_end (by omega)]; omega
  | n + 1, j, h, hj => by
    by_cases h2 : (ys.getD j (0, 0)).2 ≤ a
    · have := adv_le ys a n (j + 1) (by omega) (by omega)
      rw [adv_go (by omega) h2] at this
      omega
    · rw [adv_no (by omega)]; omega
theorem mid_len (ys : List Z) (x : Z) : ∀ (n j : Nat) (l : List Z), ys.length - j = n → (mid ys x j l).length ≤ l.length + n
  | 0, j, l, h => by rw [mid_end (by omega)]; omega
  | n + 1, j, l, h => by
    by_cases h2 : (ys.getD j (0, 0)).1 < x.2
    · have := mid_len ys x n (j + 1) (kp l (max x.1 (ys.getD j (0, 0)).1, min x.2 (ys.getD j (0, 0)).2)) (by omega)
      have hk := kp_len l (max x.1 (ys.getD j (0, 0)).1, min x.2 (ys.getD j (0, 0)).2)
      rw [← mid_go (by omega) h2]
      omega
    · rw [mid_no (by omega)]; omega
def meetS (ys : List Z) (s : List Z × Nat) (x : Z) : List Z × Nat := (mid ys x (adv ys x.1 s.2) s.1, adv ys x.1 s.2)
def meetF (zs ys : List Z) : List Z := (zs.foldl (meetS ys) ([], 0)).1
theorem meet_bd (ys : List Z) : ∀ (zs : List Z) (s : List Z × Nat), s.2 ≤ ys.length → (zs.foldl (meetS ys) s).1.length ≤ s.1.length + ys.length * zs.length ∧ (zs.foldl (meetS ys) s).2 ≤ ys.length
  | [], s, h => ⟨by simp, h⟩
  | z :: zs, s, h => by
    have h1 := adv_le ys z.1 _ s.2 rfl h
    have h2 := mid_len ys z _ (adv ys z.1 s.2) s.1 rfl
    obtain ⟨h3, h4⟩ := meet_bd ys zs (meetS ys s z) h1.2
    refine ⟨?_, h4⟩
    have e : (meetS ys s z).1 = mid ys z (adv ys z.1 s.2) s.1 := rfl
    rw [e] at h3
    simp only [List.foldl_cons, List.length_cons, Nat.mul_add, Nat.mul_one]
    omega

theorem vc_meet1 (x y : D) (zs ys : List (Int × Int)) : Cond Try.prog (fun k => if k = 7 then some ⟨[], [], [3, 5, 6, 7], [(6, [0], [])]⟩ else if k = 10 then some ⟨[8], [], [3, 6, 7, 5], [(5, [], [0])]⟩ else if k = 1502 then some ⟨[], [], [3, 5, 6, 7], [(6, [0], [])]⟩ else if k = 3006 then some ⟨[], [], [3, 5, 6], [(5, [], [0]), (6, [0], [])]⟩ else if k = 4006 then some ⟨[40], [], [], []⟩ else none) Try.f17 [x, y] [ofL 2 ((meetF zs ys).map iv)] = ((NotAgg x ∧ NotAgg y ∧ True) ∧ ∃ (r : D), PureD Try.prog 19 [x] [r] ∧ fits [(false, [none])] [r] ∧ ∃ (r_1 : D), D.bin BinOp.neq r (D.v (Value.int IntKind.i64 0)) = some r_1 ∧ ∃ (b : Bool), r_1 = D.v (Value.bool b) ∧ (b = false → ∃ (r : D), PureD Try.prog 19 [y] [r] ∧ fits [(false, [none])] [r] ∧ ∃ (r_2 : D), D.bin BinOp.neq r (D.v (Value.int IntKind.i64 0)) = some r_2 ∧ ∃ (b : Bool), r_2 = D.v (Value.bool b) ∧ (b = true → (PlainD (D.v nilS) ∧ True) ∧ [D.v nilS] = [ofL 2 (List.map iv (meetF zs ys))]) ∧ (b = false → ∃ (r : D), ReadD Try.prog 33 [x] [r] ∧ (NotAgg r ∧ True) ∧ ∃ (caps : List D), ∃ (xs : List (List D)), ∃ (I : Nat → List D → Prop), r = D.fn 40 caps ∧ SeqD Try.prog 40 caps xs ∧ fitsX [some 2] xs ∧ (((true = true ∧ true = true) ∧ (true = true ∧ true = true) ∧ (true = true ∧ true = true) ∧ True) ∧ ((true = true ∧ D.v (Value.slice none 0 0) = D.v (Value.slice none 0 0)) ∧ (true = true ∧ True) ∧ (D.v (Value.int IntKind.i64 0) = D.v (Value.int IntKind.i64 0) ∧ True) ∧ (y = y ∧ True) ∧ True) ∧ I 0 [D.v (Value.int IntKind.i64 0), D.v (Value.slice none 0 0)]) ∧ (∀ (k : Nat) (r : D), xs[k]? = some [r] → ∀ (r_3 r_4 : D), I k [r_3, r_4] → ∃ (I_1 : List D → Prop), (∃ (I : List D → Prop), ∃ (μ : List D → Nat), (((true = true ∧ true = true) ∧ (true = true ∧ true = true) ∧ (true = true ∧ true = true) ∧ (true = true ∧ true = true) ∧ True) ∧ ((r_3 = r_3 ∧ True) ∧ (y = y ∧ True) ∧ (true = true ∧ True) ∧ (r.cell 0 = r.cell 0 ∧ r.cell 1 = r.cell 1 ∧ True) ∧ (true = true ∧ r_4 = r_4) ∧ True) ∧ I [r_3]) ∧ ∀ (r_5 : D), I [r_5] → ∃ (r_6 : D), D.lenT (TypeDesc.slice 29) y = some r_6 ∧ ∃ (r_7 : D), D.bin BinOp.lss r_5 r_6 = some r_7 ∧ ∃ (b : Bool), r_7 = D.v (Value.bool b) ∧ (b = true → D.inb 2 y r_5 ∧ 0 + 1 + 1 ≤ (y.at_ r_5).cells.length ∧ ∃ (r_8 : D), D.bin BinOp.leq ((y.at_ r_5).cell (0 + 1)) (r.cell 0) = some r_8 ∧ ∃ (b : Bool), r_8 = D.v (Value.bool b) ∧ (b = true → ∃ (r_9 : D), D.bin BinOp.add r_5 (D.v (Value.int IntKind.i64 1)) = some r_9 ∧ ((true = true ∧ true = true) ∧ (true = true ∧ true = true) ∧ (true = true ∧ true = true) ∧ (true = true ∧ true = true) ∧ True) ∧ ((r_9 = r_9 ∧ True) ∧ (y = y ∧ True) ∧ (true = true ∧ True) ∧ (r.cell 0 = r.cell 0 ∧ r.cell 1 = r.cell 1 ∧ True) ∧ (true = true ∧ r_4 = r_4) ∧ True) ∧ I [r_9] ∧ μ [r_9] < μ [r_5]) ∧ (b = false → ((true = true ∧ true = true) ∧ (true = true ∧ true = true) ∧ (true = true ∧ true = true) ∧ (true = true ∧ true = true) ∧ True) ∧ ((r_5 = r_5 ∧ True) ∧ (y = y ∧ True) ∧ (true = true ∧ True) ∧ (r.cell 0 = r.cell 0 ∧ r.cell 1 = r.cell 1 ∧ True) ∧ (true = true ∧ r_4 = r_4) ∧ True) ∧ I_1 [r_5])) ∧ (b = false → ((true = true ∧ true = true) ∧ (true = true ∧ true = true) ∧ (true = true ∧ true = true) ∧ (true = true ∧ true = true) ∧ True) ∧ ((r_5 = r_5 ∧ True) ∧ (y = y ∧ True) ∧ (true = true ∧ True) ∧ (r.cell 0 = r.cell 0 ∧ r.cell 1 = r.cell 1 ∧ True) ∧ (true = true ∧ r_4 = r_4) ∧ True) ∧ I_1 [r_5])) ∧ ∀ (r_5 : D), I_1 [r_5] → ∃ (I_2 : List D → Prop), ∃ (μ : List D → Nat), ((r_5 = r_5 ∧ (true = true ∧ true = true) ∧ (true = true ∧ true = true) ∧ (true = true ∧ true = true) ∧ (true = true ∧ true = true) ∧ True) ∧ ((true = true ∧ r_4 = r_4) ∧ (true = true ∧ True) ∧ (y = y ∧ True) ∧ (r_5 = r_5 ∧ True) ∧ (r.cell 0 = r.cell 0 ∧ r.cell 1 = r.cell 1 ∧ True) ∧ True) ∧ I_2 [r_5, r_4]) ∧ ∀ (r_6 r_7 : D), I_2 [r_6, r_7] → ∃ (r_8 : D), D.lenT (TypeDesc.slice 29) y = some r_8 ∧ ∃ (r_9 : D), D.bin BinOp.lss r_6 r_8 = some r_9 ∧ ∃ (b : Bool), r_9 = D.v (Value.bool b) ∧ (b = true → D.inb 2 y r_6 ∧ 0 + 1 ≤ (y.at_ r_6).cells.length ∧ ∃ (r_10 : D), D.bin BinOp.lss ((y.at_ r_6).cell 0) (r.cell 1) = some r_10 ∧ ∃ (b : Bool), r_10 = D.v (Value.bool b) ∧ (b = true → D.inb 2 y r_6 ∧ 0 + 1 ≤ (y.at_ r_6).cells.length ∧ ∃ (r_11 : D), (r.cell 0).max2 ((y.at_ r_6).cell 0) = some r_11 ∧ D.inb 2 y r_6 ∧ 0 + 1 + 1 ≤ (y.at_ r_6).cells.length ∧ ∃ (r_12 : D), (r.cell 1).min2 ((y.at_ r_6).cell (0 + 1)) = some r_12 ∧ ∃ (r_13 : D), MemD Try.prog 37 [T.one (C.row 0), T.agg [C.d r_11, C.d r_12]] [Ob.row (1 + 1) r_7] [T.one (C.row 1)] [none, some (Ob.row 2 r_13)] ∧ ∃ (r_14 : D), D.bin BinOp.add r_6 (D.v (Value.int IntKind.i64 1)) = some r_14 ∧ (r_14 = r_14 ∧ (true = true ∧ true = true) ∧ (true = true ∧ true = true) ∧ (true = true ∧ true = true) ∧ (true = true ∧ true = true) ∧ True) ∧ ((true = true ∧ r_13 = r_13) ∧ (true = true ∧ True) ∧ (y = y ∧ True) ∧ (r_5 = r_5 ∧ True) ∧ (r.cell 0 = r.cell 0 ∧ r.cell 1 = r.cell 1 ∧ True) ∧ True) ∧ I_2 [r_14, r_13] ∧ μ [r_14, r_13] < μ [r_6, r_7]) ∧ (b = false → ((true = true ∧ true = true) ∧ (true = true ∧ true = true) ∧ (true = true ∧ true = true) ∧ True) ∧ ((true = true ∧ r_7 = r_7) ∧ (true = true ∧ True) ∧ (r_5 = r_5 ∧ True) ∧ (y = y ∧ True) ∧ True) ∧ I (k + 1) [r_5, r_7])) ∧ (b = false → ((true = true ∧ true = true) ∧ (true = true ∧ true = true) ∧ (true = true ∧ true = true) ∧ True) ∧ ((true = true ∧ r_7 = r_7) ∧ (true = true ∧ True) ∧ (r_5 = r_5 ∧ True) ∧ (y = y ∧ True) ∧ True) ∧ I (k + 1) [r_5, r_7])) ∧ ∀ (r r_3 : D), I xs.length [r, r_3] → (PlainD r_3 ∧ True) ∧ [r_3] = [ofL 2 (List.map iv (meetF zs ys))])) ∧ (b = true → (PlainD (D.v nilS) ∧ True) ∧ [D.v nilS] = [ofL 2 (List.map iv (meetF zs ys))])) := by kernel_rfl
set_option maxHeartbeats 8000000 in
theorem meet1 (x y : D) (zs ys : List (Int × Int)) (hX : IsL 2 (zs.map iv) x) (hm : zs.length ≤ 300) (hY : IsL 2 (ys.map iv) y) (hn : ys.length ≤ 300) (hc : chkF zs = 0) (hd : chkF ys = 0) : PureD Try.prog 17 [x, y] [ofL 2 ((meetF zs ys).map iv)] := by
  refine pure_cond (Lp := (fun k => if k = 7 then some ⟨[], [], [3, 5, 6, 7], [(6, [0], [])]⟩ else if k = 10 then some ⟨[8], [], [3, 6, 7, 5], [(5, [], [0])]⟩ else if k = 1502 then some ⟨[], [], [3, 5, 6, 7], [(6, [0], [])]⟩ else if k = 3006 then some ⟨[], [], [3, 5, 6], [(5, [], [0]), (6, [0], [])]⟩ else if k = 4006 then some ⟨[40], [], [], []⟩ else none)) (by kernel_rfl) Try.func17 (by kernel_rfl) (by kernel_rfl) ?_
  rw [vc_meet1 x y zs ys]
  have EA := each x hX.notAgg
  have C1 := check x zs hX (by omega)
  have C2 := check y ys hY (by omega)
  have h1 : True := trivial
  rw [hc] at C1
  rw [hd] at C2
  repeat' (first
    | (refine ex_some (by simp (disch := omega) only [bin_shr, bin_shl, bin_and, bin_or, bin_xor, len_str, toStr_ofL, bin_add, bin_sub, bin_mul, bin_quo, bin_rem, bin_lss, bin_leq, bin_gtr, bin_geq, bin_eql, bin_neq, eqs_cn, eqs_ci, eqs_cb, eqs_cs, Option.map_some, lenT_ofL, lst_ofL, lstSz_ofL, chunk_one, lst_nil, lst_sl, lstSz_sl, lstSz_nil, Bool.and_true, Bool.true_and, Bool.and_false, Bool.false_and, beq_self_eq_true, beq_bb, bne_bb, un_not, un_neg, conv_int, min2_int, max2_int, w64, w32, wu8, wu16, wu32, wu64, tdiv_nn, tmod_nn, cell_zero, cell_succ, cell_v, cells_v, cells_agg, Bool.not_true, Bool.not_false, Int.reduceLT, Int.reduceLE, Int.reduceEq, Int.reduceNeg, Int.reduceAdd, Int.reduceSub, Int.reduceMul, intOf_v, decide_true, decide_false, h1, hY.lenT, List.length_map]; rfl) ?_)
    | (refine ex_bool ?_)
    | (refine ⟨_, EA, ?_⟩)
    | (refine ⟨_, C1, ?_⟩)
    | (refine ⟨_, C2, ?_⟩)
    | (refine ⟨_, K1, ?_⟩)
    | (exact i1)
    | (have := m7; refine ⟨(fun r => ∃ (i : Nat) (l : List Z), i ≤ ys.length ∧ l.length + (ys.length - i) ≤ 90000 ∧ mid ys (p, q) i l = mid ys (p, q) A u ∧ r = [.v (.int .i64 (i : Nat)), ofL 2 (l.map iv)]), leftG ys.length, ?_⟩)
    | (have := m7; refine fun (r8 r9 : D) (hI : (fun r => ∃ (i : Nat) (l : List Z), i ≤ ys.length ∧ l.length + (ys.length - i) ≤ 90000 ∧ mid ys (p, q) i l = mid ys (p, q) A u ∧ r = [.v (.int .i64 (i : Nat)), ofL 2 (l.map iv)]) [r8, r9]) => ?_; obtain ⟨i, l, hi, hll, him, hl0⟩ := hI; simp only [List.cons.injEq, and_true] at hl0; obtain ⟨rfl, rfl⟩ := hl0; by_cases hlt : i < ys.length <;> first | (have hk1 : i < ys.length := (by omega); have h1 := iv_get hY hk1; have i1 := iv_inb hY hk1; have g1 := fun h2 => (mid_go (x := (p, q)) (l := l) hk1 h2).trans him; have g0 := fun h2 => (mid_no (ys := ys) (x := (p, q)) (j := i) (l := l) h2).symm.trans him; generalize ys.getD i (0, 0) = y at h1 g1 g0; obtain ⟨p2, q2⟩ := y; simp only at g1 g0; simp only [h1, iv, Nat.zero_add, cell_zero, cell_succ, cells_agg, List.length_cons, List.length_nil]; have K1 := keep l (max p p2) (min q q2) (by omega); have hkl := kp_len l (max p p2, min q q2); have inl3 : True := trivial) | (have g0 : l = mid ys (p, q) A u := (mid_end hlt).symm.trans him; have h1 : True := trivial; have out3 : True := trivial))
    | (have := inl1; refine ⟨(fun r => ∃ i : Nat, i ≤ ys.length ∧ adv ys p i = A ∧ r = [.v (.int .i64 (i : Nat))]), leftG ys.length, ?_⟩)
    | (have := inl1; refine fun (r6 : D) (hI : (fun r => ∃ i : Nat, i ≤ ys.length ∧ adv ys p i = A ∧ r = [.v (.int .i64 (i : Nat))]) [r6]) => ?_; obtain ⟨i, hi, hia, hl0⟩ := hI; simp only [List.cons.injEq, and_true] at hl0; subst hl0; by_cases hlt : i < ys.length <;> first | (have hk1 : i < ys.length := (by omega); have h1 := iv_get hY hk1; have i1 := iv_inb hY hk1; have n1 := fun h2 => (adv_go (a := p) hk1 h2).trans hia; have n0 := fun h2 => (adv_no (ys := ys) (a := p) (j := i) h2).symm.trans hia; generalize ys.getD i (0, 0) = y at h1 n1 n0; obtain ⟨p2, q2⟩ := y; simp only at n1 n0; simp only [h1, iv, Nat.zero_add, cell_zero, cell_succ, cells_agg, List.length_cons, List.length_nil]; have inl2 : True := trivial) | (have n0 : i = A := (adv_end hlt).symm.trans hia; have h1 : True := trivial; have out2 : True := trivial))
    | (have := inl1; refine ⟨(fun r => r = [.v (.int .i64 (A : Nat))]), ?_⟩)
    | (have := inl1; refine fun (r1 : D) (hI : (fun r => r = [.v (.int .i64 (A : Nat))]) [r1]) => ?_; have hl0 := hI; simp only [List.cons.injEq, and_true] at hl0; subst hl0; have m7 : True := trivial)
    | (refine ⟨_, zs.map fun z => [iv z], (fun k r => r = [.v (.int .i64 (((zs.take k).foldl (meetS ys) ([], 0)).2 : Nat)), ofL 2 (((zs.take k).foldl (meetS ys) ([], 0)).1.map iv)]), rfl, seq_each hX (by omega), fits_iv zs, ?_, ?_, ?_⟩)
    | (exact rfl)
    | (refine fun (k : Nat) (r : D) (hk : (zs.map fun z => [iv z])[k]? = some [r]) => ?_; obtain ⟨hk1, rfl⟩ := iv_at hk; clear hk; refine fun (r4 r5 : D) (hI : (fun k r => r = [.v (.int .i64 (((zs.take k).foldl (meetS ys) ([], 0)).2 : Nat)), ofL 2 (((zs.take k).foldl (meetS ys) ([], 0)).1.map iv)]) k [r4, r5]) => ?_; have hl0 := hI; simp only [List.cons.injEq, and_true] at hl0; obtain ⟨rfl, rfl⟩ := hl0; have ht := foldl_succ (0, 0) hk1 (meetS ys) ([], 0); have hlen := meet_bd ys (zs.take k) ([], 0) (Nat.zero_le _); rw [List.length_take] at hlen; have hmul : ys.length * min k zs.length ≤ 300 * 299 := Nat.mul_le_mul hn (by omega); generalize zs.getD k (0, 0) = z at ht; obtain ⟨p, q⟩ := z; simp only [iv, cell_zero, cell_succ, cells_agg, List.length_cons, List.length_nil]; generalize hu : (zs.take k).foldl (meetS ys) ([], 0) = s at ht hlen; obtain ⟨u, j⟩ := s; simp only [List.length_nil, Nat.zero_add] at hlen; have hA := adv_le ys p _ j rfl hlen.2; have hf : (zs.take (k + 1)).foldl (meetS ys) ([], 0) = (mid ys (p, q) (adv ys p j) u, adv ys p j) := ht; generalize hA0 : adv ys p j = A at hA hf; have inl1 : True := trivial)
    | (refine fun (r4 r5 : D) (hI : (fun k r => r = [.v (.int .i64 (((zs.take k).foldl (meetS ys) ([], 0)).2 : Nat)), ofL 2 (((zs.take k).foldl (meetS ys) ([], 0)).1.map iv)]) (zs.map fun z => [iv z]).length [r4, r5]) => ?_; rw [List.length_map] at hI; have hl0 := hI; simp only [List.cons.injEq, and_true] at hl0; obtain ⟨rfl, rfl⟩ := hl0; rw [List.take_length]; have out1 : True := trivial)
    | (have := inl3; exact ⟨i + 1, _, by omega, by omega, g1 ‹_›, rfl⟩)
    | (have := m7; exact ⟨A, u, hA.2, by omega, rfl, rfl⟩)
    | (have := inl2; exact ⟨i + 1, by omega, n1 ‹_›, rfl⟩)
    | (have := inl1; exact ⟨j, by omega, hA0, rfl⟩)
    | (have := inl2; exact congrArg (fun t : Nat => [D.v (Value.int IntKind.i64 (t : Int))]) (n0 ‹_›))
    | (have := out2; exact congrArg (fun t : Nat => [D.v (Value.int IntKind.i64 (t : Int))]) n0)
    | (refine And.intro ?_ ?_)
    | (intro hx; have hprop := (show ∀ (p : Prop), p → True from fun _ _ => True.intro) _ hx; clear hprop; first | (cases hx; done) | (exfalso; revert hx; simp (disch := omega) only [decide_eq_true_eq, decide_eq_false_iff_not, Bool.not_eq_true', Bool.not_eq_false', Bool.and_eq_true, Bool.and_eq_false_iff, Int.not_lt, Int.not_le, ne_eq, not_false_eq_true, not_true_eq_false, reduceCtorEq, Bool.true_eq_false, Bool.false_eq_true, beq_iff_eq, bne_iff_ne, beq_eq_false_iff_ne, false_or, or_false, true_and, and_true, h1, hY.lenT, List.length_map]; done) | (simp (disch := omega) only [decide_eq_true_eq, decide_eq_false_iff_not, Bool.not_eq_true', Bool.not_eq_false', Bool.and_eq_true, Bool.and_eq_false_iff, Int.not_lt, Int.not_le, ne_eq, not_false_eq_true, not_true_eq_false, reduceCtorEq, Bool.true_eq_false, Bool.false_eq_true, beq_iff_eq, bne_iff_ne, beq_eq_false_iff_ne, false_or, or_false, true_and, and_true, h1, hY.lenT, List.length_map] at hx; first | (exfalso; omega) | skip) | skip)
    | trivial
    | exact fit_ofL _ _
    | (simp (disch := omega) only [notAgg_v, notAgg_sl, plain_v, fits, fitsOne, fitsCells, xsOf, cell_zero, cell_succ, List.range, List.range.loop, List.map, cond_true, cond_false, D.v.injEq, exists_eq', exists_eq, and_self, and_true, true_and, D.agg.injEq, List.length, exists_eq_left', D.sl.injEq, reduceCtorEq, false_or, true_or, or_true, or_false, cell_zero, cell_succ, cell_v, cells_v, cells_agg, List.length_cons, List.length_nil, h1, hY.lenT, List.length_map]; done))
  all_goals first
    | (exfalso; omega)
    | omega
    | exact notAgg_fn _ _
    | exact hX.notAgg
    | exact plain_ofL (ivs_plain _)
    | (rw [app2r]; exact plain_ofL (ivs_plain _))
    | rfl
    | exact app2 _ _ _
    | (rw [ch2]; simp only [List.length_map, List.length_append, List.length_cons, List.length_nil]; omega)
    | assumption
    | (rw [hf, ← g0]; done)
    | (rw [hf, ← g0 ‹_›]; done)
    | exact hY.notAgg
    | (simp only [leftG]; omega)
    | (rw [h1]; exact Nat.le_refl _)
    | (simp only [List.length_map]; omega)
    | (simp_all [kp]; done)
    | (simp_all; done)
    | fail

end Go.Proofs.Ytpbmlllffmkkdaa