/-
  Layer 6: the law IvalsChange.
-/
import Derived.Test.YtpbmlllffmkkdaaT1
import Derived.Test.YtpbmlllffmkkdaaT2
import Derived.Test.YtpbmlllffmkkdaaT3
import Derived.Test.YtpbmlllffmkkdaaT4
import Derived.Test.YtpbmlllffmkkdaaT5
import Derived.Test.YtpbmlllffmkkdaaT6
import Derived.Test.YtpbmlllffmkkdaaT7
import Derived.Test.YtpbmlllffmkkdaaT8
import Derived.Test.YtpbmlllffmkkdaaT9
import Derived.Test.YtpbmlllffmkkdaaT10
import Derived.Test.YtpbmlllffmkkdaaT11
import Derived.Test.YtpbmlllffmkkdaaT12
import Derived.Test.YtpbmlllffmkkdaaT13
import Derived.Test.YtpbmlllffmkkdaaT14
import Derived.Test.YtpbmlllffmkkdaaT15
namespace Go.Proofs.Ytpbmlllffmkkdaa
open Go.RowKit
set_option linter.unusedSimpArgs false
set_option linter.unusedVariables false


theorem has_one (z : Z) (n : Int) : hasF (oneF z) n = inI n z := by
  unfold oneF
  cases he : emp z
  · rw [if_neg (by simp), has_cons, has_nil, Bool.or_false]
  · rw [if_pos rfl, has_nil]
    simp only [emp, decide_eq_true_eq] at he
    symm
    rw [← Bool.not_eq_true, in_iff]; omega
theorem kindF_len (f : Bool → Bool → Bool) (a b : List Z) : (kindF f a b).length ≤ 2 * a.length + 2 * b.length := by
  have h1 := kindR_len (fun n => f (hasF a n) (hasF b n)) (endsF a b) ((endsF a b).length - 1)
  have h2 := ends_len a b
  show (kindR _ _ _).length ≤ _
  omega
def okF (zs : List Z) (z : Z) : Bool := rgd z && decide (chkF zs = 0)
theorem okF_yes {zs : List Z} {z : Z} (h : okF zs z = true) : rgd z = true ∧ chkF zs = 0 := by simpa [okF] using h
theorem okF_no {zs : List Z} {z : Z} (h : okF zs z = false) : chkF zs ≠ 0 ∨ rgd z = false := by
  unfold okF at h
  cases hr : rgd z
  · exact .inr rfl
  · rw [hr, Bool.true_and, decide_eq_false_iff_not] at h; exact .inl h
def addA (zs : List Z) (z : Z) : List Z := if okF zs z = true then kindF orF zs (oneF z) else zs
def cutA (zs : List Z) (z : Z) : List Z := if okF zs z = true then kindF diF zs (oneF z) else zs
def gapA (zs : List Z) (z : Z) : List Z := if okF zs z = true then kindF diF (oneF z) zs else []
def meetA (zs ys : List Z) : List Z := if chkF zs = 0 ∧ chkF ys = 0 then kindF anF zs ys else []
theorem addA_len (zs : List Z) (z : Z) : (addA zs z).length ≤ 2 * zs.length + 2 := by
  have h1 := kindF_len orF zs (oneF z)
  have h2 := oneF_len z
  unfold addA; split <;> omega
theorem cutA_len (zs : List Z) (z : Z) : (cutA zs z).length ≤ 2 * zs.length + 2 := by
  have h1 := kindF_len diF zs (oneF z)
  have h2 := oneF_len z
  unfold cutA; split <;> omega
theorem gapA_len (zs : List Z) (z : Z) : (gapA zs z).length ≤ 2 * zs.length + 2 := by
  have h1 := kindF_len diF (oneF z) zs
  have h2 := oneF_len z
  unfold gapA; split
  · omega
  · simp
theorem meetA_len (zs ys : List Z) : (meetA zs ys).length ≤ 2 * zs.length + 2 * ys.length := by
  have h1 := kindF_len anF zs ys
  unfold meetA; split
  · exact h1
  · simp
abbrev V2 (a b : Int) : D := .agg [.v (.int .i64 a), .v (.int .i64 b)]
variable {x : D} {zs : List Z} {a b : Int}
theorem emp_no {a b : Int} (h : emp (a, b) = false) : a < b := by simp only [emp, decide_eq_false_iff_not] at h; omega
theorem addP (hX : IsL 2 (zs.map iv) x) (hm : zs.length ≤ 1000) : ∃ d, PureD Try.prog 11 [x, V2 a b] [d] ∧ IsL 2 ((addA zs (a, b)).map iv) d := by
  unfold addA
  cases hT : okF zs (a, b)
  · rw [if_neg (by simp)]; exact ⟨x, add0 x zs a b hX (by omega) hT, hX⟩
  · rw [if_pos rfl]
    obtain ⟨hr, hc⟩ := okF_yes hT
    have hA := apt_of hc
    obtain ⟨k1, k2⟩ := kindF_is (f := orF) rfl zs (oneF (a, b))
    cases he : emp (a, b)
    · refine ⟨_, add1 x zs a b hX (by omega) hr hc he, ?_⟩
      obtain ⟨h1, h2⟩ := addF_is (z := (a, b)) hA (emp_no he)
      rw [apt_uniq h1 k1 fun n => by rw [h2, k2, has_one]]
      exact isL_ofL _ _
    · refine ⟨x, add0e x zs a b hX (by omega) hT he, ?_⟩
      rw [← apt_uniq hA k1 fun n => by rw [k2]; unfold oneF; rw [if_pos he, has_nil]; exact (Bool.or_false _).symm]
      exact hX
theorem addR (hX : IsL 2 (zs.map iv) x) (hm : zs.length ≤ 1000) : ∃ d, ReadD Try.prog 12 [x, V2 a b] [d] ∧ IsL 2 ((addA zs (a, b)).map iv) d := by
  unfold addA
  cases hT : okF zs (a, b)
  · rw [if_neg (by simp)]; exact ⟨x, radd0 x zs a b hX hm (okF_no hT), hX⟩
  · rw [if_pos rfl]
    obtain ⟨hr, hc⟩ := okF_yes hT
    exact ⟨_, radd1 x zs a b hX hm hc hr, isL_ofL _ _⟩
theorem cutP (hX : IsL 2 (zs.map iv) x) (hm : zs.length ≤ 1000) : ∃ d, PureD Try.prog 13 [x, V2 a b] [d] ∧ IsL 2 ((cutA zs (a, b)).map iv) d := by
  unfold cutA
  cases hT : okF zs (a, b)
  · rw [if_neg (by simp)]; exact ⟨x, cut0 x zs a b hX (by omega) hT, hX⟩
  · rw [if_pos rfl]
    obtain ⟨hr, hc⟩ := okF_yes hT
    have hA := apt_of hc
    obtain ⟨k1, k2⟩ := kindF_is (f := diF) rfl zs (oneF (a, b))
    cases he : emp (a, b)
    · refine ⟨_, cut1 x zs a b hX (by omega) hr hc he, ?_⟩
      obtain ⟨h1, h2⟩ := cutF_is (z := (a, b)) hA (emp_no he)
      rw [apt_uniq h1 k1 fun n => by rw [h2, k2, has_one]]
      exact isL_ofL _ _
    · refine ⟨x, cut0e x zs a b hX (by omega) hT he, ?_⟩
      rw [← apt_uniq hA k1 fun n => by rw [k2]; unfold oneF; rw [if_pos he, has_nil]; simp [diF]]
      exact hX
theorem cutR (hX : IsL 2 (zs.map iv) x) (hm : zs.length ≤ 1000) : ∃ d, ReadD Try.prog 14 [x, V2 a b] [d] ∧ IsL 2 ((cutA zs (a, b)).map iv) d := by
  unfold cutA
  cases hT : okF zs (a, b)
  · rw [if_neg (by simp)]; exact ⟨x, rcut0 x zs a b hX hm (okF_no hT), hX⟩
  · rw [if_pos rfl]
    obtain ⟨hr, hc⟩ := okF_yes hT
    exact ⟨_, rcut1 x zs a b hX hm hc hr, isL_ofL _ _⟩
theorem gapP (hX : IsL 2 (zs.map iv) x) (hm : zs.length ≤ 1000) : ∃ d, PureD Try.prog 15 [x, V2 a b] [d] ∧ IsL 2 ((gapA zs (a, b)).map iv) d := by
  unfold gapA
  cases hT : okF zs (a, b)
  · rw [if_neg (by simp)]; exact ⟨_, gap0 x zs a b hX (by omega) hT, isL_nil _⟩
  · rw [if_pos rfl]
    obtain ⟨hr, hc⟩ := okF_yes hT
    obtain ⟨k1, k2⟩ := kindF_is (f := diF) rfl (oneF (a, b)) zs
    refine ⟨_, gap1 x zs a b hX (by omega) hr hc, ?_⟩
    obtain ⟨h1, h2⟩ := gapF_is (a, b) (apt_of hc)
    rw [apt_uniq h1 k1 fun n => by rw [h2, k2, has_one]]
    exact isL_ofL _ _
theorem gapR (hX : IsL 2 (zs.map iv) x) (hm : zs.length ≤ 1000) : ∃ d, PureD Try.prog 16 [x, V2 a b] [d] ∧ IsL 2 ((gapA zs (a, b)).map iv) d := by
  unfold gapA
  cases hT : okF zs (a, b)
  · rw [if_neg (by simp)]; exact ⟨_, rgap0 x zs a b hX hm (okF_no hT), isL_nil _⟩
  · rw [if_pos rfl]
    obtain ⟨hr, hc⟩ := okF_yes hT
    exact ⟨_, rgap1 x zs a b hX hm hc hr, isL_ofL _ _⟩
theorem meetP {y : D} {ys : List Z} (hX : IsL 2 (zs.map iv) x) (hm : zs.length ≤ 300) (hY : IsL 2 (ys.map iv) y) (hn : ys.length ≤ 300) : ∃ d, PureD Try.prog 17 [x, y] [d] ∧ IsL 2 ((meetA zs ys).map iv) d := by
  unfold meetA
  by_cases hT : chkF zs = 0 ∧ chkF ys = 0
  · rw [if_pos hT]
    obtain ⟨k1, k2⟩ := kindF_is (f := anF) rfl zs ys
    refine ⟨_, meet1 x y zs ys hX hm hY hn hT.1 hT.2, ?_⟩
    obtain ⟨h1, h2⟩ := meetF_is (apt_of hT.1) (apt_of hT.2)
    rw [apt_uniq h1 k1 fun n => by rw [h2, k2]]
    exact isL_ofL _ _
  · rw [if_neg hT]; exact ⟨_, meet0 x y zs ys hX (by omega) hY (by omega) (by by_cases h : chkF zs = 0; exact .inr fun h2 => hT ⟨h, h2⟩; exact .inl h), isL_nil _⟩
theorem meetR {y : D} {ys : List Z} (hX : IsL 2 (zs.map iv) x) (hm : zs.length ≤ 300) (hY : IsL 2 (ys.map iv) y) (hn : ys.length ≤ 300) : ∃ d, PureD Try.prog 18 [x, y] [d] ∧ IsL 2 ((meetA zs ys).map iv) d := by
  unfold meetA
  by_cases hT : chkF zs = 0 ∧ chkF ys = 0
  · rw [if_pos hT]; exact ⟨_, rmeet1 x y zs ys hX (by omega) hY (by omega) hT.1 hT.2, isL_ofL _ _⟩
  · rw [if_neg hT]; exact ⟨_, rmeet0 x y zs ys hX (by omega) hY (by omega) (by by_cases h : chkF zs = 0; exact .inr fun h2 => hT ⟨h, h2⟩; exact .inl h), isL_nil _⟩
theorem ivB_refl (l : List Z) : ivB l l = true := decide_eq_true rfl

theorem vc_change (x y : D) (zs os : List (Int × Int)) (a b : Int) : Cond Try.prog (fun _ => none) Try.f3 [x, y, .agg [.v (.int .i64 a), .v (.int .i64 b)]] [.v (.bool true)] = ((NotAgg x ∧ NotAgg y ∧ (∃ (cs : List D), D.agg [D.v (Value.int IntKind.i64 a), D.v (Value.int IntKind.i64 b)] = D.agg cs ∧ cs.length = 2) ∧ True) ∧ ∃ (r : D), D.lenT (TypeDesc.slice 24) x = some r ∧ ∃ (r_1 : D), D.bin BinOp.gtr r (D.v (Value.int IntKind.i64 30)) = some r_1 ∧ ∃ (b_1 : Bool), r_1 = D.v (Value.bool b_1) ∧ (b_1 = false → ∃ (r : D), D.lenT (TypeDesc.slice 24) y = some r ∧ ∃ (r_2 : D), D.bin BinOp.gtr r (D.v (Value.int IntKind.i64 30)) = some r_2 ∧ ∃ (b_2 : Bool), r_2 = D.v (Value.bool b_2) ∧ (b_2 = true → ∃ (r : D), PureD Try.prog 7 [] [r] ∧ fits [(false, [none])] [r] ∧ ((∃ (y : Value), r = D.v y) ∧ True) ∧ [r] = [D.v (Value.bool true)]) ∧ (b_2 = false → ∃ (r : D), PureD Try.prog 8 [x] [r] ∧ fits [(false, [some 2])] [r] ∧ ∃ (r_3 : D), PureD Try.prog 11 [r, D.agg [D.v (Value.int IntKind.i64 a), D.v (Value.int IntKind.i64 b)]] [r_3] ∧ fits [(false, [some 2])] [r_3] ∧ ∃ (r_4 : D), PureD Try.prog 10 [r_3] [r_4] ∧ fits [(false, [some 2])] [r_4] ∧ ∃ (r_5 : D), ReadD Try.prog 12 [x, D.agg [D.v (Value.int IntKind.i64 a), D.v (Value.int IntKind.i64 b)]] [r_5] ∧ (NotAgg r_5 ∧ True) ∧ ∃ (r_6 : D), PureD Try.prog 9 [r_4, r_5] [r_6] ∧ fits [(false, [none])] [r_6] ∧ ∃ (b_3 : Bool), r_6 = D.v (Value.bool b_3) ∧ (b_3 = true → ∃ (r_7 : D), PureD Try.prog 13 [r, D.agg [D.v (Value.int IntKind.i64 a), D.v (Value.int IntKind.i64 b)]] [r_7] ∧ fits [(false, [some 2])] [r_7] ∧ ∃ (r_8 : D), PureD Try.prog 10 [r_7] [r_8] ∧ fits [(false, [some 2])] [r_8] ∧ ∃ (r_9 : D), ReadD Try.prog 14 [x, D.agg [D.v (Value.int IntKind.i64 a), D.v (Value.int IntKind.i64 b)]] [r_9] ∧ (NotAgg r_9 ∧ True) ∧ ∃ (r_10 : D), PureD Try.prog 9 [r_8, r_9] [r_10] ∧ fits [(false, [none])] [r_10] ∧ ∃ (b_4 : Bool), r_10 = D.v (Value.bool b_4) ∧ (b_4 = true → ∃ (r_11 : D), PureD Try.prog 15 [r, D.agg [D.v (Value.int IntKind.i64 a), D.v (Value.int IntKind.i64 b)]] [r_11] ∧ fits [(false, [some 2])] [r_11] ∧ ∃ (r_12 : D), PureD Try.prog 10 [r_11] [r_12] ∧ fits [(false, [some 2])] [r_12] ∧ ∃ (r_13 : D), PureD Try.prog 16 [x, D.agg [D.v (Value.int IntKind.i64 a), D.v (Value.int IntKind.i64 b)]] [r_13] ∧ fits [(false, [some 2])] [r_13] ∧ ∃ (r_14 : D), PureD Try.prog 9 [r_12, r_13] [r_14] ∧ fits [(false, [none])] [r_14] ∧ ∃ (b : Bool), r_14 = D.v (Value.bool b) ∧ (b = true → ∃ (r_15 : D), PureD Try.prog 8 [y] [r_15] ∧ fits [(false, [some 2])] [r_15] ∧ ∃ (r_16 : D), PureD Try.prog 17 [r, r_15] [r_16] ∧ fits [(false, [some 2])] [r_16] ∧ ∃ (r_17 : D), PureD Try.prog 10 [r_16] [r_17] ∧ fits [(false, [some 2])] [r_17] ∧ ∃ (r_18 : D), PureD Try.prog 18 [x, y] [r_18] ∧ fits [(false, [some 2])] [r_18] ∧ ∃ (r_19 : D), PureD Try.prog 9 [r_17, r_18] [r_19] ∧ fits [(false, [none])] [r_19] ∧ ∃ (b : Bool), r_19 = D.v (Value.bool b) ∧ (b = true → ∃ (r_20 : D), PureD Try.prog 10 [r] [r_20] ∧ fits [(false, [some 2])] [r_20] ∧ ∃ (r : D), PureD Try.prog 9 [r_20, x] [r] ∧ fits [(false, [none])] [r] ∧ ∃ (b : Bool), r = D.v (Value.bool b) ∧ (b = true → ∃ (r : D), PureD Try.prog 7 [] [r] ∧ fits [(false, [none])] [r] ∧ ((∃ (y : Value), r = D.v y) ∧ True) ∧ [r] = [D.v (Value.bool true)]) ∧ (b = false → (True ∧ True) ∧ [D.v (Value.bool false)] = [D.v (Value.bool true)])) ∧ (b = false → (True ∧ True) ∧ [D.v (Value.bool false)] = [D.v (Value.bool true)])) ∧ (b = false → (True ∧ True) ∧ [D.v (Value.bool false)] = [D.v (Value.bool true)])) ∧ (b_4 = false → (True ∧ True) ∧ [D.v (Value.bool false)] = [D.v (Value.bool true)])) ∧ (b_3 = false → (True ∧ True) ∧ [D.v (Value.bool false)] = [D.v (Value.bool true)]))) ∧ (b_1 = true → ∃ (r : D), PureD Try.prog 7 [] [r] ∧ fits [(false, [none])] [r] ∧ ((∃ (y : Value), r = D.v y) ∧ True) ∧ [r] = [D.v (Value.bool true)])) := by kernel_rfl
set_option maxHeartbeats 16000000 in
theorem change (x y : D) (zs os : List (Int × Int)) (a b : Int) (hX : IsL 2 (zs.map iv) x) (hY : IsL 2 (os.map iv) y) : PureD Try.prog 3 [x, y, .agg [.v (.int .i64 a), .v (.int .i64 b)]] [.v (.bool true)] := by
  refine pure_cond (Lp := (fun _ => none)) (by kernel_rfl) Try.func3 (by kernel_rfl) (by kernel_rfl) ?_
  rw [vc_change x y zs os a b]
  simp only [hX.lenT, hY.lenT, List.length_map, Option.some.injEq, exists_eq_left']
  by_cases hl : zs.length ≤ 30 ∧ os.length ≤ 30
  · skip
    have hO := own_is zs
    have hP := own_is os
    have OX := ownI x zs hX (by omega)
    have OY := ownI y os hY (by omega)
    have BZ := backI _ zs hO (by omega)
    have SZ := rsame _ x zs zs hO hX (by omega) (by omega)
    rw [ivB_refl] at SZ
    have L0 := addA_len zs (a, b)
    obtain ⟨d0, P0, g0⟩ := addP (a := a) (b := b) hO (by omega)
    obtain ⟨e0, R0, f0⟩ := addR (a := a) (b := b) hX (by omega)
    have B0 := backI _ _ g0 (by omega)
    have S0 := rsame _ _ (addA zs (a, b)) (addA zs (a, b)) (isL_ofL _ _) f0 (by omega) (by omega)
    rw [ivB_refl] at S0
    have L1 := cutA_len zs (a, b)
    obtain ⟨d1, P1, g1⟩ := cutP (a := a) (b := b) hO (by omega)
    obtain ⟨e1, R1, f1⟩ := cutR (a := a) (b := b) hX (by omega)
    have B1 := backI _ _ g1 (by omega)
    have S1 := rsame _ _ (cutA zs (a, b)) (cutA zs (a, b)) (isL_ofL _ _) f1 (by omega) (by omega)
    rw [ivB_refl] at S1
    have L2 := gapA_len zs (a, b)
    obtain ⟨d2, P2, g2⟩ := gapP (a := a) (b := b) hO (by omega)
    obtain ⟨e2, R2, f2⟩ := gapR (a := a) (b := b) hX (by omega)
    have B2 := backI _ _ g2 (by omega)
    have S2 := rsame _ _ (gapA zs (a, b)) (gapA zs (a, b)) (isL_ofL _ _) f2 (by omega) (by omega)
    rw [ivB_refl] at S2
    have L3 := meetA_len zs os
    obtain ⟨d3, P3, g3⟩ := meetP hO (by omega) hP (by omega)
    obtain ⟨e3, R3, f3⟩ := meetR hX (by omega) hY (by omega)
    have B3 := backI _ _ g3 (by omega)
    have S3 := rsame _ _ (meetA zs os) (meetA zs os) (isL_ofL _ _) f3 (by omega) (by omega)
    rw [ivB_refl] at S3
    repeat' (first
      | (refine ex_some (by simp (disch := omega) only [bin_shr, bin_shl, bin_and, bin_or, bin_xor, len_str, toStr_ofL, bin_add, bin_sub, bin_mul, bin_quo, bin_rem, bin_lss, bin_leq, bin_gtr, bin_geq, bin_eql, bin_neq, eqs_cn, eqs_ci, eqs_cb, eqs_cs, Option.map_some, lenT_ofL, lst_ofL, lstSz_ofL, chunk_one, lst_nil, lst_sl, lstSz_sl, lstSz_nil, Bool.and_true, Bool.true_and, Bool.and_false, Bool.false_and, beq_self_eq_true, beq_bb, bne_bb, un_not, un_neg, conv_int, min2_int, max2_int, w64, w32, wu8, wu16, wu32, wu64, tdiv_nn, tmod_nn, cell_zero, cell_succ, cell_v, cells_v, cells_agg, Bool.not_true, Bool.not_false, Int.reduceLT, Int.reduceLE, Int.reduceEq, Int.reduceNeg, Int.reduceAdd, Int.reduceSub, Int.reduceMul, intOf_v, decide_true, decide_false, hX.lenT, hY.lenT, List.length_map]; rfl) ?_)
      | (refine ex_bool ?_)
      | (refine ⟨_, awake, ?_⟩)
      | (refine ⟨_, OX, ?_⟩)
      | (refine ⟨_, OY, ?_⟩)
      | (refine ⟨_, P0, ?_⟩)
      | (refine ⟨_, B0, ?_⟩)
      | (refine ⟨_, R0, ?_⟩)
      | (refine ⟨_, S0, ?_⟩)
      | (refine ⟨_, P1, ?_⟩)
      | (refine ⟨_, B1, ?_⟩)
      | (refine ⟨_, R1, ?_⟩)
      | (refine ⟨_, S1, ?_⟩)
      | (refine ⟨_, P2, ?_⟩)
      | (refine ⟨_, B2, ?_⟩)
      | (refine ⟨_, R2, ?_⟩)
      | (refine ⟨_, S2, ?_⟩)
      | (refine ⟨_, P3, ?_⟩)
      | (refine ⟨_, B3, ?_⟩)
      | (refine ⟨_, R3, ?_⟩)
      | (refine ⟨_, S3, ?_⟩)
      | (refine ⟨_, BZ, ?_⟩)
      | (refine ⟨_, SZ, ?_⟩)
      | (refine And.intro ?_ ?_)
      | (intro hx; have hprop := (show ∀ (p : Prop), p → True from fun _ _ => True.intro) _ hx; clear hprop; first | (cases hx; done) | (exfalso; revert hx; simp (disch := omega) only [decide_eq_true_eq, decide_eq_false_iff_not, Bool.not_eq_true', Bool.not_eq_false', Bool.and_eq_true, Bool.and_eq_false_iff, Int.not_lt, Int.not_le, ne_eq, not_false_eq_true, not_true_eq_false, reduceCtorEq, Bool.true_eq_false, Bool.false_eq_true, beq_iff_eq, bne_iff_ne, beq_eq_false_iff_ne, false_or, or_false, true_and, and_true, hX.lenT, hY.lenT, List.length_map]; done) | (simp (disch := omega) only [decide_eq_true_eq, decide_eq_false_iff_not, Bool.not_eq_true', Bool.not_eq_false', Bool.and_eq_true, Bool.and_eq_false_iff, Int.not_lt, Int.not_le, ne_eq, not_false_eq_true, not_true_eq_false, reduceCtorEq, Bool.true_eq_false, Bool.false_eq_true, beq_iff_eq, bne_iff_ne, beq_eq_false_iff_ne, false_or, or_false, true_and, and_true, hX.lenT, hY.lenT, List.length_map] at hx; first | (exfalso; omega) | skip) | skip)
      | trivial
      | exact fit_ofL _ _
      | (simp (disch := omega) only [notAgg_v, notAgg_sl, plain_v, fits, fitsOne, fitsCells, xsOf, cell_zero, cell_succ, List.range, List.range.loop, List.map, cond_true, cond_false, D.v.injEq, exists_eq', exists_eq, and_self, and_true, true_and, D.agg.injEq, List.length, exists_eq_left', D.sl.injEq, reduceCtorEq, false_or, true_or, or_true, or_false, cell_zero, cell_succ, cell_v, cells_v, cells_agg, List.length_cons, List.length_nil, hX.lenT, hY.lenT, List.length_map]; done))
    all_goals first
      | (exfalso; omega)
      | omega
      | rfl
      | assumption
      | exact hX.notAgg
      | exact hY.notAgg
      | exact fitI g0
      | exact fitI g1
      | exact fitI g2
      | exact fitI g3
      | exact fitI f0
      | exact fitI f1
      | exact fitI f2
      | exact fitI f3
      | exact f0.notAgg
      | exact f1.notAgg
      | exact .inl rfl
      | exact .inr ⟨_, rfl⟩
      | exact fit_ofL _ _
      | exact ⟨_, rfl⟩
      | exact ⟨_, rfl, rfl⟩
      | (simp; done)
      | fail
  · skip
    repeat' (first
      | (refine ex_some (by simp (disch := omega) only [bin_shr, bin_shl, bin_and, bin_or, bin_xor, len_str, toStr_ofL, bin_add, bin_sub, bin_mul, bin_quo, bin_rem, bin_lss, bin_leq, bin_gtr, bin_geq, bin_eql, bin_neq, eqs_cn, eqs_ci, eqs_cb, eqs_cs, Option.map_some, lenT_ofL, lst_ofL, lstSz_ofL, chunk_one, lst_nil, lst_sl, lstSz_sl, lstSz_nil, Bool.and_true, Bool.true_and, Bool.and_false, Bool.false_and, beq_self_eq_true, beq_bb, bne_bb, un_not, un_neg, conv_int, min2_int, max2_int, w64, w32, wu8, wu16, wu32, wu64, tdiv_nn, tmod_nn, cell_zero, cell_succ, cell_v, cells_v, cells_agg, Bool.not_true, Bool.not_false, Int.reduceLT, Int.reduceLE, Int.reduceEq, Int.reduceNeg, Int.reduceAdd, Int.reduceSub, Int.reduceMul, intOf_v, decide_true, decide_false, hX.lenT, hY.lenT, List.length_map]; rfl) ?_)
      | (refine ex_bool ?_)
      | (refine ⟨_, awake, ?_⟩)
      | (refine And.intro ?_ ?_)
      | (intro hx; have hprop := (show ∀ (p : Prop), p → True from fun _ _ => True.intro) _ hx; clear hprop; first | (cases hx; done) | (exfalso; revert hx; simp (disch := omega) only [decide_eq_true_eq, decide_eq_false_iff_not, Bool.not_eq_true', Bool.not_eq_false', Bool.and_eq_true, Bool.and_eq_false_iff, Int.not_lt, Int.not_le, ne_eq, not_false_eq_true, not_true_eq_false, reduceCtorEq, Bool.true_eq_false, Bool.false_eq_true, beq_iff_eq, bne_iff_ne, beq_eq_false_iff_ne, false_or, or_false, true_and, and_true, hX.lenT, hY.lenT, List.length_map]; done) | (simp (disch := omega) only [decide_eq_true_eq, decide_eq_false_iff_not, Bool.not_eq_true', Bool.not_eq_false', Bool.and_eq_true, Bool.and_eq_false_iff, Int.not_lt, Int.not_le, ne_eq, not_false_eq_true, not_true_eq_false, reduceCtorEq, Bool.true_eq_false, Bool.false_eq_true, beq_iff_eq, bne_iff_ne, beq_eq_false_iff_ne, false_or, or_false, true_and, and_true, hX.lenT, hY.lenT, List.length_map] at hx; first | (exfalso; omega) | skip) | skip)
      | trivial
      | exact fit_ofL _ _
      | (simp (disch := omega) only [notAgg_v, notAgg_sl, plain_v, fits, fitsOne, fitsCells, xsOf, cell_zero, cell_succ, List.range, List.range.loop, List.map, cond_true, cond_false, D.v.injEq, exists_eq', exists_eq, and_self, and_true, true_and, D.agg.injEq, List.length, exists_eq_left', D.sl.injEq, reduceCtorEq, false_or, true_or, or_true, or_false, cell_zero, cell_succ, cell_v, cells_v, cells_agg, List.length_cons, List.length_nil, hX.lenT, hY.lenT, List.length_map]; done))
    all_goals first
      | (exfalso; omega)
      | omega
      | rfl
      | assumption
      | exact hX.notAgg
      | exact hY.notAgg
      | exact .inl rfl
      | exact .inr ⟨_, rfl⟩
      | exact fit_ofL _ _
      | exact ⟨_, rfl⟩
      | exact ⟨_, rfl, rfl⟩
      | (simp; done)
      | fail


theorem law_IvalsChange (xs : List D) (h : All2 TypedA [(false, [.sl true [.int .i64, .int .i64]]), (false, [.sl true [.int .i64, .int .i64]]), (true, [.int .i64, .int .i64])] xs) : PureD Try.prog 3 xs [.v (.bool true)] := by
  obtain ⟨x, xs, rfl, hx, h⟩ := h.cons_
  obtain ⟨y, xs, rfl, hy, h⟩ := h.cons_
  obtain ⟨z, xs, rfl, hz, h⟩ := h.cons_
  obtain rfl := h.nil_
  obtain ⟨zs, hX, _⟩ := typed_ivs hx
  obtain ⟨os, hY, _⟩ := typed_ivs hy
  obtain ⟨cs, rfl, hc⟩ := hz.agg
  obtain ⟨u, cs, rfl, hu, hc⟩ := hc.cons_
  obtain ⟨v, cs, rfl, hv, hc⟩ := hc.cons_
  obtain rfl := hc.nil_
  obtain ⟨a, rfl, _⟩ := hu.int_
  obtain ⟨b, rfl, _⟩ := hv.int_
  exact change x y zs os a b hX hY

end Go.Proofs.Ytpbmlllffmkkdaa