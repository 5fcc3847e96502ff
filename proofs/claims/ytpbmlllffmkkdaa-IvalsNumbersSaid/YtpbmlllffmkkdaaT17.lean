/-
  Layer 6: the law IvalsAgain.
-/
import Derived.Test.YtpbmlllffmkkdaaT1
import Derived.Test.YtpbmlllffmkkdaaT2
import Derived.Test.YtpbmlllffmkkdaaT3
import Derived.Test.YtpbmlllffmkkdaaT4
import Derived.Test.YtpbmlllffmkkdaaT5
import Derived.Test.YtpbmlllffmkkdaaT6
import Derived.Test.YtpbmlllffmkkdaaT7
import Derived.Test.YtpbmlllffmkkdaaT8
import Derived.Test.YtpbmlllffmkkdaaT9
import Derived.Test.YtpbmlllffmkkdaaT10
import Derived.Test.YtpbmlllffmkkdaaT11
import Derived.Test.YtpbmlllffmkkdaaT12
import Derived.Test.YtpbmlllffmkkdaaT13
import Derived.Test.YtpbmlllffmkkdaaT14
import Derived.Test.YtpbmlllffmkkdaaT15
import Derived.Test.YtpbmlllffmkkdaaT16
namespace Go.Proofs.Ytpbmlllffmkkdaa
open Go.RowKit
set_option linter.unusedSimpArgs false
set_option linter.unusedVariables false


theorem addF_len1 (z : Z) (l : List Z) : (addF l z).length ≤ l.length + 1 := by
  have h := fold_len addS (fun s => if s.2.1 = true then s.1.length - 1 else s.1.length) 1 (fun s z => by
    obtain ⟨u, w, q⟩ := s
    unfold addS
    cases w
    · simp only [Bool.false_eq_true, if_false]
      (repeat' split) <;> simp_all <;> omega
    · simp only [if_true]
      (repeat' split) <;> simp_all <;> omega) l ([], false, z)
  unfold addF
  generalize l.foldl addS ([], false, z) = s at h
  obtain ⟨u, w, q⟩ := s
  cases w
  · simp at h ⊢; omega
  · simp at h ⊢; omega
def Good (zs : List Z) : Prop := Apt zs ∧ ∀ n, hasF zs n = true → 0 ≤ n ∧ n < 1000
theorem good_nil : Good [] := ⟨apt_nil, fun n h => by rw [has_nil] at h; cases h⟩
theorem good_mem {zs : List Z} (h : Good zs) {z : Z} (hz : z ∈ zs) : 0 ≤ z.1 ∧ z.1 < z.2 ∧ z.2 ≤ 1000 := by
  have h1 := h.1.2 z hz
  have h2 := h.2 z.1 (has_iff.2 ⟨z, hz, Int.le_refl _, h1⟩)
  have h3 := h.2 (z.2 - 1) (has_iff.2 ⟨z, hz, by omega, by omega⟩)
  omega
theorem good_chk {zs : List Z} (h : Good zs) : chkF zs = 0 := by
  have e1 : zs.any nrg = false := List.any_eq_false.2 fun z hz => by
    have := good_mem h hz
    simp only [nrg, rgd, Bool.not_eq_true', Bool.and_eq_false_iff, decide_eq_false_iff_not]; omega
  have e2 : zs.any emp = false := List.any_eq_false.2 fun z hz => by
    have := good_mem h hz
    simp only [emp, decide_eq_true_eq]; omega
  have e3 : (List.range zs.length).all (ordP zs) = true := List.all_eq_true.2 fun k hk => by
    have hk := List.mem_range.1 hk
    simp only [ordP, decide_eq_true_eq]
    cases k with
    | zero =>
      have hm : zs.getD 0 (0, 0) ∈ zs := by simp [List.getD, hk]
      have := good_mem h hm
      simp only [endF]; omega
    | succ k => exact apt_lt h.1 (Nat.lt_succ_self k) hk
  unfold chkF
  rw [e1, e2, e3]; rfl
def cntR (g : Int → Bool) : Nat → Int
  | 0 => 0
  | k + 1 => cntR g k + (if g k = true then 1 else 0)
theorem cnt_bd (g : Int → Bool) : ∀ k : Nat, 0 ≤ cntR g k ∧ cntR g k ≤ k
  | 0 => ⟨Int.le_refl _, Int.le_refl _⟩
  | k + 1 => by have := cnt_bd g k; simp only [cntR]; split <;> omega
theorem cnt_ext {g f : Int → Bool} (h : ∀ n, g n = f n) (k : Nat) : cntR g k = cntR f k := by rw [funext h]
theorem cnt_no {g : Int → Bool} (h : ∀ n, g n = false) : ∀ k, cntR g k = 0
  | 0 => rfl
  | k + 1 => by simp only [cntR, cnt_no h k, h]; rfl
theorem cnt_or {g f : Int → Bool} (h : ∀ n, g n = true → f n = false) : ∀ k, cntR (fun n => g n || f n) k = cntR g k + cntR f k
  | 0 => rfl
  | k + 1 => by
    have e := cnt_or h k
    have := h k
    simp only [cntR, e]
    by_cases hg : g k = true
    · have hf := this hg
      simp [hg, hf]; omega
    · by_cases hf : f k = true
      · simp [hg, hf]; omega
      · simp [hg, hf]
theorem cnt_le {g f : Int → Bool} (h : ∀ n, g n = true → f n = true) : ∀ k, cntR g k ≤ cntR f k
  | 0 => Int.le_refl _
  | k + 1 => by
    have e := cnt_le h k
    have := h k
    simp only [cntR]
    cases hg : g k <;> cases hf : f k <;> simp_all <;> omega
theorem cnt_in {z : Z} (h0 : 0 ≤ z.1) (h1 : z.1 ≤ z.2) : ∀ k : Nat, cntR (fun n => inI n z) k = max 0 (min (k : Int) z.2 - z.1)
  | 0 => by simp only [cntR]; omega
  | k + 1 => by
    have e := cnt_in h0 h1 k
    simp only [cntR, e]
    by_cases hb : z.1 ≤ (k : Int) ∧ (k : Int) < z.2
    · rw [if_pos (in_iff.2 hb)]; omega
    · rw [if_neg (fun hh => hb (in_iff.1 hh))]; omega
theorem sum_from : ∀ (l : List Z) (a : Int), l.foldl (fun n z => n + (z.2 - z.1)) a = a + sumF l
  | [], a => by simp [sumF]
  | z :: l, a => by
    have h1 := sum_from l (a + (z.2 - z.1))
    have h2 := sum_from l (0 + (z.2 - z.1))
    show l.foldl _ (a + (z.2 - z.1)) = a + l.foldl _ (0 + (z.2 - z.1))
    rw [h1, h2]; omega
theorem sum_cnt : ∀ {zs : List Z}, Apt zs → (∀ z ∈ zs, 0 ≤ z.1 ∧ z.2 ≤ 1000) → sumF zs = cntR (hasF zs) 1000
  | [], _, _ => (cnt_no (fun n => has_nil n) _).symm
  | z :: l, h, hb => by
    obtain ⟨h1, h2, h3⟩ := apt_cons.1 h
    have ih := sum_cnt h3 fun y hy => hb y (by simp [hy])
    have hz := hb z (by simp)
    have e : cntR (hasF (z :: l)) 1000 = cntR (fun n => inI n z || hasF l n) 1000 := cnt_ext (fun n => has_cons z l n) _
    rw [e, cnt_or (fun n hn => has_no fun y hy => by have := h2 y hy; have := in_iff.1 hn; omega), cnt_in hz.1 (by omega), ← ih]
    show l.foldl _ (0 + (z.2 - z.1)) = _
    rw [sum_from]
    omega
theorem count_cnt {zs : List Z} (h : Good zs) : countF zs = cntR (hasF zs) 1000 := by
  unfold countF
  rw [if_pos (good_chk h)]
  exact sum_cnt h.1 fun z hz => by have := good_mem h hz; omega
variable {x y : D} {zs ys : List Z} {a b : Int}
theorem rgd_in (h0 : 0 ≤ a) (h1 : a ≤ b) (h2 : b ≤ 1000) : rgd (a, b) = true := by
  simp only [rgd, Bool.and_eq_true, decide_eq_true_eq]; omega
theorem emp_yes {a b : Int} (h : emp (a, b) = true) (n : Int) : inI n (a, b) = false := by
  simp only [emp, decide_eq_true_eq] at h
  rw [← Bool.not_eq_true, in_iff]; omega
theorem goodAdd (hX : IsL 2 (zs.map iv) x) (hg : Good zs) (hm : zs.length ≤ 1000) (h0 : 0 ≤ a) (h1 : a ≤ b) (h2 : b ≤ 1000) :
    ∃ d T, PureD Try.prog 11 [x, V2 a b] [d] ∧ IsL 2 (T.map iv) d ∧ Good T ∧ T.length ≤ zs.length + 1 ∧ ∀ n, hasF T n = (hasF zs n || inI n (a, b)) := by
  have hr := rgd_in h0 h1 h2
  have hc := good_chk hg
  cases he : emp (a, b)
  · obtain ⟨k1, k2⟩ := addF_is (z := (a, b)) hg.1 (emp_no he)
    refine ⟨_, addF zs (a, b), add1 x zs a b hX (by omega) hr hc he, isL_ofL _ _, ⟨k1, fun n hn => ?_⟩, addF_len1 _ _, k2⟩
    rw [k2, Bool.or_eq_true] at hn
    rcases hn with hn | hn
    · exact hg.2 n hn
    · have := in_iff.1 hn; simp only at this; omega
  · exact ⟨x, zs, add0e x zs a b hX (by omega) (by rw [hr, hc]; rfl) he, hX, hg, by omega, fun n => by rw [emp_yes he, Bool.or_false]⟩
theorem goodCut (hX : IsL 2 (zs.map iv) x) (hg : Good zs) (hm : zs.length ≤ 1000) (h0 : 0 ≤ a) (h1 : a ≤ b) (h2 : b ≤ 1000) :
    ∃ d T, PureD Try.prog 13 [x, V2 a b] [d] ∧ IsL 2 (T.map iv) d ∧ Good T ∧ T.length ≤ 2 * zs.length ∧ ∀ n, hasF T n = (hasF zs n && !inI n (a, b)) := by
  have hr := rgd_in h0 h1 h2
  have hc := good_chk hg
  cases he : emp (a, b)
  · obtain ⟨k1, k2⟩ := cutF_is (z := (a, b)) hg.1 (emp_no he)
    refine ⟨_, cutF zs (a, b), cut1 x zs a b hX (by omega) hr hc he, isL_ofL _ _, ⟨k1, fun n hn => ?_⟩, cut_len _ _ _, k2⟩
    rw [k2, Bool.and_eq_true] at hn
    exact hg.2 n hn.1
  · exact ⟨x, zs, cut0e x zs a b hX (by omega) (by rw [hr, hc]; rfl) he, hX, hg, by omega, fun n => by rw [emp_yes he]; simp⟩
theorem goodMeet (hX : IsL 2 (zs.map iv) x) (hg : Good zs) (hm : zs.length ≤ 300) (hY : IsL 2 (ys.map iv) y) (hh : Good ys) (hn : ys.length ≤ 300) :
    ∃ d T, PureD Try.prog 17 [x, y] [d] ∧ IsL 2 (T.map iv) d ∧ Good T ∧ T.length ≤ 2 * zs.length + 2 * ys.length ∧ ∀ n, hasF T n = (hasF zs n && hasF ys n) := by
  have hc := good_chk hg
  have hd := good_chk hh
  obtain ⟨d, h1, h2⟩ := meetP hX hm hY hn
  obtain ⟨k1, k2⟩ := kindF_is (f := anF) rfl zs ys
  have e : meetA zs ys = kindF anF zs ys := if_pos ⟨hc, hd⟩
  have hl := meetA_len zs ys
  refine ⟨d, _, h1, h2, ⟨by rw [e]; exact k1, fun n hn => ?_⟩, hl, fun n => by rw [e]; exact k2 n⟩
  rw [e, k2] at hn
  exact hg.2 n (Bool.and_eq_true _ _ ▸ hn : _ ∧ _).1
theorem good_holds (h : Good zs) (hm : ∀ n, inI n (a, b) = true → hasF zs n = true) : holdsF zs a b = true := by
  unfold holdsF
  cases he : emp (a, b)
  · rw [Bool.false_or, List.any_eq_true]
    have hab := emp_no he
    obtain ⟨z, hz, h1, h2⟩ := has_iff.1 (hm a (in_iff.2 ⟨Int.le_refl _, hab⟩))
    refine ⟨z, hz, ?_⟩
    simp only [hol, Bool.and_eq_true, decide_eq_true_eq]
    refine ⟨h1, ?_⟩
    rcases Int.lt_or_le z.2 b with hlt | hle
    · exfalso
      obtain ⟨w, hw, h3, h4⟩ := has_iff.1 (hm z.2 (in_iff.2 ⟨by simp only; omega, hlt⟩))
      have hz2 := h.1.2 z hz
      rcases pw_tri h.1.1 hz hw with rfl | hr | hr <;> omega
    · exact hle
  · rfl
abbrev Op3 := Bool × Int × Int
def ov (z : Op3) : D := .agg [.v (.bool z.1), .v (.int .u8 z.2.1), .v (.int .u8 z.2.2)]
def InU (z : Op3) : Prop := 0 ≤ z.2.1 ∧ z.2.1 < 256 ∧ 0 ≤ z.2.2 ∧ z.2.2 < 256
theorem ov_get {l : List Op3} (h : IsL 3 (l.map ov) x) {k : Nat} (hk : k < l.length) : x.at_ (.v (.int .i64 (k : Nat))) = ov (l.getD k (false, 0, 0)) := by
  rw [h.at_]; simp [List.getD, hk]
theorem ov_inb {l : List Op3} (h : IsL 3 (l.map ov) x) {k : Nat} (hk : k < l.length) : D.inb 3 x (.v (.int .i64 (k : Nat))) := h.inb (by omega) (by rw [List.length_map]; omega)
theorem ov_in {l : List Op3} (h : ∀ z ∈ l, InU z) {k : Nat} (hk : k < l.length) : InU (l.getD k (false, 0, 0)) := h _ (by simp [List.getD, hk])

section
variable {A B C E F G H S O V Y : List Z} {u v : Int}
theorem law1 (gE : Good E) (gA : Good A) (mE : ∀ n, hasF E n = (hasF C n || inI n (u, v))) (mC : ∀ n, hasF C n = (hasF S n && !inI n (u, v))) (mA : ∀ n, hasF A n = (hasF S n || inI n (u, v))) : ivB E A = true := by
  rw [apt_uniq gE.1 gA.1 fun n => by rw [mE, mC, mA]; cases hasF S n <;> cases inI n (u, v) <;> rfl]; exact ivB_refl _
theorem law2 (gF : Good F) (gA : Good A) (mF : ∀ n, hasF F n = (hasF A n || inI n (u, v))) (mA : ∀ n, hasF A n = (hasF S n || inI n (u, v))) : ivB F A = true := by
  rw [apt_uniq gF.1 gA.1 fun n => by rw [mF, mA]; cases hasF S n <;> cases inI n (u, v) <;> rfl]; exact ivB_refl _
theorem law3 (gB : Good B) (gG : Good G) (mB : ∀ n, hasF B n = (hasF S n && hasF O n)) (mG : ∀ n, hasF G n = (hasF O n && hasF S n)) : ivB B G = true := by
  rw [apt_uniq gB.1 gG.1 fun n => by rw [mB, mG, Bool.and_comm]]; exact ivB_refl _
theorem law4 (gH : Good H) (gS : Good S) (mH : ∀ n, hasF H n = (hasF S n && hasF S n)) : ivB H S = true := by
  rw [apt_uniq gH.1 gS.1 fun n => by rw [mH, Bool.and_self]]; exact ivB_refl _
theorem law5 (gA : Good A) (mA : ∀ n, hasF A n = (hasF S n || inI n (u, v))) : holdsF A u v = true := good_holds gA fun n hn => by rw [mA, hn, Bool.or_true]
theorem law6 (gB : Good B) (gS : Good S) (gO : Good O) (mB : ∀ n, hasF B n = (hasF S n && hasF O n)) : countF B ≤ min (countF S) (countF O) := by
  rw [count_cnt gB, count_cnt gS, count_cnt gO]
  have h1 := cnt_le (g := hasF B) (f := hasF S) (fun n hn => by rw [mB, Bool.and_eq_true] at hn; exact hn.1) 1000
  have h2 := cnt_le (g := hasF B) (f := hasF O) (fun n hn => by rw [mB, Bool.and_eq_true] at hn; exact hn.2) 1000
  omega
theorem law7 (gC : Good C) (gS : Good S) (gV : Good V) (gY : Good Y) (mC : ∀ n, hasF C n = (hasF S n && !inI n (u, v))) (mV : ∀ n, hasF V n = (hasF S n && hasF Y n)) (mY : ∀ n, hasF Y n = (hasF [] n || inI n (u, v))) :
    countF C + countF V = countF S ∧ 0 ≤ countF C ∧ countF C ≤ 1000 ∧ 0 ≤ countF V ∧ countF V ≤ 1000 := by
  rw [count_cnt gC, count_cnt gS, count_cnt gV]
  have h1 := cnt_bd (hasF C) 1000
  have h2 := cnt_bd (hasF V) 1000
  have h3 := cnt_or (g := hasF C) (f := hasF V) (fun n hn => by
    rw [mC, Bool.and_eq_true] at hn
    rw [mV, mY, has_nil, Bool.false_or]
    have h5 : inI n (u, v) = false := by simpa using hn.2
    rw [h5, Bool.and_false]) 1000
  have h4 : cntR (fun n => hasF C n || hasF V n) 1000 = cntR (hasF S) 1000 := cnt_ext (fun n => by
    rw [mC, mV, mY, has_nil, Bool.false_or]; cases hasF S n <;> cases inI n (u, v) <;> rfl) _
  omega
end

theorem vc_again (x y : D) (l m : List (Bool × Int × Int)) (c0 : Bool) (u0 w0 : Int) : Cond Try.prog (fun k => if k = 5 then some ⟨[9], [7], [0, 1, 5, 8], []⟩ else if k = 9 then some ⟨[10], [8], [1, 5, 7], []⟩ else none) Try.f6 [x, y, .agg [.v (.bool c0), .v (.int .u8 u0), .v (.int .u8 w0)]] [.v (.bool true)] = ((NotAgg x ∧ NotAgg y ∧ (∃ (cs : List D), D.agg [D.v (Value.bool c0), D.v (Value.int IntKind.u8 u0), D.v (Value.int IntKind.u8 w0)] = D.agg cs ∧ cs.length = 3) ∧ True) ∧ ∃ (r : D), D.lenT (TypeDesc.slice 53) x = some r ∧ ∃ (r_1 : D), D.bin BinOp.gtr r (D.v (Value.int IntKind.i64 30)) = some r_1 ∧ ∃ (b : Bool), r_1 = D.v (Value.bool b) ∧ (b = false → ∃ (r : D), D.lenT (TypeDesc.slice 53) y = some r ∧ ∃ (r_2 : D), D.bin BinOp.gtr r (D.v (Value.int IntKind.i64 30)) = some r_2 ∧ ∃ (b : Bool), r_2 = D.v (Value.bool b) ∧ (b = true → ∃ (r : D), PureD Try.prog 7 [] [r] ∧ fits [(false, [none])] [r] ∧ ((∃ (y : Value), r = D.v y) ∧ True) ∧ [r] = [D.v (Value.bool true)]) ∧ (b = false → ∃ (I : List D → Prop), ∃ (μ : List D → Nat), ((D.v (Value.int IntKind.i64 0) = D.v (Value.int IntKind.i64 0) ∧ true = true ∧ x = x ∧ y = y ∧ (true = true ∧ true = true) ∧ true = true ∧ True) ∧ ((true = true ∧ D.v nilS = D.v nilS) ∧ (D.v (Value.bool c0) = D.v (Value.bool c0) ∧ D.v (Value.int IntKind.u8 u0) = D.v (Value.int IntKind.u8 u0) ∧ D.v (Value.int IntKind.u8 w0) = D.v (Value.int IntKind.u8 w0) ∧ True) ∧ (true = true ∧ D.v nilS = D.v nilS) ∧ True) ∧ I [D.v (Value.int IntKind.i64 0), D.v nilS]) ∧ ∀ (r r_3 : D), I [r, r_3] → ∃ (r_4 : D), D.lenT (TypeDesc.slice 53) x = some r_4 ∧ ∃ (r_5 : D), D.bin BinOp.lss r r_4 = some r_5 ∧ ∃ (b : Bool), r_5 = D.v (Value.bool b) ∧ (b = true → D.inb 3 x r ∧ 0 + 1 + 1 ≤ (x.at_ r).cells.length ∧ ∃ (r_6 : D), D.conv IntKind.i64 ((x.at_ r).cell (0 + 1)) = some r_6 ∧ D.inb 3 x r ∧ 0 + 1 + 1 ≤ (x.at_ r).cells.length ∧ ∃ (r_7 : D), D.conv IntKind.i64 ((x.at_ r).cell (0 + 1)) = some r_7 ∧ D.inb 3 x r ∧ 1 + 1 + 1 ≤ (x.at_ r).cells.length ∧ ∃ (r_8 : D), D.conv IntKind.i64 ((x.at_ r).cell (1 + 1)) = some r_8 ∧ ∃ (r_9 : D), D.bin BinOp.add r_7 r_8 = some r_9 ∧ ∃ (r_10 : D), PureD Try.prog 11 [r_3, D.agg [r_6, r_9]] [r_10] ∧ fits [(false, [some 2])] [r_10] ∧ ∃ (r_11 : D), D.bin BinOp.add r (D.v (Value.int IntKind.i64 1)) = some r_11 ∧ (r_11 = r_11 ∧ true = true ∧ x = x ∧ y = y ∧ (true = true ∧ true = true) ∧ true = true ∧ True) ∧ ((true = true ∧ r_10 = r_10) ∧ (D.v (Value.bool c0) = D.v (Value.bool c0) ∧ D.v (Value.int IntKind.u8 u0) = D.v (Value.int IntKind.u8 u0) ∧ D.v (Value.int IntKind.u8 w0) = D.v (Value.int IntKind.u8 w0) ∧ True) ∧ (true = true ∧ D.v nilS = D.v nilS) ∧ True) ∧ I [r_11, r_10] ∧ μ [r_11, r_10] < μ [r, r_3]) ∧ (b = false → ∃ (I : List D → Prop), ∃ (μ : List D → Nat), ((D.v (Value.int IntKind.i64 0) = D.v (Value.int IntKind.i64 0) ∧ true = true ∧ y = y ∧ (true = true ∧ true = true) ∧ true = true ∧ True) ∧ ((true = true ∧ D.v nilS = D.v nilS) ∧ (D.v (Value.bool c0) = D.v (Value.bool c0) ∧ D.v (Value.int IntKind.u8 u0) = D.v (Value.int IntKind.u8 u0) ∧ D.v (Value.int IntKind.u8 w0) = D.v (Value.int IntKind.u8 w0) ∧ True) ∧ (true = true ∧ r_3 = r_3) ∧ True) ∧ I [D.v (Value.int IntKind.i64 0), D.v nilS]) ∧ ∀ (r r_6 : D), I [r, r_6] → ∃ (r_7 : D), D.lenT (TypeDesc.slice 53) y = some r_7 ∧ ∃ (r_8 : D), D.bin BinOp.lss r r_7 = some r_8 ∧ ∃ (b : Bool), r_8 = D.v (Value.bool b) ∧ (b = true → D.inb 3 y r ∧ 0 + 1 + 1 ≤ (y.at_ r).cells.length ∧ ∃ (r_9 : D), D.conv IntKind.i64 ((y.at_ r).cell (0 + 1)) = some r_9 ∧ D.inb 3 y r ∧ 0 + 1 + 1 ≤ (y.at_ r).cells.length ∧ ∃ (r_10 : D), D.conv IntKind.i64 ((y.at_ r).cell (0 + 1)) = some r_10 ∧ D.inb 3 y r ∧ 1 + 1 + 1 ≤ (y.at_ r).cells.length ∧ ∃ (r_11 : D), D.conv IntKind.i64 ((y.at_ r).cell (1 + 1)) = some r_11 ∧ ∃ (r_12 : D), D.bin BinOp.add r_10 r_11 = some r_12 ∧ ∃ (r_13 : D), PureD Try.prog 11 [r_6, D.agg [r_9, r_12]] [r_13] ∧ fits [(false, [some 2])] [r_13] ∧ ∃ (r_14 : D), D.bin BinOp.add r (D.v (Value.int IntKind.i64 1)) = some r_14 ∧ (r_14 = r_14 ∧ true = true ∧ y = y ∧ (true = true ∧ true = true) ∧ true = true ∧ True) ∧ ((true = true ∧ r_13 = r_13) ∧ (D.v (Value.bool c0) = D.v (Value.bool c0) ∧ D.v (Value.int IntKind.u8 u0) = D.v (Value.int IntKind.u8 u0) ∧ D.v (Value.int IntKind.u8 w0) = D.v (Value.int IntKind.u8 w0) ∧ True) ∧ (true = true ∧ r_3 = r_3) ∧ True) ∧ I [r_14, r_13] ∧ μ [r_14, r_13] < μ [r, r_6]) ∧ (b = false → ∃ (r : D), D.conv IntKind.i64 (D.v (Value.int IntKind.u8 u0)) = some r ∧ ∃ (r_9 : D), D.conv IntKind.i64 (D.v (Value.int IntKind.u8 u0)) = some r_9 ∧ ∃ (r_10 : D), D.conv IntKind.i64 (D.v (Value.int IntKind.u8 w0)) = some r_10 ∧ ∃ (r_11 : D), D.bin BinOp.add r_9 r_10 = some r_11 ∧ ∃ (r_12 : D), PureD Try.prog 11 [r_3, D.agg [r, r_11]] [r_12] ∧ fits [(false, [some 2])] [r_12] ∧ ∃ (r_13 : D), PureD Try.prog 17 [r_3, r_6] [r_13] ∧ fits [(false, [some 2])] [r_13] ∧ ∃ (r_14 : D), PureD Try.prog 13 [r_3, D.agg [r, r_11]] [r_14] ∧ fits [(false, [some 2])] [r_14] ∧ ∃ (r_15 : D), PureD Try.prog 11 [r_14, D.agg [r, r_11]] [r_15] ∧ fits [(false, [some 2])] [r_15] ∧ ∃ (r_16 : D), PureD Try.prog 23 [r_15, r_12] [r_16] ∧ fits [(false, [none])] [r_16] ∧ ∃ (b : Bool), r_16 = D.v (Value.bool b) ∧ (b = true → ∃ (r_17 : D), PureD Try.prog 11 [r_12, D.agg [r, r_11]] [r_17] ∧ fits [(false, [some 2])] [r_17] ∧ ∃ (r_18 : D), PureD Try.prog 23 [r_17, r_12] [r_18] ∧ fits [(false, [none])] [r_18] ∧ ∃ (b : Bool), r_18 = D.v (Value.bool b) ∧ (b = true → ∃ (r_19 : D), PureD Try.prog 26 [r_12, D.agg [r, r_11]] [r_19] ∧ fits [(false, [none])] [r_19] ∧ ∃ (b : Bool), r_19 = D.v (Value.bool b) ∧ (b = true → ∃ (r_20 : D), PureD Try.prog 17 [r_6, r_3] [r_20] ∧ fits [(false, [some 2])] [r_20] ∧ ∃ (r_21 : D), PureD Try.prog 23 [r_13, r_20] [r_21] ∧ fits [(false, [none])] [r_21] ∧ ∃ (b : Bool), r_21 = D.v (Value.bool b) ∧ (b = true → ∃ (r_22 : D), PureD Try.prog 21 [r_13] [r_22] ∧ fits [(false, [none])] [r_22] ∧ ∃ (r_23 : D), PureD Try.prog 21 [r_3] [r_23] ∧ fits [(false, [none])] [r_23] ∧ ∃ (r_24 : D), PureD Try.prog 21 [r_6] [r_24] ∧ fits [(false, [none])] [r_24] ∧ ∃ (r_25 : D), r_23.min2 r_24 = some r_25 ∧ ∃ (r_26 : D), D.bin BinOp.leq r_22 r_25 = some r_26 ∧ ∃ (b : Bool), r_26 = D.v (Value.bool b) ∧ (b = true → ∃ (r_27 : D), PureD Try.prog 17 [r_3, r_3] [r_27] ∧ fits [(false, [some 2])] [r_27] ∧ ∃ (r_28 : D), PureD Try.prog 23 [r_27, r_3] [r_28] ∧ fits [(false, [none])] [r_28] ∧ ∃ (b : Bool), r_28 = D.v (Value.bool b) ∧ (b = true → ∃ (r_29 : D), PureD Try.prog 13 [r_3, D.agg [r, r_11]] [r_29] ∧ fits [(false, [some 2])] [r_29] ∧ ∃ (r_30 : D), PureD Try.prog 21 [r_29] [r_30] ∧ fits [(false, [none])] [r_30] ∧ ∃ (r_31 : D), PureD Try.prog 11 [D.v (Value.slice none 0 0), D.agg [r, r_11]] [r_31] ∧ fits [(false, [some 2])] [r_31] ∧ ∃ (r : D), PureD Try.prog 17 [r_3, r_31] [r] ∧ fits [(false, [some 2])] [r] ∧ ∃ (r_32 : D), PureD Try.prog 21 [r] [r_32] ∧ fits [(false, [none])] [r_32] ∧ ∃ (r : D), D.bin BinOp.add r_30 r_32 = some r ∧ ∃ (r_33 : D), PureD Try.prog 21 [r_3] [r_33] ∧ fits [(false, [none])] [r_33] ∧ ∃ (r_34 : D), D.bin BinOp.eql r r_33 = some r_34 ∧ ∃ (b : Bool), r_34 = D.v (Value.bool b) ∧ (b = true → ∃ (r : D), PureD Try.prog 7 [] [r] ∧ fits [(false, [none])] [r] ∧ ((∃ (y : Value), r = D.v y) ∧ True) ∧ [r] = [D.v (Value.bool true)]) ∧ (b = false → (True ∧ True) ∧ [D.v (Value.bool false)] = [D.v (Value.bool true)])) ∧ (b = false → (True ∧ True) ∧ [D.v (Value.bool false)] = [D.v (Value.bool true)])) ∧ (b = false → (True ∧ True) ∧ [D.v (Value.bool false)] = [D.v (Value.bool true)])) ∧ (b = false → (True ∧ True) ∧ [D.v (Value.bool false)] = [D.v (Value.bool true)])) ∧ (b = false → (True ∧ True) ∧ [D.v (Value.bool false)] = [D.v (Value.bool true)])) ∧ (b = false → (True ∧ True) ∧ [D.v (Value.bool false)] = [D.v (Value.bool true)])) ∧ (b = false → (True ∧ True) ∧ [D.v (Value.bool false)] = [D.v (Value.bool true)]))))) ∧ (b = true → ∃ (r : D), PureD Try.prog 7 [] [r] ∧ fits [(false, [none])] [r] ∧ ((∃ (y : Value), r = D.v y) ∧ True) ∧ [r] = [D.v (Value.bool true)])) := by kernel_rfl
set_option maxHeartbeats 16000000 in
theorem again (x y : D) (l m : List (Bool × Int × Int)) (c0 : Bool) (u0 w0 : Int) (hL : IsL 3 (l.map ov) x) (hM : IsL 3 (m.map ov) y) (hLA : ∀ z ∈ l, InU z) (hMA : ∀ z ∈ m, InU z) (hu : 0 ≤ u0 ∧ u0 < 256 ∧ 0 ≤ w0 ∧ w0 < 256) : PureD Try.prog 6 [x, y, .agg [.v (.bool c0), .v (.int .u8 u0), .v (.int .u8 w0)]] [.v (.bool true)] := by
  refine pure_cond (Lp := (fun k => if k = 5 then some ⟨[9], [7], [0, 1, 5, 8], []⟩ else if k = 9 then some ⟨[10], [8], [1, 5, 7], []⟩ else none)) (by kernel_rfl) Try.func6 (by kernel_rfl) (by kernel_rfl) ?_
  rw [vc_again x y l m c0 u0 w0]
  simp only [hL.lenT, hM.lenT, List.length_map, Option.some.injEq, exists_eq_left']
  by_cases hl : l.length ≤ 30 ∧ m.length ≤ 30
  · have h1 : True := trivial
    repeat' (first
      | (refine ex_some (by simp (disch := omega) only [bin_shr, bin_shl, bin_and, bin_or, bin_xor, len_str, toStr_ofL, bin_add, bin_sub, bin_mul, bin_quo, bin_rem, bin_lss, bin_leq, bin_gtr, bin_geq, bin_eql, bin_neq, eqs_cn, eqs_ci, eqs_cb, eqs_cs, Option.map_some, lenT_ofL, lst_ofL, lstSz_ofL, chunk_one, lst_nil, lst_sl, lstSz_sl, lstSz_nil, Bool.and_true, Bool.true_and, Bool.and_false, Bool.false_and, beq_self_eq_true, beq_bb, bne_bb, un_not, un_neg, conv_int, min2_int, max2_int, w64, w32, wu8, wu16, wu32, wu64, tdiv_nn, tmod_nn, cell_zero, cell_succ, cell_v, cells_v, cells_agg, Bool.not_true, Bool.not_false, Int.reduceLT, Int.reduceLE, Int.reduceEq, Int.reduceNeg, Int.reduceAdd, Int.reduceSub, Int.reduceMul, intOf_v, decide_true, decide_false, h1, hL.lenT, hM.lenT, List.length_map]; rfl) ?_)
      | (refine ex_bool ?_)
      | (refine ⟨_, awake, ?_⟩)
      | (exact i1)
      | (refine ⟨_, P1, ?_⟩)
      | (refine ⟨_, PA, ?_⟩)
      | (refine ⟨_, PB, ?_⟩)
      | (refine ⟨_, PC, ?_⟩)
      | (refine ⟨_, PE, ?_⟩)
      | (refine ⟨_, PF, ?_⟩)
      | (refine ⟨_, PG, ?_⟩)
      | (refine ⟨_, PH, ?_⟩)
      | (refine ⟨_, PY, ?_⟩)
      | (refine ⟨_, PV, ?_⟩)
      | (refine ⟨_, S1, ?_⟩)
      | (refine ⟨_, S2, ?_⟩)
      | (refine ⟨_, S3, ?_⟩)
      | (refine ⟨_, S4, ?_⟩)
      | (refine ⟨_, H1, ?_⟩)
      | (refine ⟨_, N1, ?_⟩)
      | (refine ⟨_, N2, ?_⟩)
      | (refine ⟨_, N3, ?_⟩)
      | (refine ⟨_, N4, ?_⟩)
      | (refine ⟨_, N5, ?_⟩)
      | (have := out1; refine ⟨(fun r => ∃ (i : Nat) (S : List Z) (d : D), i ≤ m.length ∧ Good S ∧ S.length ≤ i ∧ IsL 2 (S.map iv) d ∧ r = [.v (.int .i64 (i : Nat)), d]), leftG m.length, ?_⟩)
      | (have := out1; refine fun (r4 r5 : D) (hI : (fun r => ∃ (i : Nat) (S : List Z) (d : D), i ≤ m.length ∧ Good S ∧ S.length ≤ i ∧ IsL 2 (S.map iv) d ∧ r = [.v (.int .i64 (i : Nat)), d]) [r4, r5]) => ?_; obtain ⟨i, O, d, hi, hg, hs, hd, hl0⟩ := hI; simp only [List.cons.injEq, and_true] at hl0; obtain ⟨rfl, rfl⟩ := hl0; by_cases hlt : i < m.length <;> first | (have hk1 : i < m.length := (by omega); have h1 := ov_get hM hk1; have i1 := ov_inb hM hk1; have hb := ov_in hMA hk1; generalize m.getD i (false, 0, 0) = z at h1 hb; obtain ⟨c, u, w⟩ := z; simp only [InU] at hb; simp only [h1, ov, Nat.zero_add, cell_zero, cell_succ, cells_agg, List.length_cons, List.length_nil]; obtain ⟨d2, T, P1, hd2, hg2, hs2, -⟩ := goodAdd (a := u) (b := u + w) hd hg (by omega) (by omega) (by omega) (by omega); have inl2 : True := trivial) | (have hkk : i = m.length := (by omega); subst hkk; have hO := hd; have gO := hg; have sO := hs; clear hd hg hs; obtain ⟨dA, A, PA, hA, gA, sA, mA⟩ := goodAdd (a := u0) (b := u0 + w0) hS gS (by omega) (by omega) (by omega) (by omega); obtain ⟨dB, B, PB, hB, gB, sB, mB⟩ := goodMeet hS gS (by omega) hO gO (by omega); obtain ⟨dC, C, PC, hC, gC, sC, mC⟩ := goodCut (a := u0) (b := u0 + w0) hS gS (by omega) (by omega) (by omega) (by omega); obtain ⟨dE, E, PE, hE, gE, sE, mE⟩ := goodAdd (a := u0) (b := u0 + w0) hC gC (by omega) (by omega) (by omega) (by omega); obtain ⟨dF, F, PF, hF, gF, sF, mF⟩ := goodAdd (a := u0) (b := u0 + w0) hA gA (by omega) (by omega) (by omega) (by omega); obtain ⟨dG, G, PG, hG, gG, sG, mG⟩ := goodMeet hO gO (by omega) hS gS (by omega); obtain ⟨dH, H, PH, hH, gH, sH, mH⟩ := goodMeet hS gS (by omega) hS gS (by omega); obtain ⟨dY, Y, PY, hY, gY, sY, mY⟩ := goodAdd (zs := []) (a := u0) (b := u0 + w0) (isL_nil 2) good_nil (by simp) (by omega) (by omega) (by omega); rw [List.length_nil] at sY; obtain ⟨dV, V, PV, hV, gV, sV, mV⟩ := goodMeet hS gS (by omega) hY gY (by omega); have S1 := same _ _ E A hE hA (by omega) (by omega); have S2 := same _ _ F A hF hA (by omega) (by omega); have S3 := same _ _ B G hB hG (by omega) (by omega); have S4 := same _ _ H S hH hS (by omega) (by omega); rw [law1 gE gA mE mC mA] at S1; rw [law2 gF gA mF mA] at S2; rw [law3 gB gG mB mG] at S3; rw [law4 gH gS mH] at S4; have H1 := holds _ A u0 (u0 + w0) hA (by omega); rw [law5 gA mA] at H1; have N1 := count _ B hB (by omega); have N2 := count _ S hS (by omega); have N3 := count _ O hO (by omega); have N4 := count _ C hC (by omega); have N5 := count _ V hV (by omega); have Q1 := law6 gB gS gO mB; have Q2 := law7 gC gS gV gY mC mV mY; generalize countF B = c1 at N1 Q1; generalize countF S = c2 at N2 Q1 Q2; generalize countF O = c3 at N3 Q1; generalize countF C = c4 at N4 Q2; generalize countF V = c5 at N5 Q2; have out2 : True := trivial))
      | (refine ⟨(fun r => ∃ (i : Nat) (S : List Z) (d : D), i ≤ l.length ∧ Good S ∧ S.length ≤ i ∧ IsL 2 (S.map iv) d ∧ r = [.v (.int .i64 (i : Nat)), d]), leftG l.length, ?_⟩)
      | (refine fun (r2 r3 : D) (hI : (fun r => ∃ (i : Nat) (S : List Z) (d : D), i ≤ l.length ∧ Good S ∧ S.length ≤ i ∧ IsL 2 (S.map iv) d ∧ r = [.v (.int .i64 (i : Nat)), d]) [r2, r3]) => ?_; obtain ⟨i, S, d, hi, hg, hs, hd, hl0⟩ := hI; simp only [List.cons.injEq, and_true] at hl0; obtain ⟨rfl, rfl⟩ := hl0; by_cases hlt : i < l.length <;> first | (have hk1 : i < l.length := (by omega); have h1 := ov_get hL hk1; have i1 := ov_inb hL hk1; have hb := ov_in hLA hk1; generalize l.getD i (false, 0, 0) = z at h1 hb; obtain ⟨c, u, w⟩ := z; simp only [InU] at hb; simp only [h1, ov, Nat.zero_add, cell_zero, cell_succ, cells_agg, List.length_cons, List.length_nil]; obtain ⟨d2, T, P1, hd2, hg2, hs2, -⟩ := goodAdd (a := u) (b := u + w) hd hg (by omega) (by omega) (by omega) (by omega); have inl1 : True := trivial) | (have hkk : i = l.length := (by omega); subst hkk; have hL1 : True := trivial; have hS := hd; have gS := hg; have sS := hs; clear hd hg hs; have h1 : True := trivial; have out1 : True := trivial))
      | (have := inl2; exact ⟨i + 1, T, d2, by omega, hg2, by omega, hd2, rfl⟩)
      | (have := inl1; exact ⟨i + 1, T, d2, by omega, hg2, by omega, hd2, rfl⟩)
      | (have := out1; exact ⟨0, [], .v nilS, by omega, good_nil, by simp, isL_nil 2, rfl⟩)
      | (exact ⟨0, [], .v nilS, by omega, good_nil, by simp, isL_nil 2, rfl⟩)
      | (refine And.intro ?_ ?_)
      | (intro hx; have hprop := (show ∀ (p : Prop), p → True from fun _ _ => True.intro) _ hx; clear hprop; first | (cases hx; done) | (exfalso; revert hx; simp (disch := omega) only [decide_eq_true_eq, decide_eq_false_iff_not, Bool.not_eq_true', Bool.not_eq_false', Bool.and_eq_true, Bool.and_eq_false_iff, Int.not_lt, Int.not_le, ne_eq, not_false_eq_true, not_true_eq_false, reduceCtorEq, Bool.true_eq_false, Bool.false_eq_true, beq_iff_eq, bne_iff_ne, beq_eq_false_iff_ne, false_or, or_false, true_and, and_true, h1, hL.lenT, hM.lenT, List.length_map]; done) | (simp (disch := omega) only [decide_eq_true_eq, decide_eq_false_iff_not, Bool.not_eq_true', Bool.not_eq_false', Bool.and_eq_true, Bool.and_eq_false_iff, Int.not_lt, Int.not_le, ne_eq, not_false_eq_true, not_true_eq_false, reduceCtorEq, Bool.true_eq_false, Bool.false_eq_true, beq_iff_eq, bne_iff_ne, beq_eq_false_iff_ne, false_or, or_false, true_and, and_true, h1, hL.lenT, hM.lenT, List.length_map] at hx; first | (exfalso; omega) | skip) | skip)
      | trivial
      | exact fit_ofL _ _
      | (simp (disch := omega) only [notAgg_v, notAgg_sl, plain_v, fits, fitsOne, fitsCells, xsOf, cell_zero, cell_succ, List.range, List.range.loop, List.map, cond_true, cond_false, D.v.injEq, exists_eq', exists_eq, and_self, and_true, true_and, D.agg.injEq, List.length, exists_eq_left', D.sl.injEq, reduceCtorEq, false_or, true_or, or_true, or_false, cell_zero, cell_succ, cell_v, cells_v, cells_agg, List.length_cons, List.length_nil, h1, hL.lenT, hM.lenT, List.length_map]; done))
    all_goals first
      | (exfalso; omega)
      | omega
      | rfl
      | assumption
      | exact hL.notAgg
      | exact hM.notAgg
      | (simp only [leftG]; omega)
      | (rw [h1]; exact Nat.le_refl _)
      | exact .inl rfl
      | exact .inr ⟨_, rfl⟩
      | exact fitI hA
      | exact fitI hB
      | exact fitI hC
      | exact fitI hE
      | exact fitI hF
      | exact fitI hG
      | exact fitI hH
      | exact fitI hY
      | exact fitI hV
      | exact fitI hd2
      | exact ⟨_, rfl⟩
      | exact ⟨_, rfl, rfl⟩
      | (simp; done)
      | fail
  · skip
    repeat' (first
      | (refine ex_some (by simp (disch := omega) only [bin_shr, bin_shl, bin_and, bin_or, bin_xor, len_str, toStr_ofL, bin_add, bin_sub, bin_mul, bin_quo, bin_rem, bin_lss, bin_leq, bin_gtr, bin_geq, bin_eql, bin_neq, eqs_cn, eqs_ci, eqs_cb, eqs_cs, Option.map_some, lenT_ofL, lst_ofL, lstSz_ofL, chunk_one, lst_nil, lst_sl, lstSz_sl, lstSz_nil, Bool.and_true, Bool.true_and, Bool.and_false, Bool.false_and, beq_self_eq_true, beq_bb, bne_bb, un_not, un_neg, conv_int, min2_int, max2_int, w64, w32, wu8, wu16, wu32, wu64, tdiv_nn, tmod_nn, cell_zero, cell_succ, cell_v, cells_v, cells_agg, Bool.not_true, Bool.not_false, Int.reduceLT, Int.reduceLE, Int.reduceEq, Int.reduceNeg, Int.reduceAdd, Int.reduceSub, Int.reduceMul, intOf_v, decide_true, decide_false, hL.lenT, hM.lenT, List.length_map]; rfl) ?_)
      | (refine ex_bool ?_)
      | (refine ⟨_, awake, ?_⟩)
      | (refine And.intro ?_ ?_)
      | (intro hx; have hprop := (show ∀ (p : Prop), p → True from fun _ _ => True.intro) _ hx; clear hprop; first | (cases hx; done) | (exfalso; revert hx; simp (disch := omega) only [decide_eq_true_eq, decide_eq_false_iff_not, Bool.not_eq_true', Bool.not_eq_false', Bool.and_eq_true, Bool.and_eq_false_iff, Int.not_lt, Int.not_le, ne_eq, not_false_eq_true, not_true_eq_false, reduceCtorEq, Bool.true_eq_false, Bool.false_eq_true, beq_iff_eq, bne_iff_ne, beq_eq_false_iff_ne, false_or, or_false, true_and, and_true, hL.lenT, hM.lenT, List.length_map]; done) | (simp (disch := omega) only [decide_eq_true_eq, decide_eq_false_iff_not, Bool.not_eq_true', Bool.not_eq_false', Bool.and_eq_true, Bool.and_eq_false_iff, Int.not_lt, Int.not_le, ne_eq, not_false_eq_true, not_true_eq_false, reduceCtorEq, Bool.true_eq_false, Bool.false_eq_true, beq_iff_eq, bne_iff_ne, beq_eq_false_iff_ne, false_or, or_false, true_and, and_true, hL.lenT, hM.lenT, List.length_map] at hx; first | (exfalso; omega) | skip) | skip)
      | trivial
      | exact fit_ofL _ _
      | (simp (disch := omega) only [notAgg_v, notAgg_sl, plain_v, fits, fitsOne, fitsCells, xsOf, cell_zero, cell_succ, List.range, List.range.loop, List.map, cond_true, cond_false, D.v.injEq, exists_eq', exists_eq, and_self, and_true, true_and, D.agg.injEq, List.length, exists_eq_left', D.sl.injEq, reduceCtorEq, false_or, true_or, or_true, or_false, cell_zero, cell_succ, cell_v, cells_v, cells_agg, List.length_cons, List.length_nil, hL.lenT, hM.lenT, List.length_map]; done))
    all_goals first
      | (exfalso; omega)
      | omega
      | rfl
      | assumption
      | exact hL.notAgg
      | exact hM.notAgg
      | (simp only [leftG]; omega)
      | (rw [h1]; exact Nat.le_refl _)
      | exact .inl rfl
      | exact .inr ⟨_, rfl⟩
      | exact ⟨_, rfl⟩
      | exact ⟨_, rfl, rfl⟩
      | (simp; done)
      | fail


theorem typed_ops {x : D} (h : TypedA (false, [.sl true [.bool, .int .u8, .int .u8]]) x) : ∃ l : List Op3, IsL 3 (l.map ov) x ∧ ∀ z ∈ l, InU z := by
  obtain ⟨es, h1, _, h3⟩ := h.one.row
  obtain ⟨l, rfl, hl⟩ := map_of (f := ov) (p := InU) (es := es) (fun e he => by
    obtain ⟨ha, hc⟩ := h3 e he
    cases e with
    | agg ds =>
      obtain ⟨p, ds, rfl, hp, hc⟩ := hc.cons_
      obtain ⟨q, ds, rfl, hq, hc⟩ := hc.cons_
      obtain ⟨r, ds, rfl, hr, hc⟩ := hc.cons_
      obtain rfl := hc.nil_
      obtain ⟨c, rfl⟩ := hp.bool_
      obtain ⟨u, rfl, hu⟩ := hq.int_
      obtain ⟨w, rfl, hw⟩ := hr.int_
      have h1 := wf_u8 hu
      have h2 := wf_u8 hw
      exact ⟨(c, u, w), rfl, h1.1, h1.2, h2.1, h2.2⟩
    | v x => cases ha
    | sl sz l => cases ha
    | fn f caps => cases ha
    | pt x => cases ha)
  exact ⟨l, h1, hl⟩
theorem law_IvalsAgain (xs : List D) (h : All2 TypedA [(false, [.sl true [.bool, .int .u8, .int .u8]]), (false, [.sl true [.bool, .int .u8, .int .u8]]), (true, [.bool, .int .u8, .int .u8])] xs) : PureD Try.prog 6 xs [.v (.bool true)] := by
  obtain ⟨x, xs, rfl, hx, h⟩ := h.cons_
  obtain ⟨y, xs, rfl, hy, h⟩ := h.cons_
  obtain ⟨z, xs, rfl, hz, h⟩ := h.cons_
  obtain rfl := h.nil_
  obtain ⟨l, hL, hLA⟩ := typed_ops hx
  obtain ⟨m, hM, hMA⟩ := typed_ops hy
  obtain ⟨cs, rfl, hc⟩ := hz.agg
  obtain ⟨p, cs, rfl, hp, hc⟩ := hc.cons_
  obtain ⟨q, cs, rfl, hq, hc⟩ := hc.cons_
  obtain ⟨r, cs, rfl, hr, hc⟩ := hc.cons_
  obtain rfl := hc.nil_
  obtain ⟨c, rfl⟩ := hp.bool_
  obtain ⟨u, rfl, hu⟩ := hq.int_
  obtain ⟨w, rfl, hw⟩ := hr.int_
  have h1 := wf_u8 hu
  have h2 := wf_u8 hw
  exact again x y l m c u w hL hM hLA hMA ⟨h1.1, h1.2, h2.1, h2.2⟩

end Go.Proofs.Ytpbmlllffmkkdaa