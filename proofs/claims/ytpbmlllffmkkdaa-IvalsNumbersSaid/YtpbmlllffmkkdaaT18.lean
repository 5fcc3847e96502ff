/-
  Layer 6: the law IvalsNumbers.
-/
import Derived.Test.YtpbmlllffmkkdaaT1
import Derived.Test.YtpbmlllffmkkdaaT2
import Derived.Test.YtpbmlllffmkkdaaT3
import Derived.Test.YtpbmlllffmkkdaaT4
import Derived.Test.YtpbmlllffmkkdaaT5
import Derived.Test.YtpbmlllffmkkdaaT6
import Derived.Test.YtpbmlllffmkkdaaT7
import Derived.Test.YtpbmlllffmkkdaaT8
import Derived.Test.YtpbmlllffmkkdaaT9
import Derived.Test.YtpbmlllffmkkdaaT10
import Derived.Test.YtpbmlllffmkkdaaT11
import Derived.Test.YtpbmlllffmkkdaaT12
import Derived.Test.YtpbmlllffmkkdaaT13
import Derived.Test.YtpbmlllffmkkdaaT14
import Derived.Test.YtpbmlllffmkkdaaT15
import Derived.Test.YtpbmlllffmkkdaaT16
import Derived.Test.YtpbmlllffmkkdaaT17
namespace Go.Proofs.Ytpbmlllffmkkdaa
open Go.RowKit
set_option linter.unusedSimpArgs false
set_option linter.unusedVariables false


def ar (A : List Bool) : D := .sl 1 (A.map fun b => .v (.bool b))
theorem ar_zero (n : Nat) : zrow n (.bool false) = ar (List.replicate n false) := by simp [zrow, ar]
theorem ar_get {A : List Bool} {k : Nat} (h : k < A.length) : (ar A).at_ (.v (.int .i64 (k : Nat))) = .v (.bool (A.getD k false)) := by
  simp [ar, D.at_, List.getD, h]
theorem ar_inb {A : List Bool} {k : Nat} (h : k < A.length) : D.inb 1 (ar A) (.v (.int .i64 (k : Nat))) := ⟨_, _, _, rfl, rfl, by omega, by simp; omega⟩
theorem ar_set {A : List Bool} {k : Nat} (h : k < A.length) (b : Bool) : (ar A).setAt (.v (.int .i64 (k : Nat))) 0 [.v (.bool b)] = ar (A.set k b) := by
  simp [ar, D.setAt, D.splice, List.getD, h, List.map_set]
theorem set_get {A : List Bool} {k : Nat} (h : k < A.length) (b : Bool) (n : Nat) : (A.set k b).getD n false = if n = k then b else A.getD n false := by
  by_cases e : n = k
  · subst e; simp [List.getD, h]
  · rw [if_neg e]; simp [List.getD, List.getElem?_set, Ne.symm e]
theorem apt_short : ∀ {l : List Z} {a N : Int}, Apt l → (∀ z ∈ l, a ≤ z.1 ∧ z.2 ≤ N) → a ≤ N + 1 → 2 * (l.length : Int) ≤ N - a + 1
  | [], a, N, _, _, h => by simp; omega
  | z :: l, a, N, h, hb, hN => by
    obtain ⟨h1, h2, h3⟩ := apt_cons.1 h
    have hz := hb z (by simp)
    have := apt_short (a := z.2 + 1) (N := N) h3 (fun y hy => ⟨by have := h2 y hy; omega, (hb y (by simp [hy])).2⟩) (by omega)
    simp only [List.length_cons]; omega
def In5 (S : List Z) : Prop := Good S ∧ ∀ n, hasF S n = true → n < 511
theorem in5_mem {S : List Z} (h : In5 S) {z : Z} (hz : z ∈ S) : 0 ≤ z.1 ∧ z.1 < z.2 ∧ z.2 ≤ 511 := by
  have h1 := good_mem h.1 hz
  have h3 := h.2 (z.2 - 1) (has_iff.2 ⟨z, hz, by omega, by omega⟩)
  omega
theorem in5_len {S : List Z} (h : In5 S) : S.length ≤ 256 := by
  have := apt_short (a := 0) (N := 511) h.1.1 (fun z hz => by have := in5_mem h hz; omega) (by omega)
  omega
theorem in5_nil : In5 [] := ⟨good_nil, fun n h => by rw [has_nil] at h; cases h⟩
section
variable {S T U G : List Z} {c : Bool} {z : Z} {u w : Nat}
theorem addI (hc : c = false) (h : ∀ n, hasF T n = (hasF S n || inI n z)) : ∀ n, hasF T n = if inI n z = true then !c else hasF S n := fun n => by
  subst hc; rw [h]; cases inI n z <;> simp
theorem cutI (hc : c = true) (h : ∀ n, hasF T n = (hasF S n && !inI n z)) : ∀ n, hasF T n = if inI n z = true then !c else hasF S n := fun n => by
  subst hc; rw [h]; cases inI n z <;> simp
theorem in5_add (hS : In5 S) (hT : Good T) (hz : z.2 ≤ 511) (h : ∀ n, hasF T n = (hasF S n || inI n z)) : In5 T := ⟨hT, fun n hn => by
  rw [h, Bool.or_eq_true] at hn
  rcases hn with hn | hn
  · exact hS.2 n hn
  · have := in_iff.1 hn; omega⟩
theorem in5_cut (hS : In5 S) (hT : Good T) (h : ∀ n, hasF T n = (hasF S n && !inI n z)) : In5 T := ⟨hT, fun n hn => by
  rw [h, Bool.and_eq_true] at hn; exact hS.2 n hn.1⟩
variable {A B : List Bool}
def AsSet (A : List Bool) (S : List Z) : Prop := A.length = 512 ∧ ∀ n : Nat, n < 512 → A.getD n false = hasF S n
def AsPart (A B : List Bool) (c : Bool) (u k : Nat) : Prop := B.length = 512 ∧ ∀ n : Nat, n < 512 → B.getD n false = if u ≤ n ∧ n < k then !c else A.getD n false
theorem told_nil : AsSet (List.replicate 512 false) [] := ⟨List.length_replicate, fun n hn => by rw [has_nil, List.getD_eq_getElem?_getD, List.getElem?_replicate]; split <;> rfl⟩
theorem start5 : [D.v (.int .i64 0), D.v nilS, zrow 512 (.bool false)] = [D.v (.int .i64 ((0 : Nat) : Int)), D.v nilS, ar (List.replicate 512 false)] := by rw [ar_zero]; rfl
theorem part_nil (h : A.length = 512) : AsPart A A c u u := ⟨h, fun n hn => by rw [if_neg (by omega)]⟩
theorem part_next {k : Nat} (h : AsPart A B c u k) (hu : u ≤ k) (hk : k < 512) : AsPart A (B.set k (!c)) c u (k + 1) := ⟨by rw [List.length_set]; exact h.1, fun n hn => by
  rw [set_get (by rw [h.1]; exact hk), h.2 n hn]
  by_cases e : n = k
  · subst e; rw [if_pos rfl, if_pos (by omega)]
  · rw [if_neg e]
    by_cases e2 : u ≤ n ∧ n < k
    · rw [if_pos e2, if_pos (by omega)]
    · rw [if_neg e2, if_neg (by omega)]⟩
theorem part_end (h : AsPart A B c u (u + w)) (hA : AsSet A S) (hT : ∀ n, hasF T n = if inI n ((u : Int), (u : Int) + (w : Int)) = true then !c else hasF S n) : AsSet B T := ⟨h.1, fun n hn => by
  rw [h.2 n hn, hT, hA.2 n hn]
  by_cases e : u ≤ n ∧ n < u + w
  · rw [if_pos e, if_pos (in_iff.2 (by simp only; omega))]
  · rw [if_neg e, if_neg (fun hh => e (by have := in_iff.1 hh; simp only at this; omega))]⟩
theorem goodGap {x : D} (hX : IsL 2 (S.map iv) x) (hg : Good S) (hm : S.length ≤ 1000) : ∃ d T, PureD Try.prog 15 [x, V2 0 512] [d] ∧ IsL 2 (T.map iv) d ∧ Good T ∧ (∀ n, hasF T n = (inI n (0, 512) && !hasF S n)) ∧ T.length ≤ 256 := by
  have hr : rgd (0, 512) = true := rgd_in (by omega) (by omega) (by omega)
  obtain ⟨h1, h2⟩ := gapF_is (0, 512) hg.1
  have hb : ∀ n, hasF (gapF S (0, 512)) n = true → 0 ≤ n ∧ n < 512 := fun n hn => by rw [h2, Bool.and_eq_true] at hn; have := in_iff.1 hn.1; exact this
  have hgd : Good (gapF S (0, 512)) := ⟨h1, fun n hn => by have := hb n hn; omega⟩
  refine ⟨_, gapF S (0, 512), gap1 x S 0 512 hX (by omega) hr (good_chk hg), isL_ofL _ _, hgd, h2, ?_⟩
  have := apt_short (a := 0) (N := 512) h1 (fun z hz => by
    have h3 := good_mem hgd hz
    have h4 := hb (z.2 - 1) (has_iff.2 ⟨z, hz, by omega, by omega⟩)
    omega) (by omega)
  omega
theorem gap_at {k : Nat} (hk : k < 512) (h : ∀ n, hasF G n = (inI n (0, 512) && !hasF S n)) : hasF G (k : Nat) = !hasF S (k : Nat) := by
  rw [h, in_iff.2 (by simp only; omega), Bool.true_and]
end
theorem sum_cntN {N : Nat} : ∀ {zs : List Z}, Apt zs → (∀ z ∈ zs, 0 ≤ z.1 ∧ z.2 ≤ (N : Int)) → sumF zs = cntR (hasF zs) N
  | [], _, _ => (cnt_no (fun n => has_nil n) _).symm
  | z :: l, h, hb => by
    obtain ⟨h1, h2, h3⟩ := apt_cons.1 h
    have ih := sum_cntN h3 fun y hy => hb y (by simp [hy])
    have hz := hb z (by simp)
    have e : cntR (hasF (z :: l)) N = cntR (fun n => inI n z || hasF l n) N := cnt_ext (fun n => has_cons z l n) _
    rw [e, cnt_or (fun n hn => has_no fun y hy => by have := h2 y hy; have := in_iff.1 hn; omega), cnt_in hz.1 (by omega), ← ih]
    show l.foldl _ (0 + (z.2 - z.1)) = _
    rw [sum_from]
    omega
theorem count5 {S : List Z} (h : In5 S) : countF S = cntR (hasF S) 512 := by
  unfold countF
  rw [if_pos (good_chk h.1)]
  exact sum_cntN h.1.1 fun z hz => by have := in5_mem h hz; omega
def fstR (g : Int → Bool) : Nat → Int
  | 0 => -1
  | k + 1 => if g k = true then fstR g k else if fstR g k < 0 then (k : Nat) else fstR g k
theorem fst_bd (g : Int → Bool) : ∀ k : Nat, -1 ≤ fstR g k ∧ fstR g k ≤ k
  | 0 => ⟨Int.le_refl _, by simp [fstR]⟩
  | k + 1 => by have := fst_bd g k; simp only [fstR]; (repeat' split) <;> omega
theorem fst_is {g : Int → Bool} {m : Nat} (h1 : ∀ n : Nat, n < m → g n = true) (h2 : g m = false) : ∀ k : Nat, fstR g k = if m < k then (m : Int) else -1
  | 0 => by simp [fstR]
  | k + 1 => by
    have ih := fst_is h1 h2 k
    simp only [fstR, ih]
    by_cases a : m < k
    · rw [if_pos a, if_pos (show m < k + 1 by omega)]
      split
      · rfl
      · rw [if_neg (by omega)]
    · rw [if_neg a]
      by_cases b : m = k
      · subst b; rw [h2, if_pos (show m < m + 1 by omega)]; rfl
      · rw [h1 k (by omega), if_neg (show ¬ m < k + 1 by omega)]; rfl
theorem first5 {S : List Z} (h : In5 S) : firstF S 0 = fstR (hasF S) 512 := by
  have hm : ∃ m : Nat, firstF S 0 = (m : Int) ∧ m < 512 ∧ (∀ n : Nat, n < m → hasF S n = true) ∧ hasF S (m : Nat) = false := by
    unfold firstF
    rw [show max (0 : Int) 0 = 0 from rfl]
    by_cases hz : ∃ z, z ∈ S ∧ inI 0 z = true
    · obtain ⟨z, hz, hin⟩ := hz
      have hb := in5_mem h hz
      have hi := in_iff.1 hin
      rw [fold_in h.1.1 hz hin]
      obtain ⟨m, hm⟩ := Int.eq_ofNat_of_zero_le (show 0 ≤ z.2 by omega)
      refine ⟨m, hm, by omega, fun n hn => has_iff.2 ⟨z, hz, by omega, by omega⟩, has_no fun y hy => ?_⟩
      rcases pw_tri h.1.1.1 hz hy with rfl | hr | hr
      · exact .inr (by omega)
      · exact .inl (by omega)
      · exact .inr (by omega)
    · have hn : ∀ z ∈ S, inI 0 z = false := fun z hm => by
        cases hb : inI 0 z
        · rfl
        · exact absurd ⟨z, hm, hb⟩ hz
      rw [fold_none hn]
      refine ⟨0, rfl, by omega, fun n hn => by omega, ?_⟩
      have : hasF S ((0 : Nat) : Int) = S.any (inI 0) := rfl
      rw [this, List.any_eq_false]
      exact fun z hz => by rw [hn z hz]; simp
  obtain ⟨m, e, h1, h2, h3⟩ := hm
  rw [e, fst_is h2 h3, if_pos h1]
theorem meet_none {S G M : List Z} (hM : Good M) (hG : ∀ n, hasF G n = (inI n (0, 512) && !hasF S n)) (h : ∀ n, hasF M n = (hasF S n && hasF G n)) : M = [] :=
  apt_uniq hM.1 apt_nil fun n => by rw [h, hG, has_nil]; cases hasF S n <;> cases inI n (0, 512) <;> rfl
set_option maxRecDepth 20000

theorem vc_numbers (x : D) (l : List (Bool × Int × Int)) : Cond Try.prog (fun k => if k = 6 then some ⟨[5], [3, 4], [0], []⟩ else if k = 13 then some ⟨[7], [4], [0, 3, 5, 6], []⟩ else if k = 19 then some ⟨[11, 9, 10], [], [3, 4, 8], []⟩ else if k = 1009 then some ⟨[], [3], [0, 4, 5, 6], []⟩ else none) Try.f5 [x] [.v (.bool true)] = ((NotAgg x ∧ True) ∧ ∃ (r : D), D.lenT (TypeDesc.slice 53) x = some r ∧ ∃ (r_1 : D), D.bin BinOp.gtr r (D.v (Value.int IntKind.i64 40)) = some r_1 ∧ ∃ (b : Bool), r_1 = D.v (Value.bool b) ∧ (b = true → ∃ (r : D), PureD Try.prog 7 [] [r] ∧ fits [(false, [none])] [r] ∧ ((∃ (y : Value), r = D.v y) ∧ True) ∧ [r] = [D.v (Value.bool true)]) ∧ (b = false → ∃ (I : List D → Prop), ∃ (μ : List D → Nat), ((D.v (Value.int IntKind.i64 0) = D.v (Value.int IntKind.i64 0) ∧ true = true ∧ (true = true ∧ D.v (Value.int IntKind.i64 (Int.ofNat 0)) = D.v (Value.int IntKind.i64 (Int.ofNat 0)) ∧ true = true ∧ true = true) ∧ x = x ∧ True) ∧ ((true = true ∧ D.v nilS = D.v nilS) ∧ (true = true ∧ zrow 512 (Value.bool false) = zrow 512 (Value.bool false)) ∧ True) ∧ I [D.v (Value.int IntKind.i64 0), D.v nilS, zrow 512 (Value.bool false)]) ∧ ∀ (r r_2 r_3 : D), I [r, r_2, r_3] → ∃ (r_4 : D), D.lenT (TypeDesc.slice 53) x = some r_4 ∧ ∃ (r_5 : D), D.bin BinOp.lss r r_4 = some r_5 ∧ ∃ (b : Bool), r_5 = D.v (Value.bool b) ∧ (b = true → D.inb 3 x r ∧ 0 + 1 + 1 ≤ (x.at_ r).cells.length ∧ ∃ (r_6 : D), D.conv IntKind.i64 ((x.at_ r).cell (0 + 1)) = some r_6 ∧ D.inb 3 x r ∧ 0 + 1 + 1 ≤ (x.at_ r).cells.length ∧ ∃ (r_7 : D), D.conv IntKind.i64 ((x.at_ r).cell (0 + 1)) = some r_7 ∧ D.inb 3 x r ∧ 1 + 1 + 1 ≤ (x.at_ r).cells.length ∧ ∃ (r_8 : D), D.conv IntKind.i64 ((x.at_ r).cell (1 + 1)) = some r_8 ∧ ∃ (r_9 : D), D.bin BinOp.add r_7 r_8 = some r_9 ∧ ∃ (I_1 : List D → Prop), (D.inb 3 x r ∧ 0 + 1 ≤ (x.at_ r).cells.length ∧ ∃ (b : Bool), (x.at_ r).cell 0 = D.v (Value.bool b) ∧ (b = true → ∃ (r_10 : D), PureD Try.prog 13 [r_2, D.agg [r_6, r_9]] [r_10] ∧ fits [(false, [some 2])] [r_10] ∧ (true = true ∧ x = x ∧ (true = true ∧ D.v (Value.int IntKind.i64 (Int.ofNat 0)) = D.v (Value.int IntKind.i64 (Int.ofNat 0)) ∧ true = true ∧ true = true) ∧ r = r ∧ (true = true ∧ true = true) ∧ True) ∧ ((true = true ∧ r_10 = r_10) ∧ (true = true ∧ r_3 = r_3) ∧ (r_6 = r_6 ∧ r_9 = r_9 ∧ True) ∧ True) ∧ I_1 [r_10]) ∧ (b = false → ∃ (r_10 : D), PureD Try.prog 11 [r_2, D.agg [r_6, r_9]] [r_10] ∧ fits [(false, [some 2])] [r_10] ∧ (true = true ∧ x = x ∧ (true = true ∧ D.v (Value.int IntKind.i64 (Int.ofNat 0)) = D.v (Value.int IntKind.i64 (Int.ofNat 0)) ∧ true = true ∧ true = true) ∧ r = r ∧ (true = true ∧ true = true) ∧ True) ∧ ((true = true ∧ r_10 = r_10) ∧ (true = true ∧ r_3 = r_3) ∧ (r_6 = r_6 ∧ r_9 = r_9 ∧ True) ∧ True) ∧ I_1 [r_10])) ∧ ∀ (r_10 : D), I_1 [r_10] → ∃ (I_2 : List D → Prop), ∃ (μ_1 : List D → Nat), ((r_6 = r_6 ∧ (true = true ∧ D.v (Value.int IntKind.i64 (Int.ofNat 0)) = D.v (Value.int IntKind.i64 (Int.ofNat 0)) ∧ true = true ∧ true = true) ∧ x = x ∧ true = true ∧ r = r ∧ (true = true ∧ true = true) ∧ True) ∧ ((true = true ∧ r_3 = r_3) ∧ (true = true ∧ r_10 = r_10) ∧ (r_6 = r_6 ∧ r_9 = r_9 ∧ True) ∧ True) ∧ I_2 [r_6, r_3]) ∧ ∀ (r_11 r_12 : D), I_2 [r_11, r_12] → ∃ (r_13 : D), D.bin BinOp.lss r_11 r_9 = some r_13 ∧ ∃ (b : Bool), r_13 = D.v (Value.bool b) ∧ (b = true → D.inb 3 x r ∧ 0 + 1 ≤ (x.at_ r).cells.length ∧ ∃ (r_14 : D), D.un UnOp.not ((x.at_ r).cell 0) = some r_14 ∧ (∃ (z : Int), r_11.intOf = some z ∧ 0 ≤ z ∧ z < 512) ∧ D.inb 1 r_12 r_11 ∧ 0 + [r_14].length ≤ (r_12.at_ r_11).cells.length ∧ ((r_12.at_ r_11).isAgg' = true ∨ [r_14].length = 1) ∧ ∃ (r_15 : D), D.bin BinOp.add r_11 (D.v (Value.int IntKind.i64 1)) = some r_15 ∧ (r_15 = r_15 ∧ (true = true ∧ D.v (Value.int IntKind.i64 (Int.ofNat 0)) = D.v (Value.int IntKind.i64 (Int.ofNat 0)) ∧ true = true ∧ true = true) ∧ x = x ∧ true = true ∧ r = r ∧ (true = true ∧ true = true) ∧ True) ∧ ((true = true ∧ r_12.setAt r_11 0 [r_14] = r_12.setAt r_11 0 [r_14]) ∧ (true = true ∧ r_10 = r_10) ∧ (r_6 = r_6 ∧ r_9 = r_9 ∧ True) ∧ True) ∧ I_2 [r_15, r_12.setAt r_11 0 [r_14]] ∧ μ_1 [r_15, r_12.setAt r_11 0 [r_14]] < μ_1 [r_11, r_12]) ∧ (b = false → ∃ (r_14 : D), D.bin BinOp.add r (D.v (Value.int IntKind.i64 1)) = some r_14 ∧ (r_14 = r_14 ∧ true = true ∧ (true = true ∧ D.v (Value.int IntKind.i64 (Int.ofNat 0)) = D.v (Value.int IntKind.i64 (Int.ofNat 0)) ∧ true = true ∧ true = true) ∧ x = x ∧ True) ∧ ((true = true ∧ r_10 = r_10) ∧ (true = true ∧ r_12 = r_12) ∧ True) ∧ I [r_14, r_10, r_12] ∧ μ [r_14, r_10, r_12] < μ [r, r_2, r_3])) ∧ (b = false → ∃ (r : D), PureD Try.prog 15 [r_2, D.agg [D.v (Value.int IntKind.i64 0), D.v (Value.int IntKind.i64 512)]] [r] ∧ fits [(false, [some 2])] [r] ∧ ∃ (I : List D → Prop), ∃ (μ : List D → Nat), ((D.v (Value.int IntKind.i64 0) = D.v (Value.int IntKind.i64 0) ∧ D.v (Value.int IntKind.i64 0) = D.v (Value.int IntKind.i64 0) ∧ D.v (Value.int IntKind.i64 (-1)) = D.v (Value.int IntKind.i64 (-1)) ∧ true = true ∧ (true = true ∧ D.v (Value.int IntKind.i64 (Int.ofNat 0)) = D.v (Value.int IntKind.i64 (Int.ofNat 0)) ∧ true = true ∧ true = true) ∧ true = true ∧ True) ∧ ((true = true ∧ r_2 = r_2) ∧ (true = true ∧ r_3 = r_3) ∧ (true = true ∧ r = r) ∧ True) ∧ I [D.v (Value.int IntKind.i64 0), D.v (Value.int IntKind.i64 0), D.v (Value.int IntKind.i64 (-1))]) ∧ ∀ (r_6 r_7 r_8 : D), I [r_6, r_7, r_8] → ∃ (r_9 : D), D.bin BinOp.lss r_6 (D.v (Value.int IntKind.i64 512)) = some r_9 ∧ ∃ (b : Bool), r_9 = D.v (Value.bool b) ∧ (b = true → ∃ (r_10 : D), PureD Try.prog 24 [r_2, r_6] [r_10] ∧ fits [(false, [none])] [r_10] ∧ (∃ (z : Int), r_6.intOf = some z ∧ 0 ≤ z ∧ z < 512) ∧ D.inb 1 r_3 r_6 ∧ 0 + 1 ≤ (r_3.at_ r_6).cells.length ∧ ∃ (r_11 : D), r_10.bne ((r_3.at_ r_6).cell 0) = some r_11 ∧ ∃ (b : Bool), r_11 = D.v (Value.bool b) ∧ (b = false → ∃ (r_12 : D), PureD Try.prog 24 [r, r_6] [r_12] ∧ fits [(false, [none])] [r_12] ∧ (∃ (z : Int), r_6.intOf = some z ∧ 0 ≤ z ∧ z < 512) ∧ D.inb 1 r_3 r_6 ∧ 0 + 1 ≤ (r_3.at_ r_6).cells.length ∧ ∃ (r_13 : D), r_12.beq ((r_3.at_ r_6).cell 0) = some r_13 ∧ ∃ (b : Bool), r_13 = D.v (Value.bool b) ∧ (b = true → (True ∧ True) ∧ [D.v (Value.bool false)] = [D.v (Value.bool true)]) ∧ (b = false → (∃ (z : Int), r_6.intOf = some z ∧ 0 ≤ z ∧ z < 512) ∧ D.inb 1 r_3 r_6 ∧ 0 + 1 ≤ (r_3.at_ r_6).cells.length ∧ ∃ (b : Bool), (r_3.at_ r_6).cell 0 = D.v (Value.bool b) ∧ (b = true → ∃ (r_14 : D), D.bin BinOp.add r_7 (D.v (Value.int IntKind.i64 1)) = some r_14 ∧ ∃ (r_15 : D), D.bin BinOp.add r_6 (D.v (Value.int IntKind.i64 1)) = some r_15 ∧ (r_15 = r_15 ∧ r_14 = r_14 ∧ r_8 = r_8 ∧ true = true ∧ (true = true ∧ D.v (Value.int IntKind.i64 (Int.ofNat 0)) = D.v (Value.int IntKind.i64 (Int.ofNat 0)) ∧ true = true ∧ true = true) ∧ true = true ∧ True) ∧ ((true = true ∧ r_2 = r_2) ∧ (true = true ∧ r_3 = r_3) ∧ (true = true ∧ r = r) ∧ True) ∧ I [r_15, r_14, r_8] ∧ μ [r_15, r_14, r_8] < μ [r_6, r_7, r_8]) ∧ (b = false → ∃ (r_14 : D), D.bin BinOp.lss r_8 (D.v (Value.int IntKind.i64 0)) = some r_14 ∧ ∃ (b : Bool), r_14 = D.v (Value.bool b) ∧ (b = true → ∃ (r_15 : D), D.bin BinOp.add r_6 (D.v (Value.int IntKind.i64 1)) = some r_15 ∧ (r_15 = r_15 ∧ r_7 = r_7 ∧ r_6 = r_6 ∧ true = true ∧ (true = true ∧ D.v (Value.int IntKind.i64 (Int.ofNat 0)) = D.v (Value.int IntKind.i64 (Int.ofNat 0)) ∧ true = true ∧ true = true) ∧ true = true ∧ True) ∧ ((true = true ∧ r_2 = r_2) ∧ (true = true ∧ r_3 = r_3) ∧ (true = true ∧ r = r) ∧ True) ∧ I [r_15, r_7, r_6] ∧ μ [r_15, r_7, r_6] < μ [r_6, r_7, r_8]) ∧ (b = false → ∃ (r_15 : D), D.bin BinOp.add r_6 (D.v (Value.int IntKind.i64 1)) = some r_15 ∧ (r_15 = r_15 ∧ r_7 = r_7 ∧ r_8 = r_8 ∧ true = true ∧ (true = true ∧ D.v (Value.int IntKind.i64 (Int.ofNat 0)) = D.v (Value.int IntKind.i64 (Int.ofNat 0)) ∧ true = true ∧ true = true) ∧ true = true ∧ True) ∧ ((true = true ∧ r_2 = r_2) ∧ (true = true ∧ r_3 = r_3) ∧ (true = true ∧ r = r) ∧ True) ∧ I [r_15, r_7, r_8] ∧ μ [r_15, r_7, r_8] < μ [r_6, r_7, r_8])))) ∧ (b = true → (True ∧ True) ∧ [D.v (Value.bool false)] = [D.v (Value.bool true)])) ∧ (b = false → ∃ (r_10 : D), PureD Try.prog 19 [r_2] [r_10] ∧ fits [(false, [none])] [r_10] ∧ ∃ (r_11 : D), D.bin BinOp.eql r_10 (D.v (Value.int IntKind.i64 0)) = some r_11 ∧ ∃ (b : Bool), r_11 = D.v (Value.bool b) ∧ (b = true → ∃ (r_12 : D), PureD Try.prog 19 [r] [r_12] ∧ fits [(false, [none])] [r_12] ∧ ∃ (r_13 : D), D.bin BinOp.eql r_12 (D.v (Value.int IntKind.i64 0)) = some r_13 ∧ ∃ (b : Bool), r_13 = D.v (Value.bool b) ∧ (b = true → ∃ (r_14 : D), PureD Try.prog 21 [r_2] [r_14] ∧ fits [(false, [none])] [r_14] ∧ ∃ (r_15 : D), D.bin BinOp.eql r_14 r_7 = some r_15 ∧ ∃ (b : Bool), r_15 = D.v (Value.bool b) ∧ (b = true → ∃ (r_16 : D), PureD Try.prog 28 [r_2, D.v (Value.int IntKind.i64 0)] [r_16] ∧ fits [(false, [none])] [r_16] ∧ ∃ (r_17 : D), D.bin BinOp.eql r_16 r_8 = some r_17 ∧ ∃ (b : Bool), r_17 = D.v (Value.bool b) ∧ (b = true → ∃ (r_18 : D), PureD Try.prog 17 [r_2, r] [r_18] ∧ fits [(false, [some 2])] [r_18] ∧ ∃ (r : D), D.lenT (TypeDesc.slice 29) r_18 = some r ∧ ∃ (r_19 : D), D.bin BinOp.eql r (D.v (Value.int IntKind.i64 0)) = some r_19 ∧ ∃ (b : Bool), r_19 = D.v (Value.bool b) ∧ (b = true → ∃ (r : D), PureD Try.prog 7 [] [r] ∧ fits [(false, [none])] [r] ∧ ((∃ (y : Value), r = D.v y) ∧ True) ∧ [r] = [D.v (Value.bool true)]) ∧ (b = false → (True ∧ True) ∧ [D.v (Value.bool false)] = [D.v (Value.bool true)])) ∧ (b = false → (True ∧ True) ∧ [D.v (Value.bool false)] = [D.v (Value.bool true)])) ∧ (b = false → (True ∧ True) ∧ [D.v (Value.bool false)] = [D.v (Value.bool true)])) ∧ (b = false → (True ∧ True) ∧ [D.v (Value.bool false)] = [D.v (Value.bool true)])) ∧ (b = false → (True ∧ True) ∧ [D.v (Value.bool false)] = [D.v (Value.bool true)]))))) := by kernel_rfl
set_option maxHeartbeats 16000000 in
theorem numbers (x : D) (l : List (Bool × Int × Int)) (hL : IsL 3 (l.map ov) x) (hLA : ∀ z ∈ l, InU z) : PureD Try.prog 5 [x] [.v (.bool true)] := by
  refine pure_cond (Lp := (fun k => if k = 6 then some ⟨[5], [3, 4], [0], []⟩ else if k = 13 then some ⟨[7], [4], [0, 3, 5, 6], []⟩ else if k = 19 then some ⟨[11, 9, 10], [], [3, 4, 8], []⟩ else if k = 1009 then some ⟨[], [3], [0, 4, 5, 6], []⟩ else none)) (by kernel_rfl) Try.func5 (by kernel_rfl) (by kernel_rfl) ?_
  rw [vc_numbers x l]
  simp only [hL.lenT, List.length_map, Option.some.injEq, exists_eq_left']
  have h1 : True := trivial
  have h2 : True := trivial
  have hLM : True := trivial
  by_cases hl : l.length ≤ 40
  · have hm : True := trivial
    repeat' (first
      | (refine ex_some (by simp (disch := omega) only [bin_shr, bin_shl, bin_and, bin_or, bin_xor, len_str, toStr_ofL, bin_add, bin_sub, bin_mul, bin_quo, bin_rem, bin_lss, bin_leq, bin_gtr, bin_geq, bin_eql, bin_neq, eqs_cn, eqs_ci, eqs_cb, eqs_cs, Option.map_some, lenT_ofL, lst_ofL, lstSz_ofL, chunk_one, lst_nil, lst_sl, lstSz_sl, lstSz_nil, Bool.and_true, Bool.true_and, Bool.and_false, Bool.false_and, beq_self_eq_true, beq_bb, bne_bb, un_not, un_neg, conv_int, min2_int, max2_int, w64, w32, wu8, wu16, wu32, wu64, tdiv_nn, tmod_nn, cell_zero, cell_succ, cell_v, cells_v, cells_agg, Bool.not_true, Bool.not_false, Int.reduceLT, Int.reduceLE, Int.reduceEq, Int.reduceNeg, Int.reduceAdd, Int.reduceSub, Int.reduceMul, intOf_v, decide_true, decide_false, h1, h2, hLM, hL.lenT, List.length_map, Nat.zero_add, Bool.not_eq_eq_eq_not]; rfl) ?_)
      | (refine ex_bool ?_)
      | (refine ⟨_, awake, ?_⟩)
      | (exact i1)
      | (exact i2)
      | (refine ⟨_, at_cell h2, ?_⟩)
      | (refine ⟨_, P1, ?_⟩)
      | (refine ⟨_, P2, ?_⟩)
      | (refine ⟨_, PG, ?_⟩)
      | (refine ⟨_, C1, ?_⟩)
      | (refine ⟨_, C2, ?_⟩)
      | (refine ⟨_, K1, ?_⟩)
      | (refine ⟨_, K2, ?_⟩)
      | (refine ⟨_, N1, ?_⟩)
      | (refine ⟨_, F1, ?_⟩)
      | (refine ⟨_, PM, ?_⟩)
      | (have := out1; refine ⟨(fun r => ∃ k : Nat, k ≤ 512 ∧ r = [.v (.int .i64 (k : Nat)), .v (.int .i64 (cntR (hasF S) k)), .v (.int .i64 (fstR (hasF S) k))]), leftG 512, ?_⟩)
      | (have := out1; refine fun (r8 r9 r10 : D) (hI : (fun r => ∃ k : Nat, k ≤ 512 ∧ r = [.v (.int .i64 (k : Nat)), .v (.int .i64 (cntR (hasF S) k)), .v (.int .i64 (fstR (hasF S) k))]) [r8, r9, r10]) => ?_; obtain ⟨k, hk, hl0⟩ := hI; simp only [List.cons.injEq, and_true] at hl0; obtain ⟨rfl, rfl, rfl⟩ := hl0; by_cases hlt : k < 512 <;> first | (have h2 := ar_get (A := A) (k := k) (by omega); have i2 := ar_inb (A := A) (k := k) (by omega); rw [hA.2 k hlt] at h2; have C1 := has _ S (k : Nat) hd (by omega); have C2 := has _ G (k : Nat) hdG (by omega); rw [gap_at hlt mG] at C2; have cb := cnt_bd (hasF S) k; have fb := fst_bd (hasF S) k; have ct : hasF S (k : Nat) = true → cntR (hasF S) (k + 1) = cntR (hasF S) k + 1 := fun h => (by simp only [cntR]; rw [if_pos h]); have c0 : hasF S (k : Nat) = false → cntR (hasF S) (k + 1) = cntR (hasF S) k := fun h => (by simp only [cntR]; rw [h]; simp); have ft : hasF S (k : Nat) = true → fstR (hasF S) (k + 1) = fstR (hasF S) k := fun h => (by simp only [fstR]; rw [if_pos h]); have f1 : hasF S (k : Nat) = false → fstR (hasF S) k < 0 → fstR (hasF S) (k + 1) = (k : Nat) := fun h h2 => (by simp only [fstR]; rw [h, if_pos h2]; rfl); have f0 : hasF S (k : Nat) = false → 0 ≤ fstR (hasF S) k → fstR (hasF S) (k + 1) = fstR (hasF S) k := fun h h2 => (by simp only [fstR]; rw [h, if_neg (Int.not_lt.2 h2)]; rfl); generalize hasF S (k : Nat) = hh at h2 C1 C2 ct c0 ft f1 f0; generalize cntR (hasF S) k = p at cb ct c0; generalize fstR (hasF S) k = q at fb ft f1 f0; have inl4 : True := trivial; cases hh) | (have hkk : k = 512 := (by omega); subst hkk; have K1 := check _ S hd (by omega); rw [good_chk hg.1] at K1; have K2 := check _ G hdG (by omega); rw [good_chk gG] at K2; have N1 := count _ S hd (by omega); rw [count5 hg] at N1; have F1 := first _ S 0 hd (by omega); rw [first5 hg] at F1; obtain ⟨dM, M, PM, hdM, gM, -, mM⟩ := goodMeet hd hg.1 (by omega) hdG gG (by omega); have eM := meet_none gM mG mM; subst eM; have hLM := fun e => hdM.lenT e; simp only [List.map_nil, List.length_nil] at hLM; have h2 : True := trivial; have out4 : True := trivial))
      | (have := m7; refine ⟨(fun r => ∃ (k : Nat) (B : List Bool), u ≤ k ∧ k ≤ u + w ∧ AsPart A B c u k ∧ r = [.v (.int .i64 (k : Nat)), ar B]), leftG (u + w), ?_⟩)
      | (have := m7; refine fun (r6 r7 : D) (hI : (fun r => ∃ (k : Nat) (B : List Bool), u ≤ k ∧ k ≤ u + w ∧ AsPart A B c u k ∧ r = [.v (.int .i64 (k : Nat)), ar B]) [r6, r7]) => ?_; obtain ⟨k, B, hku, hkw, hp, hl0⟩ := hI; simp only [List.cons.injEq, and_true] at hl0; obtain ⟨rfl, rfl⟩ := hl0; by_cases hlt : k < u + w <;> first | (have hgo : k < u + w := (by omega); have hBl := hp.1; have hkb : k < 512 := (by omega); have h2 := ar_get (A := B) (k := k) (by omega); have i2 := ar_inb (A := B) (k := k) (by omega); have hse := ar_set (A := B) (k := k) (by omega) (!c); have hpn := part_next hp hku hkb; generalize B.getD k false = old at h2; have inl3 : True := trivial) | (have hkk : k = u + w := (by omega); subst hkk; have hB2 := part_end hp hA m2; have out3 : True := trivial))
      | (have := inl1; refine ⟨(fun r => ∃ (T : List Z) (d : D), In5 T ∧ (∀ n, hasF T n = if inI n ((u : Int), (u : Int) + (w : Int)) = true then !c else hasF S n) ∧ IsL 2 (T.map iv) d ∧ r = [d]), ?_⟩)
      | (have := inl1; refine fun (r5 : D) (hI : (fun r => ∃ (T : List Z) (d : D), In5 T ∧ (∀ n, hasF T n = if inI n ((u : Int), (u : Int) + (w : Int)) = true then !c else hasF S n) ∧ IsL 2 (T.map iv) d ∧ r = [d]) [r5]) => ?_; obtain ⟨T2, d2, g2, m2, hd2, hl0⟩ := hI; simp only [List.cons.injEq, and_true] at hl0; subst hl0; have m7 : True := trivial)
      | (refine ⟨(fun r => ∃ (i : Nat) (S : List Z) (d : D) (A : List Bool), i ≤ l.length ∧ In5 S ∧ IsL 2 (S.map iv) d ∧ AsSet A S ∧ r = [.v (.int .i64 (i : Nat)), d, ar A]), leftG l.length, ?_⟩)
      | (refine fun (r2 r3 r4 : D) (hI : (fun r => ∃ (i : Nat) (S : List Z) (d : D) (A : List Bool), i ≤ l.length ∧ In5 S ∧ IsL 2 (S.map iv) d ∧ AsSet A S ∧ r = [.v (.int .i64 (i : Nat)), d, ar A]) [r2, r3, r4]) => ?_; obtain ⟨i, S, d, A, hi, hg, hd, hA, hl0⟩ := hI; simp only [List.cons.injEq, and_true] at hl0; obtain ⟨rfl, rfl, rfl⟩ := hl0; by_cases hlt : i < l.length <;> first | (have hk1 : i < l.length := (by omega); have h1 := ov_get hL hk1; have i1 := ov_inb hL hk1; have hb := ov_in hLA hk1; generalize l.getD i (false, 0, 0) = z at h1 hb; obtain ⟨c, u0, w0⟩ := z; simp only [InU] at hb; obtain ⟨b0, b1, b2, b3⟩ := hb; obtain ⟨u, rfl⟩ := Int.eq_ofNat_of_zero_le b0; obtain ⟨w, rfl⟩ := Int.eq_ofNat_of_zero_le b2; have hl5 := in5_len hg; have hAl := hA.1; simp only [h1, ov, Nat.zero_add, cell_zero, cell_succ, cells_agg, List.length_cons, List.length_nil]; obtain ⟨dT, T, P1, hdT, gT, -, mT⟩ := goodAdd (a := (u : Int)) (b := (u : Int) + (w : Int)) hd hg.1 (by omega) (by omega) (by omega) (by omega); obtain ⟨dU, U, P2, hdU, gU, -, mU⟩ := goodCut (a := (u : Int)) (b := (u : Int) + (w : Int)) hd hg.1 (by omega) (by omega) (by omega) (by omega); have iT := in5_add (z := ((u : Int), (u : Int) + (w : Int))) hg gT (by simp only; omega) mT; have iU := in5_cut hg gU mU; have inl1 : True := trivial) | (have hl5 := in5_len hg; obtain ⟨dG, G, PG, hdG, gG, mG, sG⟩ := goodGap hd hg.1 (by omega); have h1 : True := trivial; have hAl := hA.1; have out1 : True := trivial))
      | (have := inl3; exact ⟨k + 1, _, by omega, by omega, hpn, congrArg (fun t => [D.v (Value.int IntKind.i64 ((k : Nat) + 1)), t]) hse⟩)
      | (have := out3; exact ⟨i + 1, _, _, _, by omega, g2, hd2, hB2, rfl⟩)
      | (have := m7; exact ⟨u, A, Nat.le_refl _, by omega, part_nil hAl, rfl⟩)
      | (have := inl1; refine ⟨U, dU, iU, cutI ?_ mU, hdU, rfl⟩; assumption)
      | (have := inl1; refine ⟨T, dT, iT, addI ?_ mT, hdT, rfl⟩; assumption)
      | (have := inl4; refine ⟨k + 1, by omega, ?_⟩)
      | (have := out1; exact ⟨0, by omega, rfl⟩)
      | (exact ⟨0, [], .v nilS, List.replicate 512 false, Nat.zero_le _, in5_nil, isL_nil 2, told_nil, start5⟩)
      | (refine And.intro ?_ ?_)
      | (intro hx; have hprop := (show ∀ (p : Prop), p → True from fun _ _ => True.intro) _ hx; clear hprop; first | (cases hx; done) | (exfalso; revert hx; simp (disch := omega) only [decide_eq_true_eq, decide_eq_false_iff_not, Bool.not_eq_true', Bool.not_eq_false', Bool.and_eq_true, Bool.and_eq_false_iff, Int.not_lt, Int.not_le, ne_eq, not_false_eq_true, not_true_eq_false, reduceCtorEq, Bool.true_eq_false, Bool.false_eq_true, beq_iff_eq, bne_iff_ne, beq_eq_false_iff_ne, false_or, or_false, true_and, and_true, h1, h2, hLM, hL.lenT, List.length_map, Nat.zero_add, Bool.not_eq_eq_eq_not]; done) | (simp (disch := omega) only [decide_eq_true_eq, decide_eq_false_iff_not, Bool.not_eq_true', Bool.not_eq_false', Bool.and_eq_true, Bool.and_eq_false_iff, Int.not_lt, Int.not_le, ne_eq, not_false_eq_true, not_true_eq_false, reduceCtorEq, Bool.true_eq_false, Bool.false_eq_true, beq_iff_eq, bne_iff_ne, beq_eq_false_iff_ne, false_or, or_false, true_and, and_true, h1, h2, hLM, hL.lenT, List.length_map, Nat.zero_add, Bool.not_eq_eq_eq_not] at hx; first | (exfalso; omega) | skip) | skip)
      | exact True.intro
      | exact fit_ofL _ _
      | (simp (disch := omega) only [notAgg_v, notAgg_sl, plain_v, fits, fitsOne, fitsCells, xsOf, cell_zero, cell_succ, List.range, List.range.loop, List.map, cond_true, cond_false, D.v.injEq, exists_eq', exists_eq, and_self, and_true, true_and, D.agg.injEq, List.length, exists_eq_left', D.sl.injEq, reduceCtorEq, false_or, true_or, or_true, or_false, cell_zero, cell_succ, cell_v, cells_v, cells_agg, List.length_cons, List.length_nil, h1, h2, hLM, hL.lenT, List.length_map, Nat.zero_add, Bool.not_eq_eq_eq_not]; done))
    all_goals first
      | (exfalso; omega)
      | omega
      | rfl
      | assumption
      | exact hL.notAgg
      | (simp only [leftG]; omega)
      | (rw [h1]; exact Nat.le_refl _)
      | (rw [h2]; exact Nat.le_refl _)
      | exact .inl rfl
      | exact .inr rfl
      | exact .inr ⟨_, rfl⟩
      | exact fitI hdT
      | exact fitI hdU
      | exact fitI hdG
      | exact fitI hdM
      | (rw [ct rfl, ft rfl]; rfl)
      | (rw [c0 rfl, f1 rfl] <;> first | assumption | rfl)
      | (rw [c0 rfl, f0 rfl] <;> first | assumption | rfl)
      | exact ⟨_, rfl⟩
      | exact ⟨_, rfl, rfl⟩
      | (simp; done)
      | fail
  · skip
    repeat' (first
      | (refine ex_some (by simp (disch := omega) only [bin_shr, bin_shl, bin_and, bin_or, bin_xor, len_str, toStr_ofL, bin_add, bin_sub, bin_mul, bin_quo, bin_rem, bin_lss, bin_leq, bin_gtr, bin_geq, bin_eql, bin_neq, eqs_cn, eqs_ci, eqs_cb, eqs_cs, Option.map_some, lenT_ofL, lst_ofL, lstSz_ofL, chunk_one, lst_nil, lst_sl, lstSz_sl, lstSz_nil, Bool.and_true, Bool.true_and, Bool.and_false, Bool.false_and, beq_self_eq_true, beq_bb, bne_bb, un_not, un_neg, conv_int, min2_int, max2_int, w64, w32, wu8, wu16, wu32, wu64, tdiv_nn, tmod_nn, cell_zero, cell_succ, cell_v, cells_v, cells_agg, Bool.not_true, Bool.not_false, Int.reduceLT, Int.reduceLE, Int.reduceEq, Int.reduceNeg, Int.reduceAdd, Int.reduceSub, Int.reduceMul, intOf_v, decide_true, decide_false, hL.lenT, List.length_map]; rfl) ?_)
      | (refine ex_bool ?_)
      | (refine ⟨_, awake, ?_⟩)
      | (refine And.intro ?_ ?_)
      | (intro hx; have hprop := (show ∀ (p : Prop), p → True from fun _ _ => True.intro) _ hx; clear hprop; first | (cases hx; done) | (exfalso; revert hx; simp (disch := omega) only [decide_eq_true_eq, decide_eq_false_iff_not, Bool.not_eq_true', Bool.not_eq_false', Bool.and_eq_true, Bool.and_eq_false_iff, Int.not_lt, Int.not_le, ne_eq, not_false_eq_true, not_true_eq_false, reduceCtorEq, Bool.true_eq_false, Bool.false_eq_true, beq_iff_eq, bne_iff_ne, beq_eq_false_iff_ne, false_or, or_false, true_and, and_true, hL.lenT, List.length_map]; done) | (simp (disch := omega) only [decide_eq_true_eq, decide_eq_false_iff_not, Bool.not_eq_true', Bool.not_eq_false', Bool.and_eq_true, Bool.and_eq_false_iff, Int.not_lt, Int.not_le, ne_eq, not_false_eq_true, not_true_eq_false, reduceCtorEq, Bool.true_eq_false, Bool.false_eq_true, beq_iff_eq, bne_iff_ne, beq_eq_false_iff_ne, false_or, or_false, true_and, and_true, hL.lenT, List.length_map] at hx; first | (exfalso; omega) | skip) | skip)
      | trivial
      | exact fit_ofL _ _
      | (simp (disch := omega) only [notAgg_v, notAgg_sl, plain_v, fits, fitsOne, fitsCells, xsOf, cell_zero, cell_succ, List.range, List.range.loop, List.map, cond_true, cond_false, D.v.injEq, exists_eq', exists_eq, and_self, and_true, true_and, D.agg.injEq, List.length, exists_eq_left', D.sl.injEq, reduceCtorEq, false_or, true_or, or_true, or_false, cell_zero, cell_succ, cell_v, cells_v, cells_agg, List.length_cons, List.length_nil, hL.lenT, List.length_map]; done))
    all_goals first
      | (exfalso; omega)
      | omega
      | rfl
      | assumption
      | exact hL.notAgg
      | (simp only [leftG]; omega)
      | (rw [h1]; exact Nat.le_refl _)
      | (rw [h2]; exact Nat.le_refl _)
      | exact .inl rfl
      | exact .inr rfl
      | exact .inr ⟨_, rfl⟩
      | (rw [ct rfl, ft rfl]; rfl)
      | (rw [c0 rfl, f1 rfl] <;> first | assumption | rfl)
      | (rw [c0 rfl, f0 rfl] <;> first | assumption | rfl)
      | exact ⟨_, rfl⟩
      | exact ⟨_, rfl, rfl⟩
      | (simp; done)
      | fail


theorem law_IvalsNumbers (xs : List D) (h : All2 TypedA [(false, [.sl true [.bool, .int .u8, .int .u8]])] xs) : PureD Try.prog 5 xs [.v (.bool true)] := by
  obtain ⟨x, xs, rfl, hx, h⟩ := h.cons_
  obtain rfl := h.nil_
  obtain ⟨l, hL, hLA⟩ := typed_ops hx
  exact numbers x l hL hLA

end Go.Proofs.Ytpbmlllffmkkdaa