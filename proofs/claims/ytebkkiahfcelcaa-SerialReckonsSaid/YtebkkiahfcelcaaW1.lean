/-
  The walks of layer 4's functions (serial, and the document's answer): what each call answers, for every number.
-/
import Derived.Test.YtebkkiahfcelcaaKit
namespace Go.Proofs.Ytebkkiahfcelcaa
open Go.RowKit


/-- A short number. -/
def U (x : Int) : Prop := 0 ≤ x ∧ x < 4294967296
/-- How far a is behind b. -/
def sd (a b : Int) : Int := (a - b + 2147483648) % 4294967296 - 2147483648

theorem w32 (x : Int) : wrap64 (wrap32 (x % 4294967296)) = (x + 2147483648) % 4294967296 - 2147483648 := by
  simp only [wrap64, wrap32]; omega

theorem short_own (n : Int) (w : World) : Calls Try.prog 18 #[.int .i64 n] w fun e w' => e = .returned (.int .u32 (n % 4294967296)) ∧ w = w' := by
  go_enter Try.func18, Try.ntmps18
  go_wp2
  go_ret
  exact ⟨rfl, rfl⟩

theorem add_own (a n : Int) (w : World) : Calls Try.prog 7 #[.int .u32 a, .int .i64 n] w fun e w' => e = .returned (.int .u32 ((a + n) % 4294967296)) ∧ w = w' := by
  go_enter Try.func7, Try.ntmps7
  go_wp2_with (go_at_call 18; refine (short_own _ _).mono ?_; rintro e w' ⟨rfl, rfl⟩)
  go_ret
  exact ⟨ret_int (by omega), rfl⟩

theorem diff_own (a b : Int) (w : World) : Calls Try.prog 9 #[.int .u32 a, .int .u32 b] w fun e w' => e = .returned (.int .i64 (sd a b)) ∧ w = w' := by
  go_enter Try.func9, Try.ntmps9
  go_wp2
  go_ret
  exact ⟨ret_int (w32 _), rfl⟩

theorem less_own (a b : Int) (w : World) : Calls Try.prog 11 #[.int .u32 a, .int .u32 b] w fun e w' => e = .returned (.bool (decide (sd a b < 0))) ∧ w = w' := by
  go_enter Try.func11, Try.ntmps11
  go_wp2_with (go_at_call 9; refine (diff_own _ _ _).mono ?_; rintro e w' ⟨rfl, rfl⟩)
  go_ret
  exact ⟨rfl, rfl⟩

theorem in_own (a b n : Int) (w : World) : Calls Try.prog 13 #[.int .u32 a, .int .u32 b, .int .i64 n] w fun e w' => e = .returned (.bool (decide ((a - b) % 4294967296 < n))) ∧ w = w' := by
  by_cases h1 : 1 ≤ n
  · by_cases h2 : (a - b) % 4294967296 < n
    all_goals
      go_enter Try.func13, Try.ntmps13
      go_wp2
      go_ret
      exact ⟨ret_bool (by simp [h2]), rfl⟩
  · have h2 : ¬ (a - b) % 4294967296 < n := by omega
    go_enter Try.func13, Try.ntmps13
    go_wp2
    go_ret
    exact ⟨ret_bool (by simp [h2]), rfl⟩

theorem tmod_round (n : Int) : (0 ≤ n ∧ n.tmod 4294967296 = n % 4294967296) ∨ (n < 0 ∧ n.tmod 4294967296 = -((-n) % 4294967296)) := by
  rcases Int.lt_or_le n 0 with h | h
  · exact .inr ⟨h, by
      have e : n = -(-n) := by omega
      rw [show n.tmod 4294967296 = (-(-n)).tmod 4294967296 from by rw [← e], Int.neg_tmod, Int.tmod_eq_emod_of_nonneg (by omega)]⟩
  · exact .inl ⟨h, Int.tmod_eq_emod_of_nonneg h⟩

theorem short_ref (n : Int) (w : World) : Calls Try.prog 19 #[.int .i64 n] w fun e w' => e = .returned (.int .u32 (n % 4294967296)) ∧ w = w' := by
  have h1 : -4294967296 < n.tmod 4294967296 := by have := tmod_round n; omega
  have h2 : n.tmod 4294967296 < 4294967296 := by have := tmod_round n; omega
  go_enter Try.func19, Try.ntmps19
  go_wp2
  all_goals go_ret
  all_goals exact ⟨ret_int (by have := tmod_round n; omega), rfl⟩

theorem add_ref (a n : Int) (ha : U a) (w : World) : Calls Try.prog 8 #[.int .u32 a, .int .i64 n] w fun e w' => e = .returned (.int .u32 ((a + n) % 4294967296)) ∧ w = w' := by
  obtain ⟨h3, h4⟩ := ha
  have h1 : -4294967296 < n.tmod 4294967296 := by have := tmod_round n; omega
  have h2 : n.tmod 4294967296 < 4294967296 := by have := tmod_round n; omega
  go_enter Try.func8, Try.ntmps8
  go_wp2_with (go_at_call 19; refine (short_ref _ _).mono ?_; rintro e w' ⟨rfl, rfl⟩)
  go_ret
  exact ⟨ret_int (by have := tmod_round n; omega), rfl⟩

theorem diff_ref (a b : Int) (ha : U a) (hb : U b) (w : World) : Calls Try.prog 10 #[.int .u32 a, .int .u32 b] w fun e w' => e = .returned (.int .i64 (sd a b)) ∧ w = w' := by
  obtain ⟨h1, h2⟩ := ha
  obtain ⟨h3, h4⟩ := hb
  go_enter Try.func10, Try.ntmps10
  go_wp2
  all_goals go_ret
  all_goals exact ⟨ret_int (by unfold sd; omega), rfl⟩

theorem less_ref (a b : Int) (ha : U a) (hb : U b) (w : World) : Calls Try.prog 12 #[.int .u32 a, .int .u32 b] w fun e w' => e = .returned (.bool (decide (sd a b < 0))) ∧ w = w' := by
  go_enter Try.func12, Try.ntmps12
  go_wp2_with (go_at_call 10; refine (diff_ref _ _ ha hb _).mono ?_; rintro e w' ⟨rfl, rfl⟩)
  go_ret
  exact ⟨rfl, rfl⟩

theorem in_ref (a b n : Int) (ha : U a) (hb : U b) (w : World) : Calls Try.prog 14 #[.int .u32 a, .int .u32 b, .int .i64 n] w fun e w' => e = .returned (.bool (decide ((a - b) % 4294967296 < n))) ∧ w = w' := by
  obtain ⟨h1, h2⟩ := ha
  obtain ⟨h3, h4⟩ := hb
  go_enter Try.func14, Try.ntmps14
  go_wp2
  all_goals go_ret
  all_goals exact ⟨ret_bool (decide_eq_decide.2 (by omega)), rfl⟩

/-- The long number that is nearest. -/
def clampI (x : Int) : Int := min (max x 0) 1099511627776
def lng (near a : Int) : Int := if clampI near + sd a (clampI near % 4294967296) < 0 ∨ sd a (clampI near % 4294967296) = -2147483648 then clampI near + sd a (clampI near % 4294967296) + 4294967296 else clampI near + sd a (clampI near % 4294967296)

theorem diff_own' (a b : Int) (w : World) : Calls Try.prog 9 #[.int .u32 a, .int .u32 b] w fun e w' => ∃ d, e = .returned (.int .i64 d) ∧ w = w' ∧ -2147483648 ≤ d ∧ d ≤ 2147483647 ∧ Hid (d = sd a b) :=
  (diff_own a b w).mono fun _ _ ⟨he, hw⟩ => ⟨_, he, hw, by unfold sd; omega, by unfold sd; omega, rfl⟩

theorem long_own (near a : Int) (w : World) : Calls Try.prog 16 #[.int .i64 near, .int .u32 a] w fun e w' => e = .returned (.int .i64 (lng near a)) ∧ Below w.heap.size w w' := by
  go_enter Try.func16, Try.ntmps16
  go_wp2_with (first | (go_at_call 18; refine (short_own _ _).mono ?_; rintro e w' ⟨rfl, rfl⟩) | (go_at_call 9; refine (diff_own' _ _ _).mono ?_; rintro e w' ⟨d, rfl, rfl, hd1, hd2, hd⟩))
  all_goals go_ret
  all_goals refine ⟨ret_int ?_, by repeat (first | exact Below.refl _ _ | (refine Below.alloc ?_ (Nat.le_refl _) _))⟩
  all_goals have Hd := hd.out
  all_goals clear hd
  all_goals unfold lng clampI sd
  all_goals unfold sd at Hd
  all_goals omega

theorem abs_ref (n : Int) (h1 : -9223372036854775807 ≤ n) (h2 : n ≤ 9223372036854775807) (w : World) : Calls Try.prog 22 #[.int .i64 n] w fun e w' => e = .returned (.int .i64 (if n < 0 then -n else n)) ∧ w = w' := by
  by_cases h : n < 0
  all_goals
    go_enter Try.func22, Try.ntmps22
    go_wp2
    go_ret
    exact ⟨ret_int (by omega), rfl⟩

def dist (x : Int) : Int := if x < 0 then -x else x
def bestOf (m n b : Int) : Int := if 0 ≤ n ∧ (b < 0 ∨ dist (n - m) ≤ dist (b - m)) then n else b
theorem bestOf_yes {m n b : Int} (h : 0 ≤ n) (h' : b < 0 ∨ dist (n - m) ≤ dist (b - m)) : bestOf m n b = n := if_pos ⟨h, h'⟩
theorem bestOf_no {m n b : Int} (h : n < 0 ∨ (0 ≤ b ∧ dist (b - m) < dist (n - m))) : bestOf m n b = b := if_neg (by rintro ⟨h1, h2⟩; omega)
def best (m a : Int) : Nat → Int
  | 0 => -1
  | j + 1 => bestOf m ((m / 4294967296 + ((j : Int) - 1)) * 4294967296 + a) (best m a j)
theorem best_three (near a : Int) (h1 : 0 ≤ a) (h2 : a < 4294967296) : best (clampI near) a 3 = lng near a := by
  unfold lng sd
  generalize hm : clampI near = m
  have ⟨hm0, hm1⟩ : 0 ≤ m ∧ m ≤ 1099511627776 := by unfold clampI at hm; omega
  clear hm
  obtain ⟨q, hq⟩ : ∃ q, q = m / 4294967296 := ⟨_, rfl⟩
  obtain ⟨r, hr⟩ : ∃ r, r = m % 4294967296 := ⟨_, rfl⟩
  have hb1 : best m a 1 = if q = 0 then -1 else (q - 1) * 4294967296 + a := by
    show bestOf m ((m / 4294967296 + (((0 : Nat) : Int) - 1)) * 4294967296 + a) (-1) = _
    rw [← hq]
    split
    · rw [bestOf_no (by left; omega)]
    · rw [bestOf_yes (by omega) (by left; omega)]; simp; omega
  have hb2 : best m a 2 = if 0 < q ∧ dist (q * 4294967296 + a - 4294967296 - m) < dist (q * 4294967296 + a - m) then q * 4294967296 + a - 4294967296 else q * 4294967296 + a := by
    show bestOf m ((m / 4294967296 + (((1 : Nat) : Int) - 1)) * 4294967296 + a) (best m a 1) = _
    rw [hb1, ← hq]
    simp only [show (q + (((1 : Nat) : Int) - 1)) = q from by omega]
    by_cases h0 : q = 0
    · rw [if_pos h0, if_neg (by omega), bestOf_yes (by omega) (by left; omega)]
    · rw [if_neg h0, show (q - 1) * 4294967296 + a = q * 4294967296 + a - 4294967296 from by omega]
      by_cases h : dist (q * 4294967296 + a - 4294967296 - m) < dist (q * 4294967296 + a - m)
      · rw [bestOf_no (.inr ⟨by omega, h⟩), if_pos ⟨by omega, h⟩]
      · rw [bestOf_yes (by omega) (.inr (by omega)), if_neg (by omega)]
  have hb3 : best m a 3 = bestOf m (q * 4294967296 + a + 4294967296) (best m a 2) := by
    show bestOf m ((m / 4294967296 + (((2 : Nat) : Int) - 1)) * 4294967296 + a) (best m a 2) = _
    rw [← hq]; congr 1; simp; omega
  rw [hb3, hb2, ← hr]
  have hmq : m = q * 4294967296 + r := by omega
  have e0 : q * 4294967296 + a - m = a - r := by omega
  have e1 : q * 4294967296 + a - 4294967296 - m = a - r - 4294967296 := by omega
  rw [e0, e1]
  have hd1 : dist (a - r - 4294967296) = 4294967296 - (a - r) := by unfold dist; omega
  by_cases c1 : a - r ≤ -2147483648
  · have hd0 : dist (a - r) = r - a := by unfold dist; omega
    have hd2 : dist (a - r + 4294967296) = a - r + 4294967296 := by unfold dist; omega
    rw [if_neg (by omega), bestOf_yes (by omega) (.inr (by rw [show q * 4294967296 + a + 4294967296 - m = a - r + 4294967296 from by omega, show q * 4294967296 + a - m = a - r from by omega]; omega))]
    by_cases c2 : a - r = -2147483648
    · rw [if_pos (by omega)]; omega
    · rw [if_neg (by omega)]; omega
  · have hd2 : dist (a - r + 4294967296) = a - r + 4294967296 := by unfold dist; omega
    have hd0 : dist (a - r) ≤ 4294967296 ∧ ((a - r ≤ 0 ∧ dist (a - r) = r - a) ∨ (0 ≤ a - r ∧ dist (a - r) = a - r)) := by unfold dist; omega
    clear hb1 hb2 hb3 e0 e1
    by_cases c2 : 0 < q ∧ dist (a - r - 4294967296) < dist (a - r)
    · rw [if_pos c2, bestOf_no (.inr ⟨by omega, by rw [show q * 4294967296 + a + 4294967296 - m = a - r + 4294967296 from by omega, show q * 4294967296 + a - 4294967296 - m = a - r - 4294967296 from by omega]; omega⟩)]
      obtain ⟨c3, c4⟩ := c2
      have hlt : 2147483648 < a - r := by omega
      have ht : (a - r + 2147483648) % 4294967296 = a - r - 2147483648 := by omega
      rw [ht, if_neg (by omega)]; omega
    · rw [if_neg c2, bestOf_no (.inr ⟨by omega, by rw [show q * 4294967296 + a + 4294967296 - m = a - r + 4294967296 from by omega, show q * 4294967296 + a - m = a - r from by omega]; omega⟩)]
      by_cases c3 : a - r < 2147483648
      · rw [if_neg (by omega)]; omega
      · by_cases c4 : q = 0
        · rw [if_pos (by omega)]; omega
        · rw [if_pos (by omega)]; omega

theorem bestOf_bd (m n b : Int) (hb : -1 ≤ b ∧ b ≤ 2199023255552) (hn : n ≤ 2199023255552) : -1 ≤ bestOf m n b ∧ bestOf m n b ≤ 2199023255552 := by unfold bestOf; omega

theorem best_bd (m a : Int) (hm : 0 ≤ m) (hm' : m ≤ 1099511627776) (ha : U a) (j : Nat) (hj : j ≤ 3) : -1 ≤ best m a j ∧ best m a j ≤ 2199023255552 := by
  obtain ⟨h1, h2⟩ := ha
  induction j with
  | zero => simp [best]
  | succ j ih => exact bestOf_bd _ _ _ (ih (by omega)) (by omega)

end Go.Proofs.Ytebkkiahfcelcaa
