/-
  The walks of the four laws of layer 4.
-/
import Derived.Test.YtebkkiahfcelcaaW3
namespace Go.Proofs.Ytebkkiahfcelcaa
open Go.RowKit

theorem reckons_walk (a b n : Int) (w : World) (ha : (Lit.int .u32 a).wf = true) (hb : (Lit.int .u32 b).wf = true) (_hn : (Lit.int .i64 n).wf = true) :
    Calls Try.prog 3 #[.int .u32 a, .int .u32 b, .int .i64 n] w fun e w' => e = .returned (.bool true) ∧ Below w.heap.size w w' :=
  reckons a b n (wf_u32 ha) (wf_u32 hb) w

theorem longs_walk (near a : Int) (A : Option Addr) (len cap : Nat) (zs : List Int) (w : World) (_hn : (Lit.int .i64 near).wf = true) (ha : (Lit.int .u32 a).wf = true) (hr : IsRow .u32 w A len cap zs) :
    Calls Try.prog 4 #[.int .i64 near, .int .u32 a, .slice A len cap] w fun e w' => e = .returned (.bool true) ∧ Below w.heap.size w w' := by
  have hu := wf_u32 ha
  by_cases hl : 60 < len
  · have hl' : (60 : Int) < (len : Int) := by omega
    go_enter Try.func4, Try.ntmps4
    go_wp2_with (go_at_call 15; refine (awake_true _).mono ?_; rintro e w' ⟨rfl, hb⟩)
    go_ret
    exact ⟨rfl, by assumption⟩
  · have hl' : ¬ (60 : Int) < (len : Int) := by omega
    go_enter Try.func4, Try.ntmps4
    go_wp2_with fail
    refine (long_own _ _ _).mono ?_
    rintro e w1 ⟨rfl, hb1⟩
    go_wp2_with (first
      | (go_at_call 17; refine (long_ref _ _ hu _).mono ?_; rintro e w' ⟨rfl, rfl⟩)
      | (go_at_call 18; refine (short_own _ _).mono ?_; rintro e w' ⟨rfl, rfl⟩)
      | (go_at_call 19; refine (short_ref _ _).mono ?_; rintro e w' ⟨rfl, rfl⟩))
    refine (latest_own _ _ _ zs _ hu _ (hr.below (Nat.le_refl _) hb1) (by omega)).mono ?_
    rintro e w2 ⟨rfl, hb2⟩
    have b2 : Below w.heap.size w w2 := hb1.trans (hb2.mono hb1.size)
    go_wp2_with fail
    refine (latest_ref _ _ _ zs _ hu _ (hr.below (Nat.le_refl _) b2) (by omega)).mono ?_
    rintro e w3 ⟨rfl, rfl⟩
    go_wp2_with fail
    refine (awake_true _).mono ?_
    rintro e w3 ⟨rfl, hb3⟩
    go_wp2
    go_ret
    exact ⟨rfl, b2.trans (hb3.mono b2.size)⟩

/-! ### plain reckoning for SerialBack -/
theorem back_diff (a n : Int) (ha : U a) (h1 : -2147483648 ≤ n) (h2 : n < 2147483648) : sd ((a + n) % 4294967296) a = n := by
  obtain ⟨_, _⟩ := ha; unfold sd; omega
theorem back_add (a n : Int) (ha : U a) : ((a + n) % 4294967296 + -n) % 4294967296 = a := by
  obtain ⟨_, _⟩ := ha; omega
theorem back_long (x n : Int) (hx : 0 ≤ x) (hx' : x ≤ 1099511627776) (h1 : -2147483648 < n) (h2 : n < 2147483648) (h3 : 0 ≤ x + n) (h4 : x + n ≤ 1099511627776) : lng (x + n) (x % 4294967296) = x := by
  have hc : clampI (x + n) = x + n := by unfold clampI; omega
  unfold lng
  rw [hc]
  have hs : sd (x % 4294967296) ((x + n) % 4294967296) = -n := by unfold sd; omega
  rw [hs, if_neg (by omega)]; omega
theorem back_less (a n : Int) (ha : U a) (h1 : -2147483648 < n) (h2 : n < 2147483648) (h0 : n ≠ 0) :
    decide (sd a ((a + n) % 4294967296) < 0) = !decide (sd ((a + n) % 4294967296) a < 0) := by
  rw [back_diff a n ha (by omega) h2]
  have : sd a ((a + n) % 4294967296) = -n := by obtain ⟨_, _⟩ := ha; unfold sd; omega
  rw [this]
  rw [Bool.eq_iff_iff]; simp; omega
theorem back_in (a n : Int) (ha : U a) (h1 : -2147483648 ≤ n) (h2 : n < 2147483648) : decide (((a + n) % 4294967296 - a) % 4294967296 < n + 1) = decide (0 ≤ n) := by
  obtain ⟨_, _⟩ := ha
  rw [decide_eq_decide]; omega

theorem back_walk (a n long : Int) (w : World) (ha : (Lit.int .u32 a).wf = true) (hn : (Lit.int .i32 n).wf = true) (hl : (Lit.int .u64 long).wf = true) :
    Calls Try.prog 5 #[.int .u32 a, .int .i32 n, .int .u64 long] w fun e w' => e = .returned (.bool true) ∧ Below w.heap.size w w' := by
  have hu := wf_u32 ha
  obtain ⟨n1, n2⟩ := wf_i32 hn
  obtain ⟨l1, l2⟩ := wf_u64 hl
  obtain ⟨x, hx, x1, x2⟩ : ∃ x, long % 1099511627777 = x ∧ 0 ≤ x ∧ x ≤ 1099511627776 := ⟨_, rfl, by omega, by omega⟩
  have e1 := back_diff a n hu n1 n2
  have e2 := back_add a n hu
  have e4 := back_in a n hu n1 n2
  clear ha hn hl
  by_cases h1 : n = -2147483648
  · subst h1
    have e5 : decide ((a + -2147483648 - a) % 4294967296 < -2147483647) = false := by simp; omega
    clear e4
    go_enter Try.func5, Try.ntmps5
    go_wp2_with (first
      | (go_at_call 7; refine (add_own _ _ _).mono ?_; rintro e w' ⟨rfl, rfl⟩)
      | (go_at_call 9; refine (diff_own _ _ _).mono ?_; rintro e w' ⟨rfl, rfl⟩)
      | (go_at_call 13; refine (in_own _ _ _ _).mono ?_; rintro e w' ⟨rfl, rfl⟩)
      | (go_at_call 15; refine (awake_true _).mono ?_; rintro e w' ⟨rfl, hb⟩))
    go_ret
    exact ⟨rfl, by assumption⟩
  have h1' : (n == -2147483648) = false := by simp [h1]
  have h1'' : (n != -2147483648) = true := by simp [h1]
  by_cases h0 : n = 0
  · subst h0
    have e3 := back_long x 0 x1 x2 (by omega) (by omega) (by omega) (by omega)
    simp only [Int.add_zero] at e1 e3
    have e5 : a % 4294967296 = a := by obtain ⟨_, _⟩ := hu; omega
    rw [e5] at e1
    clear e4 e2
    go_enter Try.func5, Try.ntmps5
    go_wp2_with (first
      | (go_at_call 7; refine (add_own _ _ _).mono ?_; rintro e w' ⟨rfl, rfl⟩)
      | (go_at_call 9; refine (diff_own _ _ _).mono ?_; rintro e w' ⟨rfl, rfl⟩)
      | (go_at_call 18; refine (short_own _ _).mono ?_; rintro e w' ⟨rfl, rfl⟩))
    refine (long_own _ _ _).mono ?_
    rintro e w1 ⟨rfl, hb1⟩
    go_wp2_with (first
      | (go_at_call 11; refine (less_own _ _ _).mono ?_; rintro e w' ⟨rfl, rfl⟩)
      | (go_at_call 13; refine (in_own _ _ _ _).mono ?_; rintro e w' ⟨rfl, rfl⟩))
    refine (awake_true _).mono ?_
    rintro e w2 ⟨rfl, hb2⟩
    go_wp2
    go_ret
    exact ⟨rfl, hb1.trans (hb2.mono hb1.size)⟩
  have h0' : (n == 0) = false := by simp [h0]
  have e6 := back_less a n hu (by omega) n2 h0
  rw [e1] at e6
  by_cases h3 : x + n < 0
  · have d3 : decide (0 ≤ x + n) = false := by simp; omega
    go_enter Try.func5, Try.ntmps5
    go_wp2_with (first
      | (go_at_call 7; refine (add_own _ _ _).mono ?_; rintro e w' ⟨rfl, rfl⟩)
      | (go_at_call 9; refine (diff_own _ _ _).mono ?_; rintro e w' ⟨rfl, rfl⟩)
      | (go_at_call 11; refine (less_own _ _ _).mono ?_; rintro e w' ⟨rfl, rfl⟩)
      | (go_at_call 13; refine (in_own _ _ _ _).mono ?_; rintro e w' ⟨rfl, rfl⟩)
      | (go_at_call 15; refine (awake_true _).mono ?_; rintro e w' ⟨rfl, hb⟩))
    all_goals go_ret
    all_goals exact ⟨rfl, by assumption⟩
  have d3 : decide (0 ≤ x + n) = true := by simp; omega
  by_cases h4 : 1099511627776 < x + n
  · have d4 : decide (x + n ≤ 1099511627776) = false := by simp; omega
    go_enter Try.func5, Try.ntmps5
    go_wp2_with (first
      | (go_at_call 7; refine (add_own _ _ _).mono ?_; rintro e w' ⟨rfl, rfl⟩)
      | (go_at_call 9; refine (diff_own _ _ _).mono ?_; rintro e w' ⟨rfl, rfl⟩)
      | (go_at_call 11; refine (less_own _ _ _).mono ?_; rintro e w' ⟨rfl, rfl⟩)
      | (go_at_call 13; refine (in_own _ _ _ _).mono ?_; rintro e w' ⟨rfl, rfl⟩)
      | (go_at_call 15; refine (awake_true _).mono ?_; rintro e w' ⟨rfl, hb⟩))
    all_goals go_ret
    all_goals exact ⟨rfl, by assumption⟩
  · have d4 : decide (x + n ≤ 1099511627776) = true := by simp; omega
    have e3 := back_long x n x1 x2 (by omega) n2 (by omega) (by omega)
    go_enter Try.func5, Try.ntmps5
    go_wp2_with (first
      | (go_at_call 7; refine (add_own _ _ _).mono ?_; rintro e w' ⟨rfl, rfl⟩)
      | (go_at_call 9; refine (diff_own _ _ _).mono ?_; rintro e w' ⟨rfl, rfl⟩)
      | (go_at_call 18; refine (short_own _ _).mono ?_; rintro e w' ⟨rfl, rfl⟩))
    refine (long_own _ _ _).mono ?_
    rintro e w1 ⟨rfl, hb1⟩
    go_wp2_with (first
      | (go_at_call 11; refine (less_own _ _ _).mono ?_; rintro e w' ⟨rfl, rfl⟩)
      | (go_at_call 13; refine (in_own _ _ _ _).mono ?_; rintro e w' ⟨rfl, rfl⟩))
    refine (awake_true _).mono ?_
    rintro e w2 ⟨rfl, hb2⟩
    go_wp2
    go_ret
    exact ⟨rfl, hb1.trans (hb2.mono hb1.size)⟩

end Go.Proofs.Ytebkkiahfcelcaa
