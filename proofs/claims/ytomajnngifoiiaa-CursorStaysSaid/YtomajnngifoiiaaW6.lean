/-
  The walks of layer 1's functions: whether a number has so many bytes.
-/
import Derived.Test.YtomajnngifoiiaaW5
namespace Go.Proofs.Ytomajnngifoiiaa
open Go.RowKit

/-- Has the number so many bytes? -/
def fitb (n k : Int) : Bool := decide (1 ≤ k) && decide (k ≤ 7) && decide (0 ≤ n) && decide (n < 256 ^ k.toNat)
theorem fitb_iff {n k : Int} : fitb n k = true ↔ 1 ≤ k ∧ k ≤ 7 ∧ 0 ≤ n ∧ n < 256 ^ k.toNat := by
  simp [fitb, and_assoc]
theorem div_zero_iff (n m : Int) (hn : 0 ≤ n) (hm : 0 < m) : n / m = 0 ↔ n < m := by
  constructor
  · intro h
    have := Int.lt_ediv_add_one_mul_self n hm
    rw [h] at this; omega
  · exact fun h => Int.ediv_eq_zero_of_lt hn h

theorem fitb_of {n k : Int} (h1 : 1 ≤ k) (h2 : k ≤ 7) (h3 : 0 ≤ n) : fitb n k = (n / 256 ^ k.toNat == 0) := by
  rw [Bool.eq_iff_iff, fitb_iff, beq_iff_eq, div_zero_iff n _ h3 (Int.pow_pos (by decide))]
  exact ⟨fun h => h.2.2.2, fun h => ⟨h1, h2, h3, h⟩⟩

theorem fits_own (n k : Int) (w : World) (hn : (Lit.int .i64 n).wf = true) : Calls Try.prog 24 #[.int .i64 n, .int .i64 k] w fun e w' => e = .returned (.bool (fitb n k)) ∧ w = w' := by
  obtain ⟨n1, n2⟩ := wf_i64 hn
  by_cases h1 : 1 ≤ k
  · by_cases h2 : k ≤ 7
    · by_cases h3 : 0 ≤ n
      · have hk : k = 1 ∨ k = 2 ∨ k = 3 ∨ k = 4 ∨ k = 5 ∨ k = 6 ∨ k = 7 := by omega
        have e3 : decide (0 ≤ n) = true := by simpa using h3
        rcases hk with rfl | rfl | rfl | rfl | rfl | rfl | rfl
        all_goals
          go_enter Try.func24, Try.ntmps24
          go_wp2
          go_ret
          refine ⟨?_, rfl⟩
          rw [fitb_of h1 h2 h3]
          rfl
      · have e3 : decide (0 ≤ n) = false := by simpa using h3
        have ef : fitb n k = false := by simp [fitb, e3]
        rw [ef]; clear ef
        have e1 : decide (1 ≤ k) = true := by simpa using h1
        have e2 : decide (k ≤ 7) = true := by simpa using h2
        go_enter Try.func24, Try.ntmps24
        go_wp2
        go_ret
        exact ⟨rfl, rfl⟩
    · have e2 : decide (k ≤ 7) = false := by simpa using h2
      have ef : fitb n k = false := by simp [fitb, e2]
      rw [ef]; clear ef
      have e1 : decide (1 ≤ k) = true := by simpa using h1
      go_enter Try.func24, Try.ntmps24
      go_wp2
      go_ret
      exact ⟨rfl, rfl⟩
  · have e1 : decide (1 ≤ k) = false := by simpa using h1
    have ef : fitb n k = false := by simp [fitb, e1]
    rw [ef]; clear ef
    go_enter Try.func24, Try.ntmps24
    go_wp2
    go_ret
    exact ⟨rfl, rfl⟩

theorem fits_ref (n k : Int) (w : World) (hn : (Lit.int .i64 n).wf = true) : Calls Try.prog 25 #[.int .i64 n, .int .i64 k] w fun e w' => e = .returned (.bool (fitb n k)) ∧ w = w' := by
  obtain ⟨n1, n2⟩ := wf_i64 hn
  by_cases h3 : n < 0
  · have e3 : decide (0 ≤ n) = false := by simp; omega
    have ef : fitb n k = false := by simp [fitb, e3]
    rw [ef]; clear ef e3
    have e3 : decide (n < 0) = true := by simpa using h3
    go_enter Try.func25, Try.ntmps25
    go_wp2
    go_ret
    exact ⟨rfl, rfl⟩
  · have e3 : decide (n < 0) = false := by simpa using h3
    by_cases h1 : k < 1
    · have e1 : decide (1 ≤ k) = false := by simp; omega
      have ef : fitb n k = false := by simp [fitb, e1]
      rw [ef]; clear ef e1
      have e1 : decide (k < 1) = true := by simpa using h1
      go_enter Try.func25, Try.ntmps25
      go_wp2
      go_ret
      exact ⟨rfl, rfl⟩
    · have e1 : decide (k < 1) = false := by simpa using h1
      by_cases h2 : 7 < k
      · have e2 : decide (k ≤ 7) = false := by simp; omega
        have ef : fitb n k = false := by simp [fitb, e2]
        rw [ef]; clear ef e2
        have e2 : decide (7 < k) = true := by simpa using h2
        go_enter Try.func25, Try.ntmps25
        go_wp2
        go_ret
        exact ⟨rfl, rfl⟩
      · have e2 : decide (7 < k) = false := by simpa using h2
        obtain ⟨K, hK⟩ : ∃ K : Nat, k = (K : Int) := ⟨k.toNat, by omega⟩
        subst hK
        go_enter Try.func25, Try.ntmps25
        go_wp2_with fail
        go_loop [0, 5] (fun m i => ∃ j : Nat, j ≤ K ∧ i = .int .i64 (j : Int) ∧ m = .int .i64 (n / 256 ^ j)) (fun _ i => K - (intOf i).toNat)
        case atStart => exact ⟨0, Nat.zero_le _, rfl, by simp⟩
        case round =>
          obtain ⟨j, hj, rfl, rfl⟩ := hrel
          have hd : n / 256 ^ (j + 1) = n / 256 ^ j / 256 := by
            rw [Int.pow_succ]
            exact Int.ediv_mul_of_nonneg (Int.le_of_lt (Int.pow_pos (by decide)))
          have HD := Lib.hid hd
          have hz := div_zero_iff n (256 ^ j) (by omega) (Int.pow_pos (by decide))
          have HZ := Lib.hid hz
          have hnn : 0 ≤ n / 256 ^ j := Int.ediv_nonneg (by omega) (Int.le_of_lt (Int.pow_pos (by decide)))
          have hle : n / 256 ^ j ≤ n := Int.ediv_le_self _ (by omega)
          clear hd hz
          generalize hm : n / 256 ^ j = m at *
          have HM := Lib.hid hm
          clear hm
          by_cases hlt : j < K
          · go_wp2
            go_round
            case rel => exact ⟨j + 1, by omega, by go_num, by rw [HD.out]⟩
            case measure => simp [intOf]; omega
          · go_wp2
            go_ret
            refine ⟨?_, rfl⟩
            have : j = K := by omega
            subst this
            rw [fitb_of (by omega) (by omega) (by omega), Int.toNat_natCast, HM.out]
            rfl
end Go.Proofs.Ytomajnngifoiiaa
