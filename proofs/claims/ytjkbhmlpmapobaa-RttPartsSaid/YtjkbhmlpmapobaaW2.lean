/-
  The walks of layer 8's functions: a wait, a time.
-/
import Derived.Test.YtjkbhmlpmapobaaW1
namespace Go.Proofs.Ytjkbhmlpmapobaa
open Go.RowKit

/-- What a wait is ahead of doubling. -/
def base (x : S) : Int := if x.k = true then max 2 (x.s / 8 + x.v) else 8
/-- A wait. -/
def wt (x : S) : Int := if chk x = 0 then min 64 (base x * 2 ^ x.h.toNat) else 8

theorem wait_own (x : S) (w : World) :
    Calls Try.prog 10 #[.agg #[.int .i64 x.s, .int .i64 x.v, .bool x.k, .int .i64 x.h]] w fun e w' => e = .returned (.int .i64 (wt x)) ∧ Below w.heap.size w w' := by
  by_cases hc : chk x = 0
  · have he : wt x = min 64 (base x * 2 ^ x.h.toNat) := by unfold wt; rw [if_pos hc]
    rw [he]
    unfold base
    obtain ⟨h1, h2, h3, h4, h5, h6, -⟩ := chk_ok hc
    obtain ⟨s, v, k, q⟩ := x
    simp only [] at h1 h2 h3 h4 h5 h6
    clear he
    have hq : q = 0 ∨ q = 1 ∨ q = 2 ∨ q = 3 ∨ q = 4 ∨ q = 5 ∨ q = 6 := by omega
    cases k
    all_goals
      rcases hq with rfl | rfl | rfl | rfl | rfl | rfl | rfl
      all_goals
        go_enter Try.func10, Try.ntmps10
        go_wp2_with (go_at_call 8; refine (check_own _ _ _ _ _).mono ?_; rintro e w1 ⟨rfl, rfl⟩)
        all_goals go_ret
        all_goals refine ⟨ret_int ?_, by repeat (first | exact Below.refl _ _ | refine Below.alloc ?_ (by first | (simp; done) | (simp; omega)) _)⟩
        all_goals first | omega | (simp; done) | (simp; omega)
  · have he : wt x = 8 := by unfold wt; rw [if_neg hc]
    rw [he]
    obtain ⟨s, v, k, q⟩ := x
    have hb : (chk ⟨s, v, k, q⟩ == 0) = false := by simp [hc]
    clear he
    go_enter Try.func10, Try.ntmps10
    go_wp2_with (go_at_call 8; refine (check_own _ _ _ _ _).mono ?_; rintro e w1 ⟨rfl, rfl⟩)
    go_ret
    exact ⟨rfl, by repeat (first | exact Below.refl _ _ | refine Below.alloc ?_ (by first | (simp; done) | (simp; omega)) _)⟩

theorem wait_ref (x : S) (w : World) :
    Calls Try.prog 11 #[.agg #[.int .i64 x.s, .int .i64 x.v, .bool x.k, .int .i64 x.h]] w fun e w' => e = .returned (.int .i64 (wt x)) ∧ Below w.heap.size w w' := by
  by_cases hc : chk x = 0
  · have he : wt x = min 64 (base x * 2 ^ x.h.toNat) := by unfold wt; rw [if_pos hc]
    rw [he]
    obtain ⟨h1, h2, h3, h4, h5, h6, -⟩ := chk_ok hc
    have hbb : 2 ≤ base x ∧ base x ≤ 1179648 := by unfold base; split <;> omega
    have hbd : ∀ k : Nat, k ≤ 6 → 0 ≤ base x * 2 ^ k ∧ base x * 2 ^ k ≤ 75497472 := by
      intro k hk
      have : (2 : Int) ^ k = 1 ∨ (2 : Int) ^ k = 2 ∨ (2 : Int) ^ k = 4 ∨ (2 : Int) ^ k = 8 ∨ (2 : Int) ^ k = 16 ∨ (2 : Int) ^ k = 32 ∨ (2 : Int) ^ k = 64 := by
        match k, hk with
        | 0, _ => simp
        | 1, _ => simp
        | 2, _ => simp
        | 3, _ => simp
        | 4, _ => simp
        | 5, _ => simp
        | 6, _ => simp
      rcases this with h | h | h | h | h | h | h <;> rw [h] <;> omega
    have hsucc : ∀ k : Nat, base x * 2 ^ (k + 1) = 2 * (base x * 2 ^ k) := by intro k; rw [Int.pow_succ, ← Int.mul_assoc, Int.mul_comm]
    have hbase : base x = if x.k = true then max 2 (x.s / 8 + x.v) else 8 := rfl
    obtain ⟨s, v, k, q⟩ := x
    simp only [] at h1 h2 h3 h4 h5 h6 hbase
    obtain ⟨j, rfl⟩ := Int.eq_ofNat_of_zero_le h5
    generalize hm : base ⟨s, v, k, (j : Int)⟩ = m at *
    have HBD := Lib.hid hbd
    have HS := Lib.hid hsucc
    have HM := Lib.hid hbase
    clear he hm hbd hsucc hbase
    go_enter Try.func11, Try.ntmps11
    go_wp2_with (go_at_call 9; refine (check_ref _ _ _ _ _).mono ?_; rintro e w1 ⟨rfl, rfl⟩)
    all_goals
      go_loop [3, 4] (fun n i => ∃ k : Nat, k ≤ j ∧ i = .int .i64 (k : Int) ∧ n = .int .i64 (m * 2 ^ k)) (fun _ i => j - (intOf i).toNat)
      case atStart => exact ⟨0, by omega, rfl, by have := HM.out; congr 1; first | (rw [if_pos (by assumption)] at this; omega) | (rw [if_neg (by simp_all)] at this; omega)⟩
      case round =>
        obtain ⟨k, hk, rfl, rfl⟩ := hrel
        obtain ⟨b1, b2⟩ := HBD.out k (by omega)
        have hs := HS.out k
        have hq := hs
        obtain ⟨y, hy⟩ : ∃ y, y = m * 2 ^ k := ⟨_, rfl⟩
        rw [← hy] at b1 b2 hs ⊢
        have HY := Lib.hid hy
        have HS1 := Lib.hid hs
        clear hy hs hq
        by_cases hlt : k < j
        · go_wp2
          go_round
          case rel => exact ⟨k + 1, by omega, by go_num, by rw [HS1.out]⟩
          case measure => simp [intOf]; omega
        · obtain rfl : k = j := by omega
          go_wp2
          all_goals go_ret
          all_goals refine ⟨ret_int ?_, by repeat (first | exact Below.refl _ _ | refine Below.alloc ?_ (by first | (simp; done) | (simp; omega)) _)⟩
          all_goals have e := HY.out
          all_goals omega
  · have he : wt x = 8 := by unfold wt; rw [if_neg hc]
    rw [he]
    obtain ⟨s, v, k, q⟩ := x
    have hb : (chk ⟨s, v, k, q⟩ == 0) = false := by simp [hc]
    clear he
    go_enter Try.func11, Try.ntmps11
    go_wp2_with (go_at_call 9; refine (check_ref _ _ _ _ _).mono ?_; rintro e w1 ⟨rfl, rfl⟩)
    go_ret
    exact ⟨rfl, by repeat (first | exact Below.refl _ _ | refine Below.alloc ?_ (by first | (simp; done) | (simp; omega)) _)⟩
end Go.Proofs.Ytjkbhmlpmapobaa
