/-
  The walks of layer 8's functions: a time.
-/
import Derived.Test.YtjkbhmlpmapobaaW1
namespace Go.Proofs.Ytjkbhmlpmapobaa
open Go.RowKit

/-- A time is taken. -/
def smp (x : S) (t : Int) : S :=
  if chk x = 0 ∧ 0 ≤ t ∧ t ≤ 65536 then
    if x.k = true then ⟨max 0 (x.s + (t - x.s / 8)), x.v + max (t - x.s / 8) (-(t - x.s / 8)) - x.v / 4, true, 0⟩ else ⟨8 * t, 2 * t, true, 0⟩
  else x
theorem smp_yes {x : S} {t : Int} (hc : chk x = 0) (h1 : 0 ≤ t) (h2 : t ≤ 65536) (hk : x.k = true) :
    smp x t = ⟨max 0 (x.s + (t - x.s / 8)), x.v + max (t - x.s / 8) (-(t - x.s / 8)) - x.v / 4, true, 0⟩ := by
  unfold smp; rw [if_pos ⟨hc, h1, h2⟩, if_pos hk]
theorem smp_new {x : S} {t : Int} (hc : chk x = 0) (h1 : 0 ≤ t) (h2 : t ≤ 65536) (hk : ¬ x.k = true) : smp x t = ⟨8 * t, 2 * t, true, 0⟩ := by
  unfold smp; rw [if_pos ⟨hc, h1, h2⟩, if_neg hk]
theorem smp_same {x : S} {t : Int} (h : ¬ chk x = 0 ∨ (t < 0 ∨ 65536 < t)) : smp x t = x := by
  unfold smp; rw [if_neg (by rintro ⟨a, b, c⟩; rcases h with h | h; exact h a; omega)]

theorem sample_own (x : S) (t : Int) (w : World) :
    Calls Try.prog 16 #[.agg #[.int .i64 x.s, .int .i64 x.v, .bool x.k, .int .i64 x.h], .int .i64 t] w fun e w' => e = .returned (.agg #[.int .i64 (smp x t).s, .int .i64 (smp x t).v, .bool (smp x t).k, .int .i64 (smp x t).h]) ∧ Below w.heap.size w w' := by
  by_cases hc : chk x = 0
  · by_cases ht : 0 ≤ t ∧ t ≤ 65536
    · obtain ⟨t1, t2⟩ := ht
      have dt1 : decide (t < 0) = false := by simp; omega
      have dt2 : decide (65536 < t) = false := by simp; omega
      obtain ⟨h1, h2, h3, h4, h5, h6, -⟩ := chk_ok hc
      by_cases hk : x.k = true
      · rw [smp_yes hc t1 t2 hk]
        obtain ⟨s, v, k, q⟩ := x
        simp only [] at h1 h2 h3 h4 h5 h6 hk
        subst hk
        go_enter Try.func16, Try.ntmps16
        go_wp2_with (go_at_call 8; refine (check_own _ _ _ _ _).mono ?_; rintro e w1 ⟨rfl, rfl⟩)
        all_goals
          refine bodyPost_ret (v := .agg #[.int .i64 (max 0 (s + (t - s / 8))), .int .i64 (v + max (t - s / 8) (-(t - s / 8)) - v / 4), .bool true, .int .i64 0]) ?_ rfl ⟨rfl, by repeat (first | exact Below.refl _ _ | refine Below.alloc ?_ (by first | (simp; done) | (simp; omega)) _)⟩
          simp [results, Try.results16, go_sem]
          try omega
      · rw [smp_new hc t1 t2 hk]
        obtain ⟨s, v, k, q⟩ := x
        simp only [] at h1 h2 h3 h4 h5 h6 hk
        obtain rfl : k = false := by simpa using hk
        clear hk
        go_enter Try.func16, Try.ntmps16
        go_wp2_with (go_at_call 8; refine (check_own _ _ _ _ _).mono ?_; rintro e w1 ⟨rfl, rfl⟩)
        refine bodyPost_ret (v := .agg #[.int .i64 (8 * t), .int .i64 (2 * t), .bool true, .int .i64 0]) (by simp [results, Try.results16, go_sem]) rfl ⟨rfl, by repeat (first | exact Below.refl _ _ | refine Below.alloc ?_ (by first | (simp; done) | (simp; omega)) _)⟩
    · rw [smp_same (.inr (by omega))]
      obtain ⟨s, v, k, q⟩ := x
      by_cases h0 : t < 0
      · have dt1 : decide (t < 0) = true := by simp; omega
        go_enter Try.func16, Try.ntmps16
        go_wp2_with (go_at_call 8; refine (check_own _ _ _ _ _).mono ?_; rintro e w1 ⟨rfl, rfl⟩)
        refine bodyPost_ret (v := .agg #[.int .i64 s, .int .i64 v, .bool k, .int .i64 q]) (by simp [results, Try.results16, go_sem]) rfl ⟨rfl, by repeat (first | exact Below.refl _ _ | refine Below.alloc ?_ (by first | (simp; done) | (simp; omega)) _)⟩
      · have dt1 : decide (t < 0) = false := by simp; omega
        have dt2 : decide (65536 < t) = true := by simp; omega
        go_enter Try.func16, Try.ntmps16
        go_wp2_with (go_at_call 8; refine (check_own _ _ _ _ _).mono ?_; rintro e w1 ⟨rfl, rfl⟩)
        refine bodyPost_ret (v := .agg #[.int .i64 s, .int .i64 v, .bool k, .int .i64 q]) (by simp [results, Try.results16, go_sem]) rfl ⟨rfl, by repeat (first | exact Below.refl _ _ | refine Below.alloc ?_ (by first | (simp; done) | (simp; omega)) _)⟩
  · rw [smp_same (.inl hc)]
    obtain ⟨s, v, k, q⟩ := x
    have hb : (chk ⟨s, v, k, q⟩ != 0) = true := by simp [hc]
    go_enter Try.func16, Try.ntmps16
    go_wp2_with (go_at_call 8; refine (check_own _ _ _ _ _).mono ?_; rintro e w1 ⟨rfl, rfl⟩)
    refine bodyPost_ret (v := .agg #[.int .i64 s, .int .i64 v, .bool k, .int .i64 q]) (by simp [results, Try.results16, go_sem]) rfl ⟨rfl, by repeat (first | exact Below.refl _ _ | refine Below.alloc ?_ (by first | (simp; done) | (simp; omega)) _)⟩

theorem sample_ref (x : S) (t : Int) (w : World) :
    Calls Try.prog 17 #[.agg #[.int .i64 x.s, .int .i64 x.v, .bool x.k, .int .i64 x.h], .int .i64 t] w fun e w' => e = .returned (.agg #[.int .i64 (smp x t).s, .int .i64 (smp x t).v, .bool (smp x t).k, .int .i64 (smp x t).h]) ∧ Below w.heap.size w w' := by
  by_cases hc : chk x = 0
  · by_cases ht : 0 ≤ t ∧ t ≤ 65536
    · obtain ⟨t1, t2⟩ := ht
      have dt1 : decide (t < 0) = false := by simp; omega
      have dt2 : decide (65536 < t) = false := by simp; omega
      obtain ⟨h1, h2, h3, h4, h5, h6, -⟩ := chk_ok hc
      by_cases hk : x.k = true
      · rw [smp_yes hc t1 t2 hk]
        obtain ⟨s, v, k, q⟩ := x
        simp only [] at h1 h2 h3 h4 h5 h6 hk
        subst hk
        go_enter Try.func17, Try.ntmps17
        go_wp2_with (go_at_call 9; refine (check_ref _ _ _ _ _).mono ?_; rintro e w1 ⟨rfl, rfl⟩)
        all_goals
          refine bodyPost_ret (v := .agg #[.int .i64 (max 0 (s + (t - s / 8))), .int .i64 (v + max (t - s / 8) (-(t - s / 8)) - v / 4), .bool true, .int .i64 0]) ?_ rfl ⟨rfl, by repeat (first | exact Below.refl _ _ | refine Below.alloc ?_ (by first | (simp; done) | (simp; omega)) _)⟩
          simp [results, Try.results17, go_sem]
          try omega
      · rw [smp_new hc t1 t2 hk]
        obtain ⟨s, v, k, q⟩ := x
        simp only [] at h1 h2 h3 h4 h5 h6 hk
        obtain rfl : k = false := by simpa using hk
        clear hk
        go_enter Try.func17, Try.ntmps17
        go_wp2_with (go_at_call 9; refine (check_ref _ _ _ _ _).mono ?_; rintro e w1 ⟨rfl, rfl⟩)
        refine bodyPost_ret (v := .agg #[.int .i64 (8 * t), .int .i64 (2 * t), .bool true, .int .i64 0]) (by simp [results, Try.results17, go_sem]) rfl ⟨rfl, by repeat (first | exact Below.refl _ _ | refine Below.alloc ?_ (by first | (simp; done) | (simp; omega)) _)⟩
    · rw [smp_same (.inr (by omega))]
      obtain ⟨s, v, k, q⟩ := x
      by_cases h0 : t < 0
      · have dt1 : decide (t < 0) = true := by simp; omega
        go_enter Try.func17, Try.ntmps17
        go_wp2_with (go_at_call 9; refine (check_ref _ _ _ _ _).mono ?_; rintro e w1 ⟨rfl, rfl⟩)
        refine bodyPost_ret (v := .agg #[.int .i64 s, .int .i64 v, .bool k, .int .i64 q]) (by simp [results, Try.results17, go_sem]) rfl ⟨rfl, by repeat (first | exact Below.refl _ _ | refine Below.alloc ?_ (by first | (simp; done) | (simp; omega)) _)⟩
      · have dt1 : decide (t < 0) = false := by simp; omega
        have dt2 : decide (65536 < t) = true := by simp; omega
        go_enter Try.func17, Try.ntmps17
        go_wp2_with (go_at_call 9; refine (check_ref _ _ _ _ _).mono ?_; rintro e w1 ⟨rfl, rfl⟩)
        refine bodyPost_ret (v := .agg #[.int .i64 s, .int .i64 v, .bool k, .int .i64 q]) (by simp [results, Try.results17, go_sem]) rfl ⟨rfl, by repeat (first | exact Below.refl _ _ | refine Below.alloc ?_ (by first | (simp; done) | (simp; omega)) _)⟩
  · rw [smp_same (.inl hc)]
    obtain ⟨s, v, k, q⟩ := x
    have hb : (chk ⟨s, v, k, q⟩ != 0) = true := by simp [hc]
    go_enter Try.func17, Try.ntmps17
    go_wp2_with (go_at_call 9; refine (check_ref _ _ _ _ _).mono ?_; rintro e w1 ⟨rfl, rfl⟩)
    refine bodyPost_ret (v := .agg #[.int .i64 s, .int .i64 v, .bool k, .int .i64 q]) (by simp [results, Try.results17, go_sem]) rfl ⟨rfl, by repeat (first | exact Below.refl _ _ | refine Below.alloc ?_ (by first | (simp; done) | (simp; omega)) _)⟩

end Go.Proofs.Ytjkbhmlpmapobaa
