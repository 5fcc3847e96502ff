/-
  The walks of layer 21's functions: what is free, goes, comes, is read, is granted.
-/
import Derived.Test.YtdonkkcdjbjkeaaW1
namespace Go.Proofs.Ytdonkkcdjbjkeaa
open Go.RowKit

theorem free_own (a b c d : Int) (w : World) : Calls Try.prog 13 #[.agg #[.int .i64 a, .int .i64 b, .int .i64 c, .int .i64 d]] w fun e w' => e = .returned (.int .i64 (fre ⟨a, b, c, d⟩)) ∧ (w.alloc (.cells #[.int .i64 a, .int .i64 b, .int .i64 c, .int .i64 d] 26)).alloc (.cells #[.int .i64 a, .int .i64 b, .int .i64 c, .int .i64 d] 26) = w' := by
  by_cases hc : chk ⟨a, b, c, d⟩ = 0
  · obtain ⟨b1, b2, b3, b4, b5, b6, b7, b8⟩ := chk_ok hc
    simp only [] at b1 b2 b3 b4 b5 b6 b7 b8
    have hb : (chk ⟨a, b, c, d⟩ != 0) = false := by simp [hc]
    rw [show fre ⟨a, b, c, d⟩ = b - c from if_pos hc]
    go_enter Try.func13, Try.ntmps13
    go_wp2_with (go_at_call 15; refine (check_own _ _ _ _ _).mono ?_; rintro e w1 ⟨rfl, rfl⟩)
    go_ret
    exact ⟨rfl, rfl⟩
  · have hb : (chk ⟨a, b, c, d⟩ != 0) = true := by simp [hc]
    rw [show fre ⟨a, b, c, d⟩ = 0 from if_neg hc]
    go_enter Try.func13, Try.ntmps13
    go_wp2_with (go_at_call 15; refine (check_own _ _ _ _ _).mono ?_; rintro e w1 ⟨rfl, rfl⟩)
    go_ret
    exact ⟨rfl, rfl⟩
theorem free_ref (a b c d : Int) (w : World) : Calls Try.prog 14 #[.agg #[.int .i64 a, .int .i64 b, .int .i64 c, .int .i64 d]] w fun e w' => e = .returned (.int .i64 (fre ⟨a, b, c, d⟩)) ∧ (w.alloc (.cells #[.int .i64 a, .int .i64 b, .int .i64 c, .int .i64 d] 23)).alloc (.cells #[.int .i64 a, .int .i64 b, .int .i64 c, .int .i64 d] 23) = w' := by
  by_cases hc : chk ⟨a, b, c, d⟩ = 0
  · obtain ⟨b1, b2, b3, b4, b5, b6, b7, b8⟩ := chk_ok hc
    simp only [] at b1 b2 b3 b4 b5 b6 b7 b8
    have hb : (chk ⟨a, b, c, d⟩ != 0) = false := by simp [hc]
    rw [show fre ⟨a, b, c, d⟩ = b - c from if_pos hc]
    go_enter Try.func14, Try.ntmps14
    go_wp2_with (go_at_call 16; refine (check_ref _ _ _ _ _).mono ?_; rintro e w1 ⟨rfl, rfl⟩)
    go_ret
    exact ⟨rfl, rfl⟩
  · have hb : (chk ⟨a, b, c, d⟩ != 0) = true := by simp [hc]
    rw [show fre ⟨a, b, c, d⟩ = 0 from if_neg hc]
    go_enter Try.func14, Try.ntmps14
    go_wp2_with (go_at_call 16; refine (check_ref _ _ _ _ _).mono ?_; rintro e w1 ⟨rfl, rfl⟩)
    go_ret
    exact ⟨rfl, rfl⟩
theorem fre_yes {g : G} (hc : chk g = 0) : fre g = g.l - g.u := if_pos hc
theorem fre_no {g : G} (hc : ¬ chk g = 0) : fre g = 0 := if_neg hc
set_option maxHeartbeats 1000000 in
theorem spend_own (g : G) (n : Int) (w : World) :
    Calls Try.prog 17 #[.agg #[.int .i64 g.w, .int .i64 g.l, .int .i64 g.u, .int .i64 g.r], .int .i64 n] w fun e w' => e = .returned (.tuple #[.agg #[.int .i64 (spend g n).1.w, .int .i64 (spend g n).1.l, .int .i64 (spend g n).1.u, .int .i64 (spend g n).1.r], .bool (spend g n).2]) ∧ Below w.heap.size w w' := by
  obtain ⟨a, b, c, d⟩ := g
  obtain ⟨x, hx⟩ : ∃ x, x = spend ⟨a, b, c, d⟩ n := ⟨_, rfl⟩
  rw [← hx]
  have HX := Lib.hid hx
  clear hx
  by_cases hc : chk ⟨a, b, c, d⟩ = 0
  · obtain ⟨b1, b2, b3, b4, b5, b6, b7, b8⟩ := chk_ok hc
    simp only [] at b1 b2 b3 b4 b5 b6 b7 b8
    have hb : (chk ⟨a, b, c, d⟩ != 0) = false := by simp [hc]
    have hb' : (chk ⟨a, b, c, d⟩ == 0) = true := by simp [hc]
    have HC := Lib.hid hc
    clear hc
    go_enter Try.func17, Try.ntmps17
    go_wp2_with (first | (go_at_call 15; refine (check_own _ _ _ _ _).mono ?_; rintro e w1 ⟨rfl, rfl⟩) | (go_at_call 13; refine (free_own _ _ _ _ _).mono ?_; (first | rw [fre_yes HC.out] | rw [fre_no HC.out]); rintro e w1 ⟨rfl, rfl⟩))
    all_goals
      have hx := HX.out
      have hc := HC.out
      unfold spend at hx
      simp only [] at hx
      first
        | rw [if_pos (by first | exact hc | (refine ⟨hc, ?_⟩; omega))] at hx
        | rw [if_neg (by omega)] at hx
      subst hx
      refine bodyPost_ret ?_ rfl ⟨rfl, by repeat (first | exact Below.refl _ _ | refine Below.setCell ?_ (by first | (simp; done) | (simp; omega)) _ | refine Below.alloc ?_ (by first | (simp; done) | (simp; omega)) _)⟩
      simp [results, Try.results17, go_sem]
      try omega
  · have hb : (chk ⟨a, b, c, d⟩ != 0) = true := by simp [hc]
    have hb' : (chk ⟨a, b, c, d⟩ == 0) = false := by simp [hc]
    have HC := Lib.hid hc
    clear hc
    go_enter Try.func17, Try.ntmps17
    go_wp2_with (first | (go_at_call 15; refine (check_own _ _ _ _ _).mono ?_; rintro e w1 ⟨rfl, rfl⟩) | (go_at_call 13; refine (free_own _ _ _ _ _).mono ?_; (first | rw [fre_yes HC.out] | rw [fre_no HC.out]); rintro e w1 ⟨rfl, rfl⟩))
    all_goals
      have hx := HX.out
      have hc := HC.out
      unfold spend at hx
      rw [if_neg (by omega)] at hx
      subst hx
      refine bodyPost_ret ?_ rfl ⟨rfl, by repeat (first | exact Below.refl _ _ | refine Below.setCell ?_ (by first | (simp; done) | (simp; omega)) _ | refine Below.alloc ?_ (by first | (simp; done) | (simp; omega)) _)⟩
      simp [results, Try.results17, go_sem]
      try omega
set_option maxHeartbeats 1000000 in
theorem spend_ref (g : G) (n : Int) (w : World) :
    Calls Try.prog 18 #[.agg #[.int .i64 g.w, .int .i64 g.l, .int .i64 g.u, .int .i64 g.r], .int .i64 n] w fun e w' => e = .returned (.tuple #[.agg #[.int .i64 (spend g n).1.w, .int .i64 (spend g n).1.l, .int .i64 (spend g n).1.u, .int .i64 (spend g n).1.r], .bool (spend g n).2]) ∧ Below w.heap.size w w' := by
  obtain ⟨a, b, c, d⟩ := g
  obtain ⟨x, hx⟩ : ∃ x, x = spend ⟨a, b, c, d⟩ n := ⟨_, rfl⟩
  rw [← hx]
  have HX := Lib.hid hx
  clear hx
  by_cases hc : chk ⟨a, b, c, d⟩ = 0
  · obtain ⟨b1, b2, b3, b4, b5, b6, b7, b8⟩ := chk_ok hc
    simp only [] at b1 b2 b3 b4 b5 b6 b7 b8
    have hb : (chk ⟨a, b, c, d⟩ != 0) = false := by simp [hc]
    have hb' : (chk ⟨a, b, c, d⟩ == 0) = true := by simp [hc]
    have HC := Lib.hid hc
    clear hc
    go_enter Try.func18, Try.ntmps18
    go_wp2_with (first | (go_at_call 16; refine (check_ref _ _ _ _ _).mono ?_; rintro e w1 ⟨rfl, rfl⟩) | (go_at_call 14; refine (free_ref _ _ _ _ _).mono ?_; (first | rw [fre_yes HC.out] | rw [fre_no HC.out]); rintro e w1 ⟨rfl, rfl⟩))
    all_goals
      have hx := HX.out
      have hc := HC.out
      unfold spend at hx
      simp only [] at hx
      first
        | rw [if_pos (by first | exact hc | (refine ⟨hc, ?_⟩; omega))] at hx
        | rw [if_neg (by omega)] at hx
      subst hx
      refine bodyPost_ret ?_ rfl ⟨rfl, by repeat (first | exact Below.refl _ _ | refine Below.setCell ?_ (by first | (simp; done) | (simp; omega)) _ | refine Below.alloc ?_ (by first | (simp; done) | (simp; omega)) _)⟩
      simp [results, Try.results18, go_sem]
      try omega
  · have hb : (chk ⟨a, b, c, d⟩ != 0) = true := by simp [hc]
    have hb' : (chk ⟨a, b, c, d⟩ == 0) = false := by simp [hc]
    have HC := Lib.hid hc
    clear hc
    go_enter Try.func18, Try.ntmps18
    go_wp2_with (first | (go_at_call 16; refine (check_ref _ _ _ _ _).mono ?_; rintro e w1 ⟨rfl, rfl⟩) | (go_at_call 14; refine (free_ref _ _ _ _ _).mono ?_; (first | rw [fre_yes HC.out] | rw [fre_no HC.out]); rintro e w1 ⟨rfl, rfl⟩))
    all_goals
      have hx := HX.out
      have hc := HC.out
      unfold spend at hx
      rw [if_neg (by omega)] at hx
      subst hx
      refine bodyPost_ret ?_ rfl ⟨rfl, by repeat (first | exact Below.refl _ _ | refine Below.setCell ?_ (by first | (simp; done) | (simp; omega)) _ | refine Below.alloc ?_ (by first | (simp; done) | (simp; omega)) _)⟩
      simp [results, Try.results18, go_sem]
      try omega

end Go.Proofs.Ytdonkkcdjbjkeaa
