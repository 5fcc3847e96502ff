/-
  The walks of layer 10's functions: losses by the document's answer, what is free.
-/
import Derived.Test.YtaddflfihpdffaaW2
namespace Go.Proofs.Ytaddflfihpdffaa
open Go.RowKit

theorem expd_own (x : S) (w : World) : Calls Try.prog 19 #[.agg #[.int .i64 x.a, .int .i64 x.t, .int .i64 x.p]] w fun e w' => e = .returned (.agg #[.int .i64 (expd x).a, .int .i64 (expd x).t, .int .i64 (expd x).p]) ∧ Below w.heap.size w w' := by
  obtain ⟨a, t, p⟩ := x
  have hC : Calls Try.prog 25 #[.agg #[.int .i64 a, .int .i64 t, .int .i64 p], .func (.func 26) #[] #[], .func (.func 27) #[] #[]] ((w.alloc (.cells #[.int .i64 a, .int .i64 t, .int .i64 p] 26)).alloc (.cells #[.int .i64 0, .int .i64 0, .int .i64 0] 26)) fun e w' => e = .returned (.agg #[.int .i64 (expd ⟨a, t, p⟩).a, .int .i64 (expd ⟨a, t, p⟩).t, .int .i64 (expd ⟨a, t, p⟩).p]) ∧ Below ((w.alloc (.cells #[.int .i64 a, .int .i64 t, .int .i64 p] 26)).alloc (.cells #[.int .i64 0, .int .i64 0, .int .i64 0] 26)).heap.size ((w.alloc (.cells #[.int .i64 a, .int .i64 t, .int .i64 p] 26)).alloc (.cells #[.int .i64 0, .int .i64 0, .int .i64 0] 26)) w' := by
    by_cases hc : chk ⟨a, t, p⟩ = 0
    · rw [show expd ⟨a, t, p⟩ = ⟨48, hf ⟨a, t, p⟩, 0⟩ from if_pos hc]
      exact shrunk_least a t p _ hc
    · rw [show expd ⟨a, t, p⟩ = ⟨a, t, p⟩ from if_neg hc]
      exact shrunk_no a t p _ _ _ hc
  have HC := Lib.hid hC
  clear hC
  generalize expd ⟨a, t, p⟩ = y at *
  obtain ⟨ya, yt, yp⟩ := y
  go_enter Try.func19, Try.ntmps19
  go_wp2_with fail
  refine HC.out.mono ?_
  rintro e w1 ⟨rfl, hb⟩
  obtain ⟨hc1, hf1⟩ := bcell hb
  have hz : w.heap.size + 1 < w1.heap.size := by have := hb.size; simp at this; omega
  go_wp2
  refine bodyPost_ret (v := .agg #[.int .i64 ya, .int .i64 yt, .int .i64 yp]) (by simp [results, Try.results19, go_sem, hc1]) rfl ⟨rfl, ?_⟩
  refine below_layC (by simp) [.int .i64 ya, .int .i64 yt, .int .i64 yp] 0 ?_
  exact (((Below.refl _ _).alloc (Nat.le_refl _) _).alloc (by simp) _).trans (hb.mono (by simp; omega))

theorem lost_ref (x : S) (w : World) : Calls Try.prog 18 #[.agg #[.int .i64 x.a, .int .i64 x.t, .int .i64 x.p]] w fun e w' => e = .returned (.agg #[.int .i64 (lost x).a, .int .i64 (lost x).t, .int .i64 (lost x).p]) ∧ Below w.heap.size w w' := by
  obtain ⟨a, t, p⟩ := x
  by_cases hc : chk ⟨a, t, p⟩ = 0
  · obtain ⟨b1, b2, b3, b4, b5, b6⟩ := chk_ok hc
    simp only [] at b1 b2 b3 b4 b5 b6
    rw [show lost ⟨a, t, p⟩ = ⟨max (a / 2) 96, max (a / 2) 96, 0⟩ from if_pos hc]
    have hb : (chk ⟨a, t, p⟩ != 0) = false := by simp [hc]
    go_enter Try.func18, Try.ntmps18
    go_wp2_with (go_at_call 9; refine (check_ref _ _ _ _).mono ?_; rintro e w1 ⟨rfl, rfl⟩)
    all_goals
      refine bodyPost_ret (v := .agg #[.int .i64 (max (a / 2) 96), .int .i64 (max (a / 2) 96), .int .i64 0]) ?_ rfl ⟨rfl, by repeat (first | exact Below.refl _ _ | refine Below.drew ?_ | refine Below.setCell ?_ (by first | (simp; done) | (simp; omega)) _ | refine Below.alloc ?_ (by first | (simp; done) | (simp; omega)) _)⟩
      simp [results, Try.results18, go_sem]
      try omega
  · rw [show lost ⟨a, t, p⟩ = ⟨a, t, p⟩ from if_neg hc]
    have hb : (chk ⟨a, t, p⟩ != 0) = true := by simp [hc]
    go_enter Try.func18, Try.ntmps18
    go_wp2_with (go_at_call 9; refine (check_ref _ _ _ _).mono ?_; rintro e w1 ⟨rfl, rfl⟩)
    refine bodyPost_ret (v := .agg #[.int .i64 a, .int .i64 t, .int .i64 p]) (by simp [results, Try.results18, go_sem]) rfl ⟨rfl, by repeat (first | exact Below.refl _ _ | refine Below.alloc ?_ (by first | (simp; done) | (simp; omega)) _)⟩
theorem expd_ref (x : S) (w : World) : Calls Try.prog 20 #[.agg #[.int .i64 x.a, .int .i64 x.t, .int .i64 x.p]] w fun e w' => e = .returned (.agg #[.int .i64 (expd x).a, .int .i64 (expd x).t, .int .i64 (expd x).p]) ∧ Below w.heap.size w w' := by
  obtain ⟨a, t, p⟩ := x
  by_cases hc : chk ⟨a, t, p⟩ = 0
  · obtain ⟨b1, b2, b3, b4, b5, b6⟩ := chk_ok hc
    simp only [] at b1 b2 b3 b4 b5 b6
    rw [show expd ⟨a, t, p⟩ = ⟨48, max (a / 2) 96, 0⟩ from if_pos hc]
    have hb : (chk ⟨a, t, p⟩ != 0) = false := by simp [hc]
    go_enter Try.func20, Try.ntmps20
    go_wp2_with (go_at_call 9; refine (check_ref _ _ _ _).mono ?_; rintro e w1 ⟨rfl, rfl⟩)
    all_goals
      refine bodyPost_ret (v := .agg #[.int .i64 48, .int .i64 (max (a / 2) 96), .int .i64 0]) ?_ rfl ⟨rfl, by repeat (first | exact Below.refl _ _ | refine Below.drew ?_ | refine Below.setCell ?_ (by first | (simp; done) | (simp; omega)) _ | refine Below.alloc ?_ (by first | (simp; done) | (simp; omega)) _)⟩
      simp [results, Try.results20, go_sem]
      try omega
  · rw [show expd ⟨a, t, p⟩ = ⟨a, t, p⟩ from if_neg hc]
    have hb : (chk ⟨a, t, p⟩ != 0) = true := by simp [hc]
    go_enter Try.func20, Try.ntmps20
    go_wp2_with (go_at_call 9; refine (check_ref _ _ _ _).mono ?_; rintro e w1 ⟨rfl, rfl⟩)
    refine bodyPost_ret (v := .agg #[.int .i64 a, .int .i64 t, .int .i64 p]) (by simp [results, Try.results20, go_sem]) rfl ⟨rfl, by repeat (first | exact Below.refl _ _ | refine Below.alloc ?_ (by first | (simp; done) | (simp; omega)) _)⟩

theorem free_own (x : S) (f : Int) (w : World) (hf : (Lit.int .i64 f).wf = true) : Calls Try.prog 10 #[.agg #[.int .i64 x.a, .int .i64 x.t, .int .i64 x.p], .int .i64 f] w fun e w' => e = .returned (.int .i64 (fre x f)) ∧ Below w.heap.size w w' := by
  obtain ⟨a, t, p⟩ := x
  obtain ⟨f1, f2⟩ := wf_i64 hf
  clear hf
  by_cases hc : chk ⟨a, t, p⟩ = 0
  · obtain ⟨b1, b2, b3, b4, b5, b6⟩ := chk_ok hc
    simp only [] at b1 b2 b3 b4 b5 b6
    rw [show fre ⟨a, t, p⟩ f = max (a - max f 0) 0 from if_pos hc]
    have hb : (chk ⟨a, t, p⟩ != 0) = false := by simp [hc]
    go_enter Try.func10, Try.ntmps10
    go_wp2_with (go_at_call 8; refine (check_own _ _ _ _).mono ?_; rintro e w1 ⟨rfl, rfl⟩)
    all_goals go_ret
    all_goals exact ⟨ret_int (by omega), by repeat (first | exact Below.refl _ _ | refine Below.alloc ?_ (by first | (simp; done) | (simp; omega)) _)⟩
  · rw [show fre ⟨a, t, p⟩ f = 0 from if_neg hc]
    have hb : (chk ⟨a, t, p⟩ != 0) = true := by simp [hc]
    go_enter Try.func10, Try.ntmps10
    go_wp2_with (go_at_call 8; refine (check_own _ _ _ _).mono ?_; rintro e w1 ⟨rfl, rfl⟩)
    all_goals go_ret
    exact ⟨rfl, by repeat (first | exact Below.refl _ _ | refine Below.alloc ?_ (by first | (simp; done) | (simp; omega)) _)⟩
theorem free_ref (x : S) (f : Int) (w : World) (hf : (Lit.int .i64 f).wf = true) : Calls Try.prog 11 #[.agg #[.int .i64 x.a, .int .i64 x.t, .int .i64 x.p], .int .i64 f] w fun e w' => e = .returned (.int .i64 (fre x f)) ∧ Below w.heap.size w w' := by
  obtain ⟨a, t, p⟩ := x
  obtain ⟨f1, f2⟩ := wf_i64 hf
  clear hf
  by_cases hc : chk ⟨a, t, p⟩ = 0
  · obtain ⟨b1, b2, b3, b4, b5, b6⟩ := chk_ok hc
    simp only [] at b1 b2 b3 b4 b5 b6
    rw [show fre ⟨a, t, p⟩ f = max (a - max f 0) 0 from if_pos hc]
    have hb : (chk ⟨a, t, p⟩ != 0) = false := by simp [hc]
    go_enter Try.func11, Try.ntmps11
    go_wp2_with (go_at_call 9; refine (check_ref _ _ _ _).mono ?_; rintro e w1 ⟨rfl, rfl⟩)
    all_goals go_ret
    all_goals exact ⟨ret_int (by omega), by repeat (first | exact Below.refl _ _ | refine Below.alloc ?_ (by first | (simp; done) | (simp; omega)) _)⟩
  · rw [show fre ⟨a, t, p⟩ f = 0 from if_neg hc]
    have hb : (chk ⟨a, t, p⟩ != 0) = true := by simp [hc]
    go_enter Try.func11, Try.ntmps11
    go_wp2_with (go_at_call 9; refine (check_ref _ _ _ _).mono ?_; rintro e w1 ⟨rfl, rfl⟩)
    all_goals go_ret
    exact ⟨rfl, by repeat (first | exact Below.refl _ _ | refine Below.alloc ?_ (by first | (simp; done) | (simp; omega)) _)⟩
end Go.Proofs.Ytaddflfihpdffaa
