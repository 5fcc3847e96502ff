/-
  The walks of layer 10's functions: losses, waits that went by, what is free.
-/
import Derived.Test.YtaddflfihpdffaaW1
import Derived.Deep.RegionWith
import Derived.Deep.RegionHeld3
namespace Go.Proofs.Ytaddflfihpdffaa
open Go.RowKit

def hf (x : S) : Int := max (x.a / 2) 96
def lost (x : S) : S := if chk x = 0 then ⟨hf x, hf x, 0⟩ else x
def expd (x : S) : S := if chk x = 0 then ⟨48, hf x, 0⟩ else x
def fre (x : S) (f : Int) : Int := if chk x = 0 then max (x.a - max f 0) 0 else 0

theorem half_own (a t p : Int) (w : World) (h : 0 ≤ a) (h' : a ≤ 4096) : Calls Try.prog 26 #[.agg #[.int .i64 a, .int .i64 t, .int .i64 p]] w fun e w' => e = .returned (.int .i64 (max (a / 2) 96)) ∧ w.alloc (.cells #[.int .i64 a, .int .i64 t, .int .i64 p] 26) = w' := by
  go_enter Try.func26, Try.ntmps26
  go_wp2
  all_goals go_ret
  all_goals exact ⟨ret_int (by omega), rfl⟩
theorem least_own (a t p : Int) (w : World) : Calls Try.prog 27 #[.agg #[.int .i64 a, .int .i64 t, .int .i64 p]] w fun e w' => e = .returned (.int .i64 48) ∧ w.alloc (.cells #[.int .i64 a, .int .i64 t, .int .i64 p] 26) = w' := by
  go_enter Try.func27, Try.ntmps27
  go_wp2
  all_goals go_ret
  all_goals exact ⟨ret_int (by omega), rfl⟩

theorem new_own (w : World) : Calls Try.prog 21 #[] w fun e w' => e = .returned (.agg #[.int .i64 96, .int .i64 1024, .int .i64 0]) ∧ Below w.heap.size w w' := by
  go_enter Try.func21, Try.ntmps21
  go_wp2
  exact bodyPost_ret (v := .agg #[.int .i64 96, .int .i64 1024, .int .i64 0]) (by simp [results, Try.results21, go_sem]) rfl ⟨rfl, by repeat (first | exact Below.refl _ _ | refine Below.alloc ?_ (by first | (simp; done) | (simp; omega)) _)⟩
theorem new_ref (w : World) : Calls Try.prog 22 #[] w fun e w' => e = .returned (.agg #[.int .i64 96, .int .i64 1024, .int .i64 0]) ∧ Below w.heap.size w w' := by
  go_enter Try.func22, Try.ntmps22
  go_wp2
  exact bodyPost_ret (v := .agg #[.int .i64 96, .int .i64 1024, .int .i64 0]) (by simp [results, Try.results22, go_sem]) rfl ⟨rfl, by repeat (first | exact Below.refl _ _ | refine Below.alloc ?_ (by first | (simp; done) | (simp; omega)) _)⟩

theorem shrunk_no (a t p : Int) (F G : Value) (w : World) (hc : ¬ chk ⟨a, t, p⟩ = 0) : Calls Try.prog 25 #[.agg #[.int .i64 a, .int .i64 t, .int .i64 p], F, G] w fun e w' => e = .returned (.agg #[.int .i64 a, .int .i64 t, .int .i64 p]) ∧ Below w.heap.size w w' := by
  have hb : (chk ⟨a, t, p⟩ != 0) = true := by simp [hc]
  go_enter Try.func25, Try.ntmps25
  go_wp2_with (go_at_call 8; refine (check_own _ _ _ _).mono ?_; rintro e w1 ⟨rfl, rfl⟩)
  refine bodyPost_ret (v := .agg #[.int .i64 a, .int .i64 t, .int .i64 p]) (by simp [results, Try.results25, go_sem]) rfl ⟨rfl, by repeat (first | exact Below.refl _ _ | refine Below.alloc ?_ (by first | (simp; done) | (simp; omega)) _)⟩
theorem shrunk_half (a t p : Int) (w : World) (hc : chk ⟨a, t, p⟩ = 0) : Calls Try.prog 25 #[.agg #[.int .i64 a, .int .i64 t, .int .i64 p], .func (.func 26) #[] #[], .func (.func 26) #[] #[]] w fun e w' => e = .returned (.agg #[.int .i64 (max (a / 2) 96), .int .i64 (max (a / 2) 96), .int .i64 0]) ∧ Below w.heap.size w w' := by
  obtain ⟨b1, b2, b3, b4, b5, b6⟩ := chk_ok hc
  simp only [] at b1 b2 b3 b4 b5 b6
  have hb : (chk ⟨a, t, p⟩ != 0) = false := by simp [hc]
  go_enter Try.func25, Try.ntmps25
  go_wp2_with (go_at_call 8; refine (check_own _ _ _ _).mono ?_; rintro e w1 ⟨rfl, rfl⟩)
  go_region_held3 (fun w' => w'.cell? ⟨w.heap.size, 0, none⟩ = some (.int .i64 a) ∧ w'.cell? ⟨w.heap.size, 1, none⟩ = some (.int .i64 t) ∧ w'.cell? ⟨w.heap.size, 2, none⟩ = some (.int .i64 p)) ((refine ⟨?_, ?_, ?_⟩ <;> simp [go_sem])) ((go_at_call 26; refine (half_own _ _ _ _ (by omega) (by omega)).mono ?_; rintro e w2 ⟨rfl, rfl⟩))
  all_goals go_wp2
  all_goals refine bodyPost_ret (v := .agg #[.int .i64 (max (a / 2) 96), .int .i64 (max (a / 2) 96), .int .i64 0]) (by simp [results, Try.results25, go_sem]) rfl ⟨rfl, by repeat (first | exact Below.refl _ _ | refine Below.drew ?_ | refine Below.setCell ?_ (by first | (simp; done) | (simp; omega)) _ | refine Below.alloc ?_ (by first | (simp; done) | (simp; omega)) _)⟩
theorem shrunk_least (a t p : Int) (w : World) (hc : chk ⟨a, t, p⟩ = 0) : Calls Try.prog 25 #[.agg #[.int .i64 a, .int .i64 t, .int .i64 p], .func (.func 26) #[] #[], .func (.func 27) #[] #[]] w fun e w' => e = .returned (.agg #[.int .i64 48, .int .i64 (max (a / 2) 96), .int .i64 0]) ∧ Below w.heap.size w w' := by
  obtain ⟨b1, b2, b3, b4, b5, b6⟩ := chk_ok hc
  simp only [] at b1 b2 b3 b4 b5 b6
  have hb : (chk ⟨a, t, p⟩ != 0) = false := by simp [hc]
  go_enter Try.func25, Try.ntmps25
  go_wp2_with (go_at_call 8; refine (check_own _ _ _ _).mono ?_; rintro e w1 ⟨rfl, rfl⟩)
  go_region_held3 (fun w' => w'.cell? ⟨w.heap.size, 0, none⟩ = some (.int .i64 a) ∧ w'.cell? ⟨w.heap.size, 1, none⟩ = some (.int .i64 t) ∧ w'.cell? ⟨w.heap.size, 2, none⟩ = some (.int .i64 p)) ((refine ⟨?_, ?_, ?_⟩ <;> simp [go_sem])) (first
    | (go_at_call 26; refine (half_own _ _ _ _ (by omega) (by omega)).mono ?_; rintro e w2 ⟨rfl, rfl⟩)
    | (go_at_call 27; refine (least_own _ _ _ _).mono ?_; rintro e w2 ⟨rfl, rfl⟩))
  all_goals go_wp2
  all_goals refine bodyPost_ret (v := .agg #[.int .i64 48, .int .i64 (max (a / 2) 96), .int .i64 0]) (by simp [results, Try.results25, go_sem]) rfl ⟨rfl, by repeat (first | exact Below.refl _ _ | refine Below.drew ?_ | refine Below.setCell ?_ (by first | (simp; done) | (simp; omega)) _ | refine Below.alloc ?_ (by first | (simp; done) | (simp; omega)) _)⟩

theorem lost_own (x : S) (w : World) : Calls Try.prog 17 #[.agg #[.int .i64 x.a, .int .i64 x.t, .int .i64 x.p]] w fun e w' => e = .returned (.agg #[.int .i64 (lost x).a, .int .i64 (lost x).t, .int .i64 (lost x).p]) ∧ Below w.heap.size w w' := by
  obtain ⟨a, t, p⟩ := x
  have hC : Calls Try.prog 25 #[.agg #[.int .i64 a, .int .i64 t, .int .i64 p], .func (.func 26) #[] #[], .func (.func 26) #[] #[]] ((w.alloc (.cells #[.int .i64 a, .int .i64 t, .int .i64 p] 26)).alloc (.cells #[.int .i64 0, .int .i64 0, .int .i64 0] 26)) fun e w' => e = .returned (.agg #[.int .i64 (lost ⟨a, t, p⟩).a, .int .i64 (lost ⟨a, t, p⟩).t, .int .i64 (lost ⟨a, t, p⟩).p]) ∧ Below ((w.alloc (.cells #[.int .i64 a, .int .i64 t, .int .i64 p] 26)).alloc (.cells #[.int .i64 0, .int .i64 0, .int .i64 0] 26)).heap.size ((w.alloc (.cells #[.int .i64 a, .int .i64 t, .int .i64 p] 26)).alloc (.cells #[.int .i64 0, .int .i64 0, .int .i64 0] 26)) w' := by
    by_cases hc : chk ⟨a, t, p⟩ = 0
    · rw [show lost ⟨a, t, p⟩ = ⟨hf ⟨a, t, p⟩, hf ⟨a, t, p⟩, 0⟩ from if_pos hc]
      exact shrunk_half a t p _ hc
    · rw [show lost ⟨a, t, p⟩ = ⟨a, t, p⟩ from if_neg hc]
      exact shrunk_no a t p _ _ _ hc
  have HC := Lib.hid hC
  clear hC
  generalize lost ⟨a, t, p⟩ = y at *
  obtain ⟨ya, yt, yp⟩ := y
  go_enter Try.func17, Try.ntmps17
  go_wp2_with fail
  refine HC.out.mono ?_
  rintro e w1 ⟨rfl, hb⟩
  obtain ⟨hc1, hf1⟩ := bcell hb
  have hz : w.heap.size + 1 < w1.heap.size := by have := hb.size; simp at this; omega
  go_wp2
  refine bodyPost_ret (v := .agg #[.int .i64 ya, .int .i64 yt, .int .i64 yp]) (by simp [results, Try.results17, go_sem, hc1]) rfl ⟨rfl, ?_⟩
  refine below_layC (by simp) [.int .i64 ya, .int .i64 yt, .int .i64 yp] 0 ?_
  exact (((Below.refl _ _).alloc (Nat.le_refl _) _).alloc (by simp) _).trans (hb.mono (by simp; omega))
end Go.Proofs.Ytaddflfihpdffaa
