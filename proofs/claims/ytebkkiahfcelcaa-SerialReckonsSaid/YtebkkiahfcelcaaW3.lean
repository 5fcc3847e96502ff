/-
  The walk of what every right program reckons, and of SerialReckons and SerialBack.
-/
import Derived.Test.YtebkkiahfcelcaaW2
namespace Go.Proofs.Ytebkkiahfcelcaa
open Go.RowKit

theorem awake_true (w : World) : Calls Try.prog 15 #[] w fun e w' => e = .returned (.bool true) ∧ Below w.heap.size w w' := by
  have s1 : sd 2 4294967295 = 3 := by decide
  have s2 : sd 2147483648 0 = -2147483648 := by decide
  have s3 : decide (sd 4294967295 2 < 0) = true := by decide
  have s4 : decide (sd 2 2 < 0) = false := by decide
  have l1 : lng 4294967301 4294967295 = 4294967295 := by decide
  have l2 : lng 7 4294967295 = 4294967295 := by decide
  have m1 : ltst 3 [5, 4294967287, 9] 3 = 9 := by decide
  go_enter Try.func15, Try.ntmps15
  go_wp2_with (first
    | (go_at_call 7; refine (add_own _ _ _).mono ?_; rintro e w' ⟨rfl, rfl⟩)
    | (go_at_call 9; refine (diff_own _ _ _).mono ?_; rintro e w' ⟨rfl, rfl⟩)
    | (go_at_call 11; refine (less_own _ _ _).mono ?_; rintro e w' ⟨rfl, rfl⟩)
    | (go_at_call 13; refine (in_own _ _ _ _).mono ?_; rintro e w' ⟨rfl, rfl⟩)
    | (go_at_call 18; refine (short_own _ _).mono ?_; rintro e w' ⟨rfl, rfl⟩))
  refine (long_own _ _ _).mono ?_
  rintro e w1 ⟨rfl, hb1⟩
  go_wp2_with fail
  refine (long_own _ _ _).mono ?_
  rintro e w2 ⟨rfl, hb2⟩
  go_wp2_with (first
    | (go_at_call 13; refine (in_own _ _ _ _).mono ?_; rintro e w' ⟨rfl, rfl⟩)
    | (go_at_call 18; refine (short_own _ _).mono ?_; rintro e w' ⟨rfl, rfl⟩))
  refine (latest_own _ _ _ [5, 4294967287, 9] _ (by unfold U; omega) _ ?_ (by omega)).mono ?_
  · refine ⟨rfl, Nat.le_refl _, by simp [maxLen], by decide, .inr ⟨_, _, rfl, by simp, fun i hi => ?_⟩⟩
    match i, hi with
    | 0, _ => simp [World.cell?_alloc_new]
    | 1, _ => simp [World.cell?_alloc_new]
    | 2, _ => simp [World.cell?_alloc_new]
  · rintro e w3 ⟨rfl, hb3⟩
    go_wp2
    go_ret
    have b1 : Below w.heap.size w w2 := hb1.trans (hb2.mono hb1.size)
    exact ⟨rfl, (b1.alloc b1.size _).trans (hb3.mono (by have := b1.size; simp; omega))⟩

theorem reckons (a b n : Int) (ha : U a) (hb : U b) (w : World) : Calls Try.prog 3 #[.int .u32 a, .int .u32 b, .int .i64 n] w fun e w' => e = .returned (.bool true) ∧ Below w.heap.size w w' := by
  go_enter Try.func3, Try.ntmps3
  go_wp2_with (first
    | (go_at_call 7; refine (add_own _ _ _).mono ?_; rintro e w' ⟨rfl, rfl⟩)
    | (go_at_call 8; refine (add_ref _ _ ha _).mono ?_; rintro e w' ⟨rfl, rfl⟩)
    | (go_at_call 9; refine (diff_own _ _ _).mono ?_; rintro e w' ⟨rfl, rfl⟩)
    | (go_at_call 10; refine (diff_ref _ _ ha hb _).mono ?_; rintro e w' ⟨rfl, rfl⟩)
    | (go_at_call 11; refine (less_own _ _ _).mono ?_; rintro e w' ⟨rfl, rfl⟩)
    | (go_at_call 12; refine (less_ref _ _ ha hb _).mono ?_; rintro e w' ⟨rfl, rfl⟩)
    | (go_at_call 13; refine (in_own _ _ _ _).mono ?_; rintro e w' ⟨rfl, rfl⟩)
    | (go_at_call 14; refine (in_ref _ _ _ ha hb _).mono ?_; rintro e w' ⟨rfl, rfl⟩)
    | (go_at_call 15; refine (awake_true _).mono ?_; rintro e w' ⟨rfl, hb⟩))
  all_goals go_ret
  all_goals exact ⟨rfl, by assumption⟩

end Go.Proofs.Ytebkkiahfcelcaa
