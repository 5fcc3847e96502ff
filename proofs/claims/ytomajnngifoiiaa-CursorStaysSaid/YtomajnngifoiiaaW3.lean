/-
  The walks of layer 1's functions: whether all was read; a number.
-/
import Derived.Test.YtomajnngifoiiaaW2
import Derived.Laws.BitsAllLaws
namespace Go.Proofs.Ytomajnngifoiiaa
open Go.RowKit

/-- Whether all was read. -/
def dn (c : C) : Int := if c.b ≠ 0 then c.b else if wi c.d c.p = false then 8 else if 0 < lft c then 4 else 0

theorem done_own (d : ByteArray) (p b : Int) (hd : d.size ≤ maxLen) (w : World) : Calls Try.prog 18 #[.agg #[.string d, .int .i64 p, .int .i64 b]] w fun e w' => e = .returned (.int .i64 (dn ⟨d, p, b⟩)) ∧ Below w.heap.size w w' := by
  by_cases hb : b = 0
  · subst hb
    by_cases hw : wi d p = true
    · have he : dn ⟨d, p, 0⟩ = if 0 < lft ⟨d, p, 0⟩ then 4 else 0 := by simp [dn, hw]
      rw [he]
      clear he
      by_cases hl : 0 < lft ⟨d, p, 0⟩
      all_goals
        simp only [hl, if_true, if_false]
        go_enter Try.func18, Try.ntmps18
        go_wp2_with (first
          | (go_at_call 28; refine (within_own _ _ _ _).mono ?_; rintro e w1 ⟨rfl, rfl⟩)
          | (go_at_call 16; refine (left_own d p 0 hd _).mono ?_; rintro e w1 ⟨rfl, hb1⟩))
        go_ret
        exact ⟨rfl, ((((Below.refl _ w).alloc (Nat.le_refl _) _).alloc (by simp) _)).trans (hb1.mono (by first | (simp; done) | (simp; omega)))⟩
    · have hw' : wi d p = false := by simpa using hw
      have he : dn ⟨d, p, 0⟩ = 8 := by simp [dn, hw']
      rw [he]
      clear he hw
      go_enter Try.func18, Try.ntmps18
      go_wp2_with (go_at_call 28; refine (within_own _ _ _ _).mono ?_; rintro e w1 ⟨rfl, rfl⟩)
      go_ret
      exact ⟨rfl, by repeat (first | exact Below.refl _ _ | refine Below.alloc ?_ (by first | (simp; done) | (simp; omega)) _)⟩
  · have he : dn ⟨d, p, b⟩ = b := by simp [dn, hb]
    rw [he]
    have hb' : (b != 0) = true := by simp [hb]
    clear he hb
    go_enter Try.func18, Try.ntmps18
    go_wp2
    go_ret
    exact ⟨rfl, by repeat (first | exact Below.refl _ _ | refine Below.alloc ?_ (by first | (simp; done) | (simp; omega)) _)⟩
theorem done_ref (d : ByteArray) (p b : Int) (hd : d.size ≤ maxLen) (w : World) : Calls Try.prog 19 #[.agg #[.string d, .int .i64 p, .int .i64 b]] w fun e w' => e = .returned (.int .i64 (dn ⟨d, p, b⟩)) ∧ Below w.heap.size w w' := by
  by_cases hb : b = 0
  · subst hb
    by_cases hw : wi d p = true
    · have he : dn ⟨d, p, 0⟩ = if 0 < lft ⟨d, p, 0⟩ then 4 else 0 := by simp [dn, hw]
      rw [he]
      clear he
      by_cases hl : 0 < lft ⟨d, p, 0⟩
      all_goals
        simp only [hl, if_true, if_false]
        go_enter Try.func19, Try.ntmps19
        go_wp2_with (first
          | (go_at_call 27; refine (within_ref _ _ _ _).mono ?_; rintro e w1 ⟨rfl, rfl⟩)
          | (go_at_call 17; refine (left_ref d p 0 hd _).mono ?_; rintro e w1 ⟨rfl, hb1⟩))
        go_ret
        exact ⟨rfl, ((((Below.refl _ w).alloc (Nat.le_refl _) _).alloc (by simp) _)).trans (hb1.mono (by first | (simp; done) | (simp; omega)))⟩
    · have hw' : wi d p = false := by simpa using hw
      have he : dn ⟨d, p, 0⟩ = 8 := by simp [dn, hw']
      rw [he]
      clear he hw
      go_enter Try.func19, Try.ntmps19
      go_wp2_with (go_at_call 27; refine (within_ref _ _ _ _).mono ?_; rintro e w1 ⟨rfl, rfl⟩)
      go_ret
      exact ⟨rfl, by repeat (first | exact Below.refl _ _ | refine Below.alloc ?_ (by first | (simp; done) | (simp; omega)) _)⟩
  · have he : dn ⟨d, p, b⟩ = b := by simp [dn, hb]
    rw [he]
    have hb' : (b != 0) = true := by simp [hb]
    clear he hb
    go_enter Try.func19, Try.ntmps19
    go_wp2
    go_ret
    exact ⟨rfl, by repeat (first | exact Below.refl _ _ | refine Below.alloc ?_ (by first | (simp; done) | (simp; omega)) _)⟩

theorem open_own (d : ByteArray) (w : World) : Calls Try.prog 20 #[.string d] w fun e w' => e = .returned (.agg #[.string d, .int .i64 0, .int .i64 0]) ∧ Below w.heap.size w w' := by
  go_enter Try.func20, Try.ntmps20
  go_wp2
  exact bodyPost_ret (v := .agg #[.string d, .int .i64 0, .int .i64 0]) (by simp [results, Try.results20, go_sem]) rfl ⟨rfl, by repeat (first | exact Below.refl _ _ | refine Below.alloc ?_ (by first | (simp; done) | (simp; omega)) _)⟩
theorem open_ref (d : ByteArray) (w : World) : Calls Try.prog 21 #[.string d] w fun e w' => e = .returned (.agg #[.string d, .int .i64 0, .int .i64 0]) ∧ Below w.heap.size w w' := by
  go_enter Try.func21, Try.ntmps21
  go_wp2
  exact bodyPost_ret (v := .agg #[.string d, .int .i64 0, .int .i64 0]) (by simp [results, Try.results21, go_sem]) rfl ⟨rfl, by repeat (first | exact Below.refl _ _ | refine Below.alloc ?_ (by first | (simp; done) | (simp; omega)) _)⟩
theorem own_same (d : ByteArray) (p b : Int) (w : World) : Calls Try.prog 8 #[.agg #[.string d, .int .i64 p, .int .i64 b]] w fun e w' => e = .returned (.agg #[.string d, .int .i64 p, .int .i64 b]) ∧ Below w.heap.size w w' := by
  go_enter Try.func8, Try.ntmps8
  go_wp2
  exact bodyPost_ret (v := .agg #[.string d, .int .i64 p, .int .i64 b]) (by simp [results, Try.results8, go_sem]) rfl ⟨rfl, by repeat (first | exact Below.refl _ _ | refine Below.alloc ?_ (by first | (simp; done) | (simp; omega)) _)⟩
theorem back_same (d : ByteArray) (p b : Int) (w : World) : Calls Try.prog 15 #[.agg #[.string d, .int .i64 p, .int .i64 b]] w fun e w' => e = .returned (.agg #[.string d, .int .i64 p, .int .i64 b]) ∧ Below w.heap.size w w' := by
  go_enter Try.func15, Try.ntmps15
  go_wp2
  exact bodyPost_ret (v := .agg #[.string d, .int .i64 p, .int .i64 b]) (by simp [results, Try.results15, go_sem]) rfl ⟨rfl, by repeat (first | exact Below.refl _ _ | refine Below.alloc ?_ (by first | (simp; done) | (simp; omega)) _)⟩
end Go.Proofs.Ytomajnngifoiiaa
