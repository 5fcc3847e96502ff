/-
  The walks of layer 1's functions: what is left, what is cut.
-/
import Derived.Test.YtomajnngifoiiaaKit
namespace Go.Proofs.Ytomajnngifoiiaa
open Go.RowKit

/-- Two steps of a call: what was there below the first world's end is as it was. -/
theorem bt {w a b : World} (h : Below w.heap.size w a) (k : Below a.heap.size a b) : Below w.heap.size w b := h.trans (k.mono h.size)
/-- A contract over what an earlier world had. -/
theorem rel_of {f : FuncId} {args : Array Value} {v : Value} {w0 w : World} (h : Calls Try.prog f args w fun e w' => e = .returned v ∧ Below w.heap.size w w') (hb : Below w0.heap.size w0 w) :
    Calls Try.prog f args w fun e w' => e = .returned v ∧ Below w0.heap.size w0 w' := h.mono fun _ _ ⟨he, hw⟩ => ⟨he, bt hb hw⟩

/-- A cursor. -/
structure C where
  d : ByteArray
  p : Int
  b : Int
/-- Is the place within the text? -/
def wi (d : ByteArray) (p : Int) : Bool := decide (0 ≤ p) && decide (p ≤ (d.size : Int))
theorem wi_iff {d : ByteArray} {p : Int} : wi d p = true ↔ 0 ≤ p ∧ p ≤ (d.size : Int) := by simp [wi]

theorem within_own (d : ByteArray) (p b : Int) (w : World) : Calls Try.prog 28 #[.agg #[.string d, .int .i64 p, .int .i64 b]] w fun e w' => e = .returned (.bool (wi d p)) ∧ w.alloc (.cells #[.string d, .int .i64 p, .int .i64 b] 27) = w' := by
  by_cases h1 : 0 ≤ p
  · have e1 : decide (0 ≤ p) = true := by simpa using h1
    have e2 : wi d p = decide (p ≤ (d.size : Int)) := by simp [wi, h1]
    rw [e2]; clear e2
    go_enter Try.func28, Try.ntmps28
    go_wp2
    go_ret
    exact ⟨rfl, rfl⟩
  · have e1 : decide (0 ≤ p) = false := by simpa using h1
    have e2 : wi d p = false := by simp [wi, h1]
    rw [e2]; clear e2
    go_enter Try.func28, Try.ntmps28
    go_wp2
    go_ret
    exact ⟨rfl, rfl⟩
theorem within_ref (d : ByteArray) (p b : Int) (w : World) : Calls Try.prog 27 #[.agg #[.string d, .int .i64 p, .int .i64 b]] w fun e w' => e = .returned (.bool (wi d p)) ∧ w.alloc (.cells #[.string d, .int .i64 p, .int .i64 b] 23) = w' := by
  by_cases h1 : 0 ≤ p
  · have e1 : decide (0 ≤ p) = true := by simpa using h1
    have e2 : wi d p = decide (p ≤ (d.size : Int)) := by simp [wi, h1]
    rw [e2]; clear e2
    go_enter Try.func27, Try.ntmps27
    go_wp2
    go_ret
    exact ⟨rfl, rfl⟩
  · have e1 : decide (0 ≤ p) = false := by simpa using h1
    have e2 : wi d p = false := by simp [wi, h1]
    rw [e2]; clear e2
    go_enter Try.func27, Try.ntmps27
    go_wp2
    go_ret
    exact ⟨rfl, rfl⟩

/-- How many bytes are left. -/
def lft (c : C) : Int := if c.b = 0 ∧ wi c.d c.p = true then (c.d.size : Int) - c.p else 0

theorem left_own (d : ByteArray) (p b : Int) (hd : d.size ≤ maxLen) (w : World) : Calls Try.prog 16 #[.agg #[.string d, .int .i64 p, .int .i64 b]] w fun e w' => e = .returned (.int .i64 (lft ⟨d, p, b⟩)) ∧ Below w.heap.size w w' := by
  by_cases hb : b = 0
  · by_cases hw : wi d p = true
    · have he : lft ⟨d, p, b⟩ = (d.size : Int) - p := by simp [lft, hb, hw]
      rw [he]
      subst hb
      have hwi := wi_iff.1 hw
      obtain ⟨h1, h2⟩ := hwi
      have hm : (d.size : Int) ≤ 9223372036854775807 := by unfold maxLen at hd; omega
      clear he
      go_enter Try.func16, Try.ntmps16
      go_wp2_with (go_at_call 28; refine (within_own _ _ _ _).mono ?_; rintro e w1 ⟨rfl, rfl⟩)
      go_ret
      exact ⟨rfl, by repeat (first | exact Below.refl _ _ | refine Below.alloc ?_ (by first | (simp; done) | (simp; omega)) _)⟩
    · have he : lft ⟨d, p, b⟩ = 0 := by simp [lft, hw]
      rw [he]
      subst hb
      have hw' : wi d p = false := by simpa using hw
      clear he hw
      go_enter Try.func16, Try.ntmps16
      go_wp2_with (go_at_call 28; refine (within_own _ _ _ _).mono ?_; rintro e w1 ⟨rfl, rfl⟩)
      go_ret
      exact ⟨rfl, by repeat (first | exact Below.refl _ _ | refine Below.alloc ?_ (by first | (simp; done) | (simp; omega)) _)⟩
  · have he : lft ⟨d, p, b⟩ = 0 := by simp [lft, hb]
    rw [he]
    have hb' : (b != 0) = true := by simp [hb]
    clear he
    go_enter Try.func16, Try.ntmps16
    go_wp2
    go_ret
    exact ⟨rfl, by repeat (first | exact Below.refl _ _ | refine Below.alloc ?_ (by first | (simp; done) | (simp; omega)) _)⟩
theorem left_ref (d : ByteArray) (p b : Int) (hd : d.size ≤ maxLen) (w : World) : Calls Try.prog 17 #[.agg #[.string d, .int .i64 p, .int .i64 b]] w fun e w' => e = .returned (.int .i64 (lft ⟨d, p, b⟩)) ∧ Below w.heap.size w w' := by
  by_cases hb : b = 0
  · by_cases hw : wi d p = true
    · have he : lft ⟨d, p, b⟩ = (d.size : Int) - p := by simp [lft, hb, hw]
      rw [he]
      subst hb
      have hwi := wi_iff.1 hw
      obtain ⟨h1, h2⟩ := hwi
      have hm : (d.size : Int) ≤ 9223372036854775807 := by unfold maxLen at hd; omega
      clear he
      go_enter Try.func17, Try.ntmps17
      go_wp2_with (go_at_call 27; refine (within_ref _ _ _ _).mono ?_; rintro e w1 ⟨rfl, rfl⟩)
      go_ret
      exact ⟨rfl, by repeat (first | exact Below.refl _ _ | refine Below.alloc ?_ (by first | (simp; done) | (simp; omega)) _)⟩
    · have he : lft ⟨d, p, b⟩ = 0 := by simp [lft, hw]
      rw [he]
      subst hb
      have hw' : wi d p = false := by simpa using hw
      clear he hw
      go_enter Try.func17, Try.ntmps17
      go_wp2_with (go_at_call 27; refine (within_ref _ _ _ _).mono ?_; rintro e w1 ⟨rfl, rfl⟩)
      go_ret
      exact ⟨rfl, by repeat (first | exact Below.refl _ _ | refine Below.alloc ?_ (by first | (simp; done) | (simp; omega)) _)⟩
  · have he : lft ⟨d, p, b⟩ = 0 := by simp [lft, hb]
    rw [he]
    have hb' : (b != 0) = true := by simp [hb]
    clear he
    go_enter Try.func17, Try.ntmps17
    go_wp2
    go_ret
    exact ⟨rfl, by repeat (first | exact Below.refl _ _ | refine Below.alloc ?_ (by first | (simp; done) | (simp; omega)) _)⟩

/-- What is cut: the cursor, and the bytes. -/
def cutC (c : C) (n : Int) (fine : Bool) : C :=
  if c.b ≠ 0 then c else if wi c.d c.p = false then { c with b := 8 } else if fine = false then { c with b := 2 } else if (c.d.size : Int) - c.p < n then { c with b := 3 } else { c with p := c.p + n }
def cutT (c : C) (n : Int) (fine : Bool) : ByteArray :=
  if c.b = 0 ∧ wi c.d c.p = true ∧ fine = true ∧ n ≤ (c.d.size : Int) - c.p then c.d.extract c.p.toNat (c.p + n).toNat else ByteArray.empty
/-- The same, as the program has it. -/
def both (c : C) (t : ByteArray) : Value := .tuple #[.agg #[.string c.d, .int .i64 c.p, .int .i64 c.b], .string t]

theorem cut_own (d : ByteArray) (p b n : Int) (fine : Bool) (hd : d.size ≤ maxLen) (hn : fine = true → 0 ≤ n) (w : World) :
    Calls Try.prog 26 #[.agg #[.string d, .int .i64 p, .int .i64 b], .int .i64 n, .bool fine] w fun e w' => e = .returned (both (cutC ⟨d, p, b⟩ n fine) (cutT ⟨d, p, b⟩ n fine)) ∧ Below w.heap.size w w' := by
  by_cases hb : b = 0
  · subst hb
    by_cases hw : wi d p = true
    · obtain ⟨h1, h2⟩ := wi_iff.1 hw
      have hm : (d.size : Int) ≤ 9223372036854775807 := by unfold maxLen at hd; omega
      by_cases hf : fine = true
      · have hn0 := hn hf
        subst hf
        by_cases hl : (d.size : Int) - p < n
        · have e1 : cutC ⟨d, p, 0⟩ n true = ⟨d, p, 3⟩ := by simp [cutC, hw, hl]
          have e2 : cutT ⟨d, p, 0⟩ n true = ByteArray.empty := by simp [cutT]; intro _ h; omega
          rw [e1, e2]
          clear e1 e2
          go_enter Try.func26, Try.ntmps26
          go_wp2_with (go_at_call 28; refine (within_own _ _ _ _).mono ?_; rintro e w1 ⟨rfl, rfl⟩)
          exact bodyPost_ret (v := both ⟨d, p, 3⟩ ByteArray.empty) (by simp [both, results, Try.results26, go_sem]; try rfl) rfl ⟨rfl, by repeat (first | exact Below.refl _ _ | refine Below.alloc ?_ (by first | (simp; done) | (simp; omega)) _)⟩
        · have e1 : cutC ⟨d, p, 0⟩ n true = ⟨d, p + n, 0⟩ := by simp [cutC, hw, hl]
          have e2 : cutT ⟨d, p, 0⟩ n true = d.extract p.toNat (p + n).toNat := by simp [cutT, hw]; intro h; omega
          rw [e1, e2]
          clear e1 e2
          have hb1 : 0 ≤ p + n := by omega
          have hb2 : p + n ≤ (d.size : Int) := by omega
          have hb3 : p ≤ p + n := by omega
          obtain ⟨i, rfl⟩ := Int.eq_ofNat_of_zero_le h1
          obtain ⟨j, rfl⟩ := Int.eq_ofNat_of_zero_le hn0
          go_enter Try.func26, Try.ntmps26
          go_wp2_with (go_at_call 28; refine (within_own _ _ _ _).mono ?_; rintro e w1 ⟨rfl, rfl⟩)
          exact bodyPost_ret (v := both ⟨d, (i : Int) + (j : Int), 0⟩ (d.extract ((i : Int)).toNat ((i : Int) + (j : Int)).toNat)) (by simp [both, results, Try.results26, go_sem]; try rfl) rfl ⟨rfl, by repeat (first | exact Below.refl _ _ | refine Below.alloc ?_ (by first | (simp; done) | (simp; omega)) _)⟩
      · have hf' : fine = false := by simpa using hf
        subst hf'
        have e1 : cutC ⟨d, p, 0⟩ n false = ⟨d, p, 2⟩ := by simp [cutC, hw]
        have e2 : cutT ⟨d, p, 0⟩ n false = ByteArray.empty := by simp [cutT]
        rw [e1, e2]
        clear e1 e2
        go_enter Try.func26, Try.ntmps26
        go_wp2_with (go_at_call 28; refine (within_own _ _ _ _).mono ?_; rintro e w1 ⟨rfl, rfl⟩)
        exact bodyPost_ret (v := both ⟨d, p, 2⟩ ByteArray.empty) (by simp [both, results, Try.results26, go_sem]; try rfl) rfl ⟨rfl, by repeat (first | exact Below.refl _ _ | refine Below.alloc ?_ (by first | (simp; done) | (simp; omega)) _)⟩
    · have hw' : wi d p = false := by simpa using hw
      have e1 : cutC ⟨d, p, 0⟩ n fine = ⟨d, p, 8⟩ := by simp [cutC, hw']
      have e2 : cutT ⟨d, p, 0⟩ n fine = ByteArray.empty := by simp [cutT, hw']
      rw [e1, e2]
      clear e1 e2 hw
      go_enter Try.func26, Try.ntmps26
      go_wp2_with (go_at_call 28; refine (within_own _ _ _ _).mono ?_; rintro e w1 ⟨rfl, rfl⟩)
      exact bodyPost_ret (v := both ⟨d, p, 8⟩ ByteArray.empty) (by simp [both, results, Try.results26, go_sem]; try rfl) rfl ⟨rfl, by repeat (first | exact Below.refl _ _ | refine Below.alloc ?_ (by first | (simp; done) | (simp; omega)) _)⟩
  · have hb' : (b != 0) = true := by simp [hb]
    have e1 : cutC ⟨d, p, b⟩ n fine = ⟨d, p, b⟩ := by simp [cutC, hb]
    have e2 : cutT ⟨d, p, b⟩ n fine = ByteArray.empty := by simp [cutT, hb]
    rw [e1, e2]
    clear e1 e2 hb
    go_enter Try.func26, Try.ntmps26
    go_wp2_with (go_at_call 28; refine (within_own _ _ _ _).mono ?_; rintro e w1 ⟨rfl, rfl⟩)
    exact bodyPost_ret (v := both ⟨d, p, b⟩ ByteArray.empty) (by simp [both, results, Try.results26, go_sem]; try rfl) rfl ⟨rfl, by repeat (first | exact Below.refl _ _ | refine Below.alloc ?_ (by first | (simp; done) | (simp; omega)) _)⟩
end Go.Proofs.Ytomajnngifoiiaa
