/-
  The walk of what every right program waits.
-/
import Derived.Test.YtjkbhmlpmapobaaW4
namespace Go.Proofs.Ytjkbhmlpmapobaa
open Go.RowKit

theorem box_new (w : World) (t : Nat) : Box (w.alloc (.cells #[.int .i64 0, .int .i64 0, .bool false, .int .i64 0] t)) w.heap.size ⟨0, 0, false, 0⟩ := by
  refine ⟨⟨?_, ?_, ?_, ?_⟩, ?_, ?_, ?_, ?_⟩ <;> simp [go_sem]

theorem awake_true (w : World) : Calls Try.prog 7 #[] w fun e w' => e = .returned (.bool true) ∧ Below w.heap.size w w' := by
  have s1 : smp ⟨0, 0, false, 0⟩ 3 = ⟨24, 6, true, 0⟩ := by decide
  have s2 : runs ⟨24, 6, true, 0⟩ [5, -1, -1] = ⟨26, 7, true, 2⟩ := by decide
  have w1' : wt ⟨24, 6, true, 0⟩ = 9 := by decide
  have w2' : wt ⟨26, 7, true, 2⟩ = 40 := by decide
  have w3' : wt ⟨0, 0, false, 0⟩ = 8 := by decide
  have e1 : exps ⟨0, 0, false, 0⟩ = ⟨0, 0, false, 1⟩ := by decide
  have w4' : wt ⟨0, 0, false, 1⟩ = 16 := by decide
  have c1 : chk ⟨26, 7, true, 2⟩ = 0 := by decide
  have c2 : chk ⟨0, 0, false, 7⟩ = 8 := by decide
  go_enter Try.func7, Try.ntmps7
  go_wp2_with fail
  refine (new_own _).mono ?_
  rintro e w1 ⟨rfl, hb1⟩
  go_wp2_with fail
  refine (sample_own ⟨0, 0, false, 0⟩ 3 _).mono ?_
  rw [s1]
  rintro e w2 ⟨rfl, hb2⟩
  have b2 := bt hb1 hb2
  clear hb1 hb2
  go_wp2_with fail
  refine (run_own ⟨24, 6, true, 0⟩ _ _ _ [5, -1, -1] _ ?_ (by omega)).mono ?_
  · refine ⟨rfl, Nat.le_refl _, by simp [maxLen], by decide, .inr ⟨_, _, rfl, by simp, fun i hi => ?_⟩⟩
    match i, hi with
    | 0, _ => simp
    | 1, _ => simp
    | 2, _ => simp
  rw [s2]
  rintro e w3 ⟨rfl, hb3⟩
  have ha : Box w3 w2.heap.size ⟨24, 6, true, 0⟩ := by
    refine Box.below (w := _) ?_ hb3 (by simp; omega)
    refine ⟨⟨?_, ?_, ?_, ?_⟩, ?_, ?_, ?_, ?_⟩ <;> simp [go_sem]
  have b3 : Below w.heap.size w w3 := ((b2.alloc b2.size _).alloc (by have := b2.size; simp; omega) _).trans (hb3.mono (by have := b2.size; simp; omega))
  have hlt : w2.heap.size < w3.heap.size := by have := hb3.size; simp at this; omega
  clear hb3 b2 s1 s2
  -- the two states lie in blocks of their own: the world from here on
  obtain ⟨w5, hw5⟩ : ∃ w5, w5 = w3.alloc (.cells #[.int .i64 26, .int .i64 7, .bool true, .int .i64 2] 26) := ⟨_, rfl⟩
  have hA : Box w5 w2.heap.size ⟨24, 6, true, 0⟩ := by
    rw [hw5]; exact ha.below ((Below.refl w3.heap.size w3).alloc (Nat.le_refl _) _) hlt
  have hB : Box w5 w3.heap.size ⟨26, 7, true, 2⟩ := by
    rw [hw5]; refine ⟨⟨?_, ?_, ?_, ?_⟩, ?_, ?_, ?_, ?_⟩ <;> simp [go_sem]
  have b5 : Below w.heap.size w w5 := by rw [hw5]; exact b3.alloc b3.size _
  have hs5 : w5.heap.size = w3.heap.size + 1 := by rw [hw5]; simp
  have l1 : w2.heap.size < w5.heap.size := by omega
  have l2 : w3.heap.size < w5.heap.size := by omega
  obtain ⟨⟨a0, a1, a2, a3⟩, -⟩ := ha
  have HA := Lib.hid hA
  have HB := Lib.hid hB
  have H5 := Lib.hid hw5
  clear hA hB hw5 hs5
  have hbb := b3
  clear b3
  go_wp2_with fail
  rw [← H5.out]
  refine (rel_of (w0 := w5) (wait_own ⟨24, 6, true, 0⟩ _) (Below.refl _ _)).mono ?_
  rw [w1']
  rintro e w6 ⟨rfl, kw6⟩
  clear a0 a1 a2 a3
  obtain ⟨⟨a0, a1, a2, a3⟩, -⟩ := HA.out.below kw6 l1
  obtain ⟨⟨b0, b1, b2, b3⟩, -⟩ := HB.out.below kw6 l2
  go_wp2_with fail
  refine (rel_of (w0 := w5) (wait_own ⟨26, 7, true, 2⟩ _) kw6).mono ?_
  rw [w2']
  rintro e w7 ⟨rfl, kw7⟩
  clear a0 a1 a2 a3 b0 b1 b2 b3
  obtain ⟨⟨a0, a1, a2, a3⟩, -⟩ := HA.out.below kw7 l1
  obtain ⟨⟨b0, b1, b2, b3⟩, -⟩ := HB.out.below kw7 l2
  go_wp2_with fail
  refine (rel_of (w0 := w5) (new_own _) kw7).mono ?_
  rintro e w8 ⟨rfl, kw8⟩
  clear a0 a1 a2 a3 b0 b1 b2 b3
  obtain ⟨⟨a0, a1, a2, a3⟩, -⟩ := HA.out.below kw8 l1
  obtain ⟨⟨b0, b1, b2, b3⟩, -⟩ := HB.out.below kw8 l2
  go_wp2_with fail
  refine (rel_of (w0 := w5) (wait_own ⟨0, 0, false, 0⟩ _) kw8).mono ?_
  rw [w3']
  rintro e w9 ⟨rfl, kw9⟩
  clear a0 a1 a2 a3 b0 b1 b2 b3
  obtain ⟨⟨a0, a1, a2, a3⟩, -⟩ := HA.out.below kw9 l1
  obtain ⟨⟨b0, b1, b2, b3⟩, -⟩ := HB.out.below kw9 l2
  go_wp2_with fail
  refine (rel_of (w0 := w5) (new_own _) kw9).mono ?_
  rintro e w10 ⟨rfl, kw10⟩
  clear a0 a1 a2 a3 b0 b1 b2 b3
  obtain ⟨⟨a0, a1, a2, a3⟩, -⟩ := HA.out.below kw10 l1
  obtain ⟨⟨b0, b1, b2, b3⟩, -⟩ := HB.out.below kw10 l2
  go_wp2_with fail
  refine (rel_of (w0 := w5) (expire_own ⟨0, 0, false, 0⟩ _) kw10).mono ?_
  rw [e1]
  rintro e w11 ⟨rfl, kw11⟩
  clear a0 a1 a2 a3 b0 b1 b2 b3
  obtain ⟨⟨a0, a1, a2, a3⟩, -⟩ := HA.out.below kw11 l1
  obtain ⟨⟨b0, b1, b2, b3⟩, -⟩ := HB.out.below kw11 l2
  go_wp2_with fail
  refine (rel_of (w0 := w5) (wait_own ⟨0, 0, false, 1⟩ _) kw11).mono ?_
  rw [w4']
  rintro e w12 ⟨rfl, kw12⟩
  clear a0 a1 a2 a3 b0 b1 b2 b3
  obtain ⟨⟨a0, a1, a2, a3⟩, -⟩ := HA.out.below kw12 l1
  obtain ⟨⟨b0, b1, b2, b3⟩, -⟩ := HB.out.below kw12 l2
  go_wp2_with (first
    | (go_at_call_of 8 (Value.agg #[.int .i64 26, .int .i64 7, .bool true, .int .i64 2]); refine (check_own 26 7 true 2 _).mono ?_; rw [c1]; rintro e w' ⟨rfl, rfl⟩)
    | (go_at_call_of 8 (Value.agg #[.int .i64 0, .int .i64 0, .bool false, .int .i64 7]); refine (check_own 0 0 false 7 _).mono ?_; rw [c2]; rintro e w' ⟨rfl, rfl⟩))
  go_ret
  have hz : w.heap.size ≤ w12.heap.size := Nat.le_trans b5.size kw12.size
  exact ⟨rfl, ((bt b5 kw12).alloc hz _).alloc (by simp; omega) _⟩
end Go.Proofs.Ytjkbhmlpmapobaa
