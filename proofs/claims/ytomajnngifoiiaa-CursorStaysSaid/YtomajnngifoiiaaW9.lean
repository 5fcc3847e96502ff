/-
  The walk of what every right program reads of three bytes.
-/
import Derived.Test.YtomajnngifoiiaaW8
import Derived.Lib.SlBytesConst
namespace Go.Proofs.Ytomajnngifoiiaa
open Go.RowKit

/-- The three bytes. -/
def T3 : ByteArray := ⟨#[1, 2, 3]⟩
theorem t_num : numC ⟨T3, 0, 0⟩ 2 = ⟨T3, 2, 0⟩ := by rfl
theorem t_numV : numV ⟨T3, 0, 0⟩ 2 = 258 := by rfl
theorem t_take : cutC ⟨T3, 2, 0⟩ 2 (decide ((0 : Int) ≤ 2)) = ⟨T3, 2, 3⟩ := by rfl
theorem t_takeT : cutT ⟨T3, 2, 0⟩ 2 (decide ((0 : Int) ≤ 2)) = ByteArray.empty := by rfl
theorem t_rest : cutC ⟨T3, 2, 0⟩ (lft ⟨T3, 2, 0⟩) true = ⟨T3, 3, 0⟩ := by rfl
theorem t_restT : cutT ⟨T3, 2, 0⟩ (lft ⟨T3, 2, 0⟩) true = ⟨#[3]⟩ := by rfl
theorem t_left : lft ⟨T3, 2, 0⟩ = 1 := by rfl
theorem t_done : dn ⟨T3, 2, 0⟩ = 4 := by rfl
theorem t_left2 : lft ⟨T3, 2, 3⟩ = 0 := by rfl
theorem t_done2 : dn ⟨T3, 3, 0⟩ = 0 := by rfl
theorem t_lay : layL [120] 258 2 = [120, 1, 2] := by rfl
theorem t_fit1 : fitb 255 1 = true := by rfl
theorem t_fit2 : fitb 256 1 = false := by rfl

set_option maxHeartbeats 1000000 in
theorem awake_true (w : World) : Calls Try.prog 7 #[] w fun e w' => e = .returned (.bool true) ∧ Below w.heap.size w w' := by
  have hT : T3.size ≤ maxLen := by decide
  go_enter Try.func7, Try.ntmps7
  go_wp2_with fail
  refine (open_own T3 _).mono ?_
  rintro e w1 ⟨rfl, k1⟩
  go_wp2_with fail
  refine (rel_of (w0 := w) (number_own T3 0 0 2 hT _) k1).mono ?_
  rw [t_num, t_numV]
  unfold bothN
  rintro e w2 ⟨rfl, k2⟩
  clear k1
  go_wp2_with fail
  have ha := Cs.new w2 [.string T3, .int .i64 2, .int .i64 0] 27
  refine (take_own T3 2 0 2 hT _).mono ?_
  rw [t_take, t_takeT]
  unfold both
  rintro e w3 ⟨rfl, k3⟩
  have ha3 : Cs w3 w2.heap.size [.string T3, .int .i64 2, .int .i64 0] := ha.below k3 (by simp)
  have hl3 : w2.heap.size < w3.heap.size := by have := k3.size; simp at this; omega
  have b3 : Below w.heap.size w w3 := (k2.alloc k2.size _).trans (k3.mono (by have := k2.size; simp; omega))
  clear k2 k3 ha
  have HA3 := Lib.hid ha3
  have a0 := (ha3 0 _ rfl).1
  have a1 := (ha3 1 _ rfl).1
  have a2 := (ha3 2 _ rfl).1
  clear ha3
  go_wp2_with fail
  have hT2 : T3.size ≤ maxLen := hT
  refine (rest_own T3 2 0 hT2 _).mono ?_
  rw [t_rest, t_restT]
  unfold both
  rintro e w4 ⟨rfl, k4⟩
  -- the three cursors lie in blocks of their own: the world from here on
  have kk : Below w3.heap.size w3 (w3.alloc (.cells #[.string T3, .int .i64 2, .int .i64 3] 27)) := (Below.refl _ _).alloc (Nat.le_refl _) _
  have hd4 : Cs w4 w3.heap.size [.string T3, .int .i64 2, .int .i64 3] := (Cs.new w3 [.string T3, .int .i64 2, .int .i64 3] 27).below k4 (by simp)
  have ha4 : Cs w4 w2.heap.size [.string T3, .int .i64 2, .int .i64 0] := HA3.out.below (bt kk k4) hl3
  have b4 : Below w.heap.size w w4 := bt b3 (bt kk k4)
  have hl4 : w3.heap.size < w4.heap.size := by have := k4.size; simp at this; omega
  clear kk k4 b3 HA3 a0 a1 a2
  obtain ⟨w5, hw5⟩ : ∃ w5, w5 = w4.alloc (.cells #[.string T3, .int .i64 3, .int .i64 0] 27) := ⟨_, rfl⟩
  have kk : Below w4.heap.size w4 w5 := by rw [hw5]; exact (Below.refl _ _).alloc (Nat.le_refl _) _
  have hA : Cs w5 w2.heap.size [.string T3, .int .i64 2, .int .i64 0] := ha4.below kk (by omega)
  have hD : Cs w5 w3.heap.size [.string T3, .int .i64 2, .int .i64 3] := hd4.below kk hl4
  have hE : Cs w5 w4.heap.size [.string T3, .int .i64 3, .int .i64 0] := by rw [hw5]; exact Cs.new w4 [.string T3, .int .i64 3, .int .i64 0] 27
  have b5 : Below w.heap.size w w5 := bt b4 kk
  have l1 : w2.heap.size < w5.heap.size := by have := kk.size; omega
  have l2 : w3.heap.size < w5.heap.size := by have := kk.size; omega
  have l3 : w4.heap.size < w5.heap.size := by rw [hw5]; simp
  have HA := Lib.hid hA
  have HD := Lib.hid hD
  have HE := Lib.hid hE
  have H5 := Lib.hid hw5
  have a0 := (ha4 0 _ rfl).1
  have a1 := (ha4 1 _ rfl).1
  have a2 := (ha4 2 _ rfl).1
  clear hA hD hE hw5 kk ha4 hd4 b4
  have hl2 : w2.heap.size < w4.heap.size := by omega
  go_wp2_with fail
  rw [← H5.out]
  refine (rel_of (w0 := w5) (left_own T3 2 0 hT2 _) (Below.refl _ _)).mono ?_
  rw [t_left]
  rintro e w6 ⟨rfl, k6⟩
  clear a0 a1 a2
  have a0 := ((HA.out.below k6 l1) 0 _ rfl).1
  have a1 := ((HA.out.below k6 l1) 1 _ rfl).1
  have a2 := ((HA.out.below k6 l1) 2 _ rfl).1
  go_wp2_with fail
  refine (rel_of (w0 := w5) (done_own T3 2 0 hT2 _) k6).mono ?_
  rw [t_done]
  rintro e w7 ⟨rfl, k7⟩
  clear a0 a1 a2 k6
  have a0 := ((HD.out.below k7 l2) 0 _ rfl).1
  have a1 := ((HD.out.below k7 l2) 1 _ rfl).1
  have a2 := ((HD.out.below k7 l2) 2 _ rfl).1
  go_wp2_with fail
  refine (rel_of (w0 := w5) (left_own T3 2 3 hT2 _) k7).mono ?_
  rw [t_left2]
  rintro e w8 ⟨rfl, k8⟩
  clear a0 a1 a2 k7
  have a0 := ((HE.out.below k8 l3) 0 _ rfl).1
  have a1 := ((HE.out.below k8 l3) 1 _ rfl).1
  have a2 := ((HE.out.below k8 l3) 2 _ rfl).1
  go_wp2_with fail
  refine (rel_of (w0 := w5) (done_own T3 3 0 hT2 _) k8).mono ?_
  rw [t_done2]
  rintro e w9 ⟨rfl, k9⟩
  clear a0 a1 a2 k8
  have hconv := Lib.run_convert_bytes_const (P := Try.prog) w9 46 5 #[.int .u8 120] 1 1 Try.underlying46 Try.underlying5
  have hrx : Rd (w9.alloc (.cells #[.int .u8 120] 5 (1, 2))) (.slice (some ⟨w9.heap.size, 0, none⟩) 1 1) [120] := by
    refine ⟨_, _, rfl, Nat.le_refl _, by simp [maxLen], fun h => (by cases h), .inr ⟨_, _, rfl, by simp, fun i hi => ?_⟩⟩
    match i, hi with
    | 0, _ => rw [World.cell?_alloc_mark]; rfl
  have HX := Lib.hid hrx
  clear hrx
  go_wp2_with fail
  have k10 : Below w5.heap.size w5 (w9.alloc (.cells #[.int .u8 120] 5 (1, 2))) := k9.alloc k9.size _
  refine (lay_own _ [120] 258 2 _ HX.out (by decide) (by decide)).mono ?_
  rw [t_lay]
  rintro e w10 ⟨⟨v10, rfl, hr10⟩, kb10⟩
  have hstr := run_string_rd (P := Try.prog) 46 9 5 Try.underlying46 Try.underlying5 Try.underlying9 hr10
  have kf := bt k10 kb10
  have KF := Lib.hid kf
  clear kf k10 kb10 k9 hconv hr10
  go_wp2_with (first
    | (go_at_call_of 24 (Value.int .i64 255); refine (fits_own 255 1 _ (by decide)).mono ?_; rw [t_fit1]; rintro e w' ⟨rfl, rfl⟩)
    | (go_at_call_of 24 (Value.int .i64 256); refine (fits_own 256 1 _ (by decide)).mono ?_; rw [t_fit2]; rintro e w' ⟨rfl, rfl⟩))
  go_ret
  exact ⟨rfl, bt b5 KF.out⟩
end Go.Proofs.Ytomajnngifoiiaa
