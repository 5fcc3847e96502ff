/-
  The walk of RttSteady.
-/
import Derived.Test.YtjkbhmlpmapobaaW6
namespace Go.Proofs.Ytjkbhmlpmapobaa
open Go.RowKit

/-- The same time, so many times. -/
def itr (t : Int) : Nat → S
  | 0 => ⟨0, 0, false, 0⟩
  | k + 1 => smp (itr t k) t
/-- What it comes down to. -/
def downB (t : Int) (x : S) : Bool := x.s == 8 * t && decide (x.v ≤ 3) && decide (t ≤ wt x) && decide (wt x ≤ max 2 (t + 3))
theorem down_all : ∀ t : Fin 51, downB (t.val : Int) (itr (t.val : Int) 100) = true := by decide +kernel
theorem down_of (t : Int) (h0 : 0 ≤ t) (h1 : t ≤ 50) : (itr t 100).s = 8 * t ∧ (itr t 100).v ≤ 3 ∧ t ≤ wt (itr t 100) ∧ wt (itr t 100) ≤ max 2 (t + 3) := by
  obtain ⟨n, rfl⟩ := Int.eq_ofNat_of_zero_le h0
  have := down_all ⟨n, by omega⟩
  simp only [downB, Bool.and_eq_true, decide_eq_true_eq, beq_iff_eq] at this
  obtain ⟨⟨⟨a, b⟩, c⟩, d⟩ := this
  exact ⟨a, b, c, d⟩

theorem steady_walk (n : Int) (w : World) (hn : (Lit.int .u8 n).wf = true) : Calls Try.prog 5 #[.int .u8 n] w fun e w' => e = .returned (.bool true) ∧ Below w.heap.size w w' := by
  obtain ⟨n1, n2⟩ := wf_u8 hn
  obtain ⟨t, ht, t0, t1⟩ : ∃ t, n % 51 = t ∧ 0 ≤ t ∧ t ≤ 50 := ⟨_, rfl, by omega, by omega⟩
  obtain ⟨q1, q2, q3, q4⟩ := down_of t t0 t1
  go_enter Try.func5, Try.ntmps5
  go_wp2_with fail
  refine (new_own _).mono ?_
  rintro e w1 ⟨rfl, hb1⟩
  go_wp2_with fail
  go_loopw [5] (fun i wr => ∃ k : Nat, k ≤ 100 ∧ i = .int .i64 (k : Int) ∧ Box wr w1.heap.size (itr t k) ∧ Below w.heap.size w wr ∧ w1.heap.size < wr.heap.size) (fun i _ => 100 - (intOf i).toNat)
  case atStart => exact ⟨0, by omega, rfl, box_new _ _, hb1.alloc hb1.size _, by simp⟩
  case round =>
    obtain ⟨k, hk, rfl, hb, hbel, hsz⟩ := hrel
    have hw1 : w.heap.size ≤ w1.heap.size := hb1.size
    by_cases hlt : k < 100
    · have hs : itr t (k + 1) = smp (itr t k) t := rfl
      have HS := Lib.hid hs
      clear hs
      generalize itr t k = y at *
      have hB := hb
      have HB1 := Lib.hid hB
      clear hB
      obtain ⟨⟨c0, c1, c2, c3⟩, f0, f1, f2, f3⟩ := hb
      have HQ := Lib.hid (And.intro q1 (And.intro q2 (And.intro q3 q4)))
      clear q1 q2 q3 q4
      go_wp2_with fail
      refine (sample_own y t _).mono ?_
      rintro e w2 ⟨rfl, hbe⟩
      obtain ⟨⟨d0, d1, d2, d3⟩, g0, g1, g2, g3⟩ := HB1.out.below hbe hsz
      go_wp2
      go_roundw
      case rel =>
        refine ⟨k + 1, by omega, by go_num, ?_⟩
        rw [HS.out]
        refine ⟨(HB1.out.below hbe hsz).lay (smp y t), below_lay (bt hbel hbe) hw1 (smp y t), ?_⟩
        have e := size_lay w2 w1.heap.size (smp y t)
        unfold lay at e
        rw [e]
        exact Nat.lt_of_lt_of_le hsz hbe.size
      case measure => simp [intOf]; omega
    · obtain rfl : k = 100 := by omega
      generalize itr t 100 = y at *
      have e1 : (y.s == 8 * t) = true := by simp [q1]
      have e2 : decide (y.v ≤ 3) = true := by simp [q2]
      have e3 : decide (t ≤ wt y) = true := by simp [q3]
      have HB1 := Lib.hid hb
      obtain ⟨⟨c0, c1, c2, c3⟩, -⟩ := hb
      have HQ := Lib.hid q4
      clear q1 q2 q3 q4
      go_wp2_with fail
      refine (wait_own y _).mono ?_
      rintro e w2 ⟨rfl, k2⟩
      clear c0 c1 c2 c3
      obtain ⟨⟨c0, c1, c2, c3⟩, -⟩ := HB1.out.below k2 hsz
      go_wp2_with fail
      all_goals
        refine (wait_own y _).mono ?_
        rintro e w3 ⟨rfl, k3⟩
        have q4 := HQ.out
        have e4 : decide (wt y ≤ if t + 3 ≤ 2 then 2 else t + 3) = true := by simp; omega
        go_wp2_with fail
        all_goals
          refine (awake_true _).mono ?_
          rintro e w4 ⟨rfl, k4⟩
          go_wp2
          go_ret
          exact ⟨rfl, bt (bt (bt hbel k2) k3) k4⟩
end Go.Proofs.Ytjkbhmlpmapobaa
