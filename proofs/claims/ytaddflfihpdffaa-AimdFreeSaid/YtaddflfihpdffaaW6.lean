/-
  The walk of layer 10's awake.
-/
import Derived.Test.YtaddflfihpdffaaW5
namespace Go.Proofs.Ytaddflfihpdffaa
open Go.RowKit

set_option maxHeartbeats 1000000 in
theorem awake_true (w : World) : Calls Try.prog 7 #[] w fun e w' => e = .returned (.bool true) ∧ Below w.heap.size w w' := by
  have s1 := Lib.hid (show ack ⟨96, 1024, 0⟩ 48 = ⟨144, 1024, 0⟩ by decide)
  have s2 := Lib.hid (show runs ⟨144, 1024, 0⟩ [(1, 0), (0, 95), (0, 1)] = ⟨144, 96, 0⟩ by decide)
  have s3 := Lib.hid (show expd ⟨144, 96, 0⟩ = ⟨48, 96, 0⟩ by decide)
  have s4 := Lib.hid (show lost ⟨144, 1024, 0⟩ = ⟨96, 96, 0⟩ by decide)
  have s5 := Lib.hid (show fre ⟨144, 1024, 0⟩ 100 = 44 by decide)
  have s6 := Lib.hid (show fre ⟨144, 1024, 0⟩ 200 = 0 by decide)
  have s7 := Lib.hid (show chk ⟨144, 96, 0⟩ = 0 by decide)
  have s8 := Lib.hid (show chk ⟨0, 0, 0⟩ = 8 by decide)
  go_enter Try.func7, Try.ntmps7
  go_wp2_with fail
  refine (new_own _).mono ?_
  rintro e w1 ⟨rfl, hb1⟩
  go_wp2_with fail
  refine (acked_own ⟨96, 1024, 0⟩ 48 _).mono ?_
  rw [s1.out]
  rintro e w2 ⟨rfl, hb2⟩
  have B2 := Lib.hid (bt hb1 hb2)
  clear hb1 hb2
  go_wp2_with fail
  have ha := Cs.new w2 [.int .i64 144, .int .i64 1024, .int .i64 0] 26
  have hk := (Keep.start w2).alloc [.int .i64 144, .int .i64 1024, .int .i64 0] 26
  refine (run_own ⟨144, 1024, 0⟩ _ _ _ [(1, 0), (0, 95), (0, 1)] _ (recs_rw (rw_newAt 2 3 _ _ (by simp) [.int .u8 1, .int .i64 0, .int .u8 0, .int .i64 95, .int .u8 0, .int .i64 1] 46 rfl (by simp [maxLen])) (by decide)) (by omega)).mono ?_
  rw [s2.out]
  rintro e w3 ⟨rfl, hb3⟩
  have K3 := Lib.hid ((((hk.made _).call hb3)).alloc [.int .i64 144, .int .i64 96, .int .i64 0] 26)
  clear hb3 hk ha
  go_upto_region 3 with fail
  obtain ⟨V, hV⟩ : ∃ V, V = w3.alloc (.cells #[.int .i64 144, .int .i64 96, .int .i64 0] 26) := ⟨_, rfl⟩
  have KV : Hid (Keep w2 V [(w3.heap.size, [.int .i64 144, .int .i64 96, .int .i64 0]), (w2.heap.size, [.int .i64 144, .int .i64 1024, .int .i64 0])]) := Lib.hid (by rw [hV]; exact K3.out)
  rw [← hV]
  clear hV K3
  obtain ⟨l1, h1⟩ := KV.out.at_ 1 rfl
  obtain ⟨l0, h0⟩ := KV.out.at_ 0 rfl
  obtain ⟨⟨a0, a1, a2⟩, -⟩ := h0.o3
  obtain ⟨⟨b0, b1, b2⟩, -⟩ := h1.o3
  clear h0 h1
  go_wp2_with fail
  refine (expd_own ⟨144, 96, 0⟩ _).mono ?_
  rw [s3.out]
  rintro e w4 ⟨rfl, k4⟩
  obtain ⟨hc, -⟩ := bcell k4
  go_wp2_with fail
  refine (rel_of (w0 := V) (lost_own ⟨144, 1024, 0⟩ _) k4).mono ?_
  clear hc
  rw [s4.out]
  rintro e w5 ⟨rfl, k5⟩
  obtain ⟨hc, -⟩ := bcell k5
  go_wp2_with fail
  refine (rel_of (w0 := V) (free_own ⟨144, 1024, 0⟩ 100 _ (by decide)) k5).mono ?_
  clear hc
  rw [s5.out]
  rintro e w6 ⟨rfl, k6⟩
  obtain ⟨hc, -⟩ := bcell k6
  go_wp2_with fail
  refine (rel_of (w0 := V) (free_own ⟨144, 1024, 0⟩ 200 _ (by decide)) k6).mono ?_
  clear hc
  rw [s6.out]
  rintro e w7 ⟨rfl, k7⟩
  obtain ⟨hc, -⟩ := bcell k7
  go_wp2_with fail
  refine (rel_of (w0 := V) (less_of (check_own 144 96 0 _)) k7).mono ?_
  clear hc
  rw [s7.out]
  rintro e w8 ⟨rfl, k8⟩
  go_wp2_with fail
  refine (rel_of (w0 := V) (less_of (check_own 0 0 0 _)) k8).mono ?_
  rw [s8.out]
  rintro e w9 ⟨rfl, k9⟩
  go_wp2
  go_ret
  exact ⟨rfl, bt (bt B2.out KV.out.1) k9⟩
end Go.Proofs.Ytaddflfihpdffaa
