/-
  The walk of layer 21's awake.
-/
import Derived.Test.YtdonkkcdjbjkeaaW7
namespace Go.Proofs.Ytdonkkcdjbjkeaa
open Go.RowKit

theorem check_own2 (g : G) (w : World) : Calls Try.prog 15 #[.agg #[.int .i64 g.w, .int .i64 g.l, .int .i64 g.u, .int .i64 g.r]] w fun e w' => e = .returned (.int .i64 (chk g)) ∧ Below w.heap.size w w' := less_of (check_own g.w g.l g.u g.r w)
theorem check_ref2 (g : G) (w : World) : Calls Try.prog 16 #[.agg #[.int .i64 g.w, .int .i64 g.l, .int .i64 g.u, .int .i64 g.r]] w fun e w' => e = .returned (.int .i64 (chk g)) ∧ Below w.heap.size w w' := less_of (check_ref g.w g.l g.u g.r w)
theorem free_own2 (g : G) (w : World) : Calls Try.prog 13 #[.agg #[.int .i64 g.w, .int .i64 g.l, .int .i64 g.u, .int .i64 g.r]] w fun e w' => e = .returned (.int .i64 (fre g)) ∧ Below w.heap.size w w' :=
  (free_own g.w g.l g.u g.r w).mono fun _ _ ⟨he, hw⟩ => ⟨he, by rw [← hw]; exact ((Below.refl _ _).alloc (Nat.le_refl _) _).alloc (by simp) _⟩
theorem free_ref2 (g : G) (w : World) : Calls Try.prog 14 #[.agg #[.int .i64 g.w, .int .i64 g.l, .int .i64 g.u, .int .i64 g.r]] w fun e w' => e = .returned (.int .i64 (fre g)) ∧ Below w.heap.size w w' :=
  (free_ref g.w g.l g.u g.r w).mono fun _ _ ⟨he, hw⟩ => ⟨he, by rw [← hw]; exact ((Below.refl _ _).alloc (Nat.le_refl _) _).alloc (by simp) _⟩

set_option maxHeartbeats 4000000 in
theorem awake_true (w : World) : Calls Try.prog 6 #[] w fun e w' => e = .returned (.bool true) ∧ Below w.heap.size w w' := by
  have s1 := Lib.hid (show newG 10 = (⟨10, 10, 0, 0⟩, 0) by decide)
  have s2 := Lib.hid (show runF ⟨10, 10, 0, 0⟩ [(2, 6), (3, 4), (4, 0), (3, 9), (4, 0), (2, 17)] = (⟨10, 16, 6, 6⟩, [6, 0, 0, 0, 6, -1]) by decide)
  have s3 := Lib.hid (show spend ⟨10, 10, 0, 0⟩ 11 = (⟨10, 10, 0, 0⟩, false) by decide)
  have s4 := Lib.hid (show given ⟨10, 10, 0, 0⟩ 5 = (⟨10, 15, 0, 0⟩, true) by decide)
  have s5 := Lib.hid (show newG 0 = (⟨0, 0, 0, 0⟩, 8) by decide)
  have s6 := Lib.hid (show fre ⟨10, 16, 6, 6⟩ = 10 by decide)
  have s7 := Lib.hid (show chk ⟨10, 16, 6, 6⟩ = 0 by decide)
  go_enter Try.func6, Try.ntmps6
  go_wp2_with fail
  refine (new_own 10 _).mono ?_
  rw [s1.out]
  rintro e w1 ⟨rfl, k1⟩
  have K1 := Lib.hid ((Keep.start w).call k1)
  clear k1
  go_wp2_with fail
  refine (run_own ⟨10, 10, 0, 0⟩ _ _ _ [(2, 6), (3, 4), (4, 0), (3, 9), (4, 0), (2, 17)] _ (recs_rw (rw_newAt 2 6 _ _ (by simp) [.int .u8 2, .int .i64 6, .int .u8 3, .int .i64 4, .int .u8 4, .int .i64 0, .int .u8 3, .int .i64 9, .int .u8 4, .int .i64 0, .int .u8 2, .int .i64 17] 64 rfl (by simp [maxLen])) (by decide)) (by omega)).mono ?_
  rintro e w2 ⟨v2, rfl, hown, k2⟩
  have K2 := Lib.hid (((K1.out.allocAt (w1.heap.size) (by simp) (cells ⟨10, 10, 0, 0⟩) 26).allocAt (w1.heap.size + 1) (by simp) [.int .u8 2, .int .i64 6, .int .u8 3, .int .i64 4, .int .u8 4, .int .i64 0, .int .u8 3, .int .i64 9, .int .u8 4, .int .i64 0, .int .u8 2, .int .i64 17] 64).call k2)
  clear k2
  rw [s2.out] at hown
  rw [s2.out]
  obtain ⟨A2, c2, rfl, hrw⟩ := rw_own hown
  have hrow := row_rw hrw (by decide)
  clear hrw hown
  have R2 := Lib.hid hrow
  clear hrow
  obtain ⟨al, ah⟩ := K2.out.at_ 1 rfl
  obtain ⟨⟨ac0, ac1, ac2, ac3⟩, af0, af1, af2, af3⟩ := ah.o4
  clear ah
  go_wp2_with fail
  refine (spend_own ⟨10, 10, 0, 0⟩ 11 _).mono ?_
  rw [s3.out]
  rintro e w3 ⟨rfl, k3⟩
  have K3 := Lib.hid ((K2.out.allocAt (w2.heap.size) (by simp) (cells ⟨10, 16, 6, 6⟩) 26).call k3)
  have R2_3 := Lib.hid ((R2.out.alloc _).below (Nat.le_refl _) k3)
  clear R2
  clear al ac0 ac1 ac2 ac3 af0 af1 af2 af3
  clear k3
  obtain ⟨al, ah⟩ := K3.out.at_ 2 rfl
  obtain ⟨⟨ac0, ac1, ac2, ac3⟩, af0, af1, af2, af3⟩ := ah.o4
  clear ah
  go_wp2_with fail
  refine (given_own ⟨10, 10, 0, 0⟩ 5 _).mono ?_
  rw [s4.out]
  rintro e w4 ⟨rfl, k4⟩
  have K4 := Lib.hid ((K3.out.allocAt (w3.heap.size) (by simp) (cells ⟨10, 10, 0, 0⟩) 26).call k4)
  have R2_4 := Lib.hid ((R2_3.out.alloc _).below (Nat.le_refl _) k4)
  clear R2_3
  clear al ac0 ac1 ac2 ac3 af0 af1 af2 af3
  clear k4
  go_wp2_with fail
  refine (new_own 0 _).mono ?_
  rw [s5.out]
  rintro e w5 ⟨rfl, k5⟩
  have K5 := Lib.hid ((K4.out.allocAt (w4.heap.size) (by simp) (cells ⟨10, 15, 0, 0⟩) 26).call k5)
  have R2_5 := Lib.hid ((R2_4.out.alloc _).below (Nat.le_refl _) k5)
  clear R2_4
  clear k5
  obtain ⟨bl, bh⟩ := K5.out.at_ 2 rfl
  obtain ⟨⟨bc0, bc1, bc2, bc3⟩, bf0, bf1, bf2, bf3⟩ := bh.o4
  clear bh
  obtain ⟨cl, ch⟩ := K5.out.at_ 1 rfl
  obtain ⟨⟨cc0, cc1, cc2, cc3⟩, cf0, cf1, cf2, cf3⟩ := ch.o4
  clear ch
  obtain ⟨al, ah⟩ := K5.out.at_ 4 rfl
  obtain ⟨⟨ac0, ac1, ac2, ac3⟩, af0, af1, af2, af3⟩ := ah.o4
  clear ah
  obtain ⟨dl, dh⟩ := K5.out.at_ 0 rfl
  obtain ⟨⟨dc0, dc1, dc2, dc3⟩, df0, df1, df2, df3⟩ := dh.o4
  clear dh
  go_wp2_with fail
  refine (same_true _ _ 6 _ _ [6, 0, 0, 0, 6, -1] _ (((R2_5.out.alloc _).alloc _)) (row_rw (rw_newAt 1 6 _ _ (by simp) [.int .i64 6, .int .i64 0, .int .i64 0, .int .i64 0, .int .i64 6, .int .i64 (-1)] 3 rfl (by simp [maxLen])) (by decide))).mono ?_
  rintro e w6 ⟨rfl, k6⟩
  have K6 := Lib.hid (((K5.out.allocAt (w5.heap.size) (by simp) (cells ⟨0, 0, 0, 0⟩) 26).allocAt (w5.heap.size + 1) (by simp) [.int .i64 6, .int .i64 0, .int .i64 0, .int .i64 0, .int .i64 6, .int .i64 (-1)] 3).call k6)
  have R2_6 := Lib.hid (((R2_5.out.alloc _).alloc _).below (Nat.le_refl _) k6)
  clear R2_5
  clear bl bc0 bc1 bc2 bc3 bf0 bf1 bf2 bf3 cl cc0 cc1 cc2 cc3 cf0 cf1 cf2 cf3 al ac0 ac1 ac2 ac3 af0 af1 af2 af3 dl dc0 dc1 dc2 dc3 df0 df1 df2 df3
  clear k6
  obtain ⟨bl, bh⟩ := K6.out.at_ 4 rfl
  obtain ⟨⟨bc0, bc1, bc2, bc3⟩, bf0, bf1, bf2, bf3⟩ := bh.o4
  clear bh
  obtain ⟨cl, ch⟩ := K6.out.at_ 3 rfl
  obtain ⟨⟨cc0, cc1, cc2, cc3⟩, cf0, cf1, cf2, cf3⟩ := ch.o4
  clear ch
  obtain ⟨al, ah⟩ := K6.out.at_ 6 rfl
  obtain ⟨⟨ac0, ac1, ac2, ac3⟩, af0, af1, af2, af3⟩ := ah.o4
  clear ah
  obtain ⟨dl, dh⟩ := K6.out.at_ 2 rfl
  obtain ⟨⟨dc0, dc1, dc2, dc3⟩, df0, df1, df2, df3⟩ := dh.o4
  clear dh
  go_wp2_with fail
  refine (free_own2 ⟨10, 16, 6, 6⟩ _).mono ?_
  rw [s6.out]
  rintro e w7 ⟨rfl, k7⟩
  have K7 := Lib.hid (K6.out.call k7)
  clear bl bc0 bc1 bc2 bc3 bf0 bf1 bf2 bf3 cl cc0 cc1 cc2 cc3 cf0 cf1 cf2 cf3 al ac0 ac1 ac2 ac3 af0 af1 af2 af3 dl dc0 dc1 dc2 dc3 df0 df1 df2 df3
  clear k7
  obtain ⟨bl, bh⟩ := K7.out.at_ 4 rfl
  obtain ⟨⟨bc0, bc1, bc2, bc3⟩, bf0, bf1, bf2, bf3⟩ := bh.o4
  clear bh
  obtain ⟨cl, ch⟩ := K7.out.at_ 3 rfl
  obtain ⟨⟨cc0, cc1, cc2, cc3⟩, cf0, cf1, cf2, cf3⟩ := ch.o4
  clear ch
  obtain ⟨al, ah⟩ := K7.out.at_ 6 rfl
  obtain ⟨⟨ac0, ac1, ac2, ac3⟩, af0, af1, af2, af3⟩ := ah.o4
  clear ah
  obtain ⟨dl, dh⟩ := K7.out.at_ 2 rfl
  obtain ⟨⟨dc0, dc1, dc2, dc3⟩, df0, df1, df2, df3⟩ := dh.o4
  clear dh
  go_wp2_with fail
  refine (check_own2 ⟨10, 16, 6, 6⟩ _).mono ?_
  rw [s7.out]
  rintro e w8 ⟨rfl, k8⟩
  have K8 := Lib.hid (K7.out.call k8)
  clear bl bc0 bc1 bc2 bc3 bf0 bf1 bf2 bf3 cl cc0 cc1 cc2 cc3 cf0 cf1 cf2 cf3 al ac0 ac1 ac2 ac3 af0 af1 af2 af3 dl dc0 dc1 dc2 dc3 df0 df1 df2 df3
  clear k8
  go_wp2
  go_ret
  exact ⟨rfl, K8.out.1⟩
end Go.Proofs.Ytdonkkcdjbjkeaa
