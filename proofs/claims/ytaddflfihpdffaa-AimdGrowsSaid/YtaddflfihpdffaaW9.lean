/-
  The walk of AimdGrows.
-/
import Derived.Test.YtaddflfihpdffaaW7
namespace Go.Proofs.Ytaddflfihpdffaa
open Go.RowKit

/-- A window's worth of bytes. -/
def accN (x : S) : Nat → S
  | 0 => x
  | j + 1 => ack (accN x j) 48
/-- How many payloads a window has. -/
def pays (x : S) : Nat := ((x.a + 47) / 48).toNat
def full (x : S) : S := accN x (pays x)
def fullN (x : S) : Nat → S
  | 0 => x
  | j + 1 => full (fullN x j)
def growsB (x : S) : Bool := (List.range 90).all (fun k => decide (chk (fullN x k) = 0 ∧ ((fullN x k).a < 4096 → (fullN x k).a < (fullN x (k + 1)).a))) && (List.range 91).all (fun k => decide (k = 90 ∨ 4096 ≤ (fullN x k).a → (fullN x k).a = 4096))
theorem grows_new : growsB ⟨96, 1024, 0⟩ = true := by decide +kernel
theorem grows_lost : growsB ⟨96, 96, 0⟩ = true := by decide +kernel
theorem grows_expd : growsB ⟨48, 96, 0⟩ = true := by decide +kernel
theorem grows_of {x : S} (h : growsB x = true) (k : Nat) (hk : k ≤ 90) : (k < 90 → chk (fullN x k) = 0 ∧ ((fullN x k).a < 4096 → (fullN x k).a < (fullN x (k + 1)).a)) ∧ (k = 90 ∨ 4096 ≤ (fullN x k).a → (fullN x k).a = 4096) := by
  unfold growsB at h
  rw [Bool.and_eq_true, List.all_eq_true, List.all_eq_true] at h
  refine ⟨fun h90 => ?_, ?_⟩
  · have := h.1 k (List.mem_range.2 h90)
    simpa only [decide_eq_true_eq] using this
  · have := h.2 k (List.mem_range.2 (by omega))
    simpa only [decide_eq_true_eq] using this
theorem grows_first (kd : Int) : growsB (run1 ⟨96, 1024, 0⟩ (kd, 0)) = true := by
  unfold run1
  split
  · rw [show ack ⟨96, 1024, 0⟩ 0 = ⟨96, 1024, 0⟩ from ack_no (by omega)]; exact grows_new
  · split
    · rw [show lost ⟨96, 1024, 0⟩ = ⟨96, 96, 0⟩ from by decide]; exact grows_lost
    · rw [show expd ⟨96, 1024, 0⟩ = ⟨48, 96, 0⟩ from by decide]; exact grows_expd

set_option maxHeartbeats 4000000 in
theorem grows_walk (kd : Int) (w : World) (hk : (Lit.int .u8 kd).wf = true) :
    Calls Try.prog 5 #[.int .u8 kd] w fun e w' => e = .returned (.bool true) ∧ Below w.heap.size w w' := by
  have HK := Lib.hid hk
  clear hk
  go_enter Try.func5, Try.ntmps5
  go_wp2_with fail
  refine (new_own _).mono ?_
  rintro e w1 ⟨rfl, hb1⟩
  go_wp2_with fail
  refine (run_own ⟨96, 1024, 0⟩ _ _ _ [(kd, 0)] _ (rec_one _ _ _ _ rfl _ _ HK.out (by decide) _) (by omega)).mono ?_
  rw [show runs ⟨96, 1024, 0⟩ [(kd, 0)] = run1 ⟨96, 1024, 0⟩ (kd, 0) from rfl]
  have hg := grows_first kd
  generalize run1 ⟨96, 1024, 0⟩ (kd, 0) = x at *
  have HG := Lib.hid hg
  clear hg
  rintro e w2 ⟨rfl, hb2⟩
  have hw2 : w1.heap.size ≤ w2.heap.size := by have := hb2.size; simp at this; omega
  have hw1 := hb1.size
  have k2 := (show Keep w w2 [] from ⟨bt hb1 (((Below.refl _ _).alloc (Nat.le_refl _) _).trans (hb2.mono (by simp))), fun x hx => by cases hx⟩).alloc (cells x) 26
  have K2 := Lib.hid k2
  clear k2 hb1 hb2
  go_wp2_with fail
  go_loopw [4, 5, 6] (fun i p q wr => ∃ k : Nat, k ≤ 90 ∧ i = .int .i64 (k : Int) ∧ Keep w wr [(w2.heap.size, cells (fullN x k))]) (fun i _ _ _ => 90 - (intOf i).toNat)
  case atStart => exact ⟨0, by omega, rfl, K2.out⟩
  case round =>
    clear K2
    obtain ⟨k, hk, rfl, hkeep⟩ := hrel
    have HP := Lib.hid hkeep
    clear hkeep
    obtain ⟨g1, g2⟩ := grows_of HG.out k hk
    obtain ⟨l1, h1⟩ := HP.out.at_ 0 rfl
    obtain ⟨⟨c0, c1, c2⟩, -⟩ := h1.o3
    clear h1
    by_cases hlt : k < 90
    · obtain ⟨g3, g4⟩ := g1 hlt
      by_cases ha : (fullN x k).a < 4096
      · have g5 := g4 ha
        have hfs : fullN x (k + 1) = accN (fullN x k) (pays (fullN x k)) := rfl
        have HF := Lib.hid hfs
        obtain ⟨b1, b2, -⟩ := chk_ok g3
        have hp : pays (fullN x k) = (((fullN x k).a + 47) / 48).toNat := rfl
        have G5 := Lib.hid g5
        clear hfs g1 g2 g3 g4 g5
        generalize fullN x k = y at *
        obtain ⟨m, hm⟩ : ∃ m, m = pays y := ⟨_, rfl⟩
        rw [← hm] at HF hp
        clear hm
        obtain ⟨wo, hwo⟩ : ∃ wo : World, wo = wr := ⟨_, rfl⟩
        subst hwo
        have hm1 : ∀ j : Nat, j < m ↔ (48 * (j : Int)) < y.a := fun j => by omega
        have hm2 : m ≤ 86 := by omega
        have HM := Lib.hid hm1
        clear hm1 hp
        go_wp2_with fail
        clear c0 c1 c2
        go_loopw [6] (fun q wr => ∃ j : Nat, j ≤ m ∧ q = .int .i64 (48 * (j : Int)) ∧ Keep w wr [(w2.heap.size, cells (accN y j))]) (fun q _ => 4200 - (intOf q).toNat)
        case atStart => exact ⟨0, by omega, rfl, HP.out⟩
        case round =>
          clear HP
          obtain ⟨j, hj, rfl, hkeep⟩ := hrel
          have HP := Lib.hid hkeep
          clear hkeep
          obtain ⟨l1, h1⟩ := HP.out.at_ 0 rfl
          obtain ⟨⟨c0, c1, c2⟩, f0, f1, f2⟩ := h1.o3
          clear h1
          by_cases hjm : j < m
          · have hja := (HM.out j).1 hjm
            go_wp2_with fail
            refine (acked_own (accN y j) 48 _).mono ?_
            rw [show ack (accN y j) 48 = accN y (j + 1) from rfl]
            obtain ⟨z, hz⟩ : ∃ z, z = accN y (j + 1) := ⟨_, rfl⟩
            rw [← hz]
            have HZ := Lib.hid hz
            clear hz
            rintro e w3 ⟨rfl, hb3⟩
            have K3 := Lib.hid (HP.out.call hb3)
            clear hb3 c0 c1 c2 f0 f1 f2
            obtain ⟨l3, h3⟩ := K3.out.at_ 0 rfl
            obtain ⟨⟨c0, c1, c2⟩, f0, f1, f2⟩ := h3.o3
            clear h3
            go_wp2
            go_roundw
            case rel => exact ⟨j + 1, by omega, by go_num, by rw [← HZ.out]; exact K3.out.one 0 rfl (by omega) (cells z)⟩
            case measure => simp [intOf]; omega
          · have hja : ¬ (48 * (j : Int)) < y.a := fun h => hjm ((HM.out j).2 h)
            have hjm' : j = m := by omega
            subst hjm'
            rw [← HF.out] at HP c0 c1 c2
            have g5 := G5.out
            have HQ : Hid (Keep w wr [(w2.heap.size, cells (fullN x (k + 1)))]) := HP
            clear HP
            go_wp2
            go_roundw
            case rel => exact ⟨k + 1, by omega, by go_num, HQ.out⟩
            case measure => simp [intOf]; omega
      · have g5 := g2 (.inr (by omega))
        rw [g5] at c0
        clear g1 g2 g3 g4 g5
        have d1 : decide ((k : Int) < 90) = true := by simp; omega
        go_wp2_with fail
        refine (awake_true _).mono ?_
        rintro e w6 ⟨rfl, k6⟩
        go_wp2
        go_ret
        exact ⟨rfl, bt HP.out.1 k6⟩
    · have g5 := g2 (.inl (by omega))
      rw [g5] at c0
      clear g1 g2 g5
      have d1 : decide ((k : Int) < 90) = false := by simp; omega
      go_wp2_with fail
      refine (awake_true _).mono ?_
      rintro e w6 ⟨rfl, k6⟩
      go_wp2
      go_ret
      exact ⟨rfl, bt HP.out.1 k6⟩
theorem grows_all (kd : Int) (w : World) (hk : (Lit.int .u8 kd).wf = true) :
    Calls Try.prog 5 #[.int .u8 kd] w fun e w' => e = .returned (.bool true) ∧ Below w.heap.size w w' := grows_walk kd w hk
end Go.Proofs.Ytaddflfihpdffaa
