/-
  The walk of SerialLatest.
-/
import Derived.Test.YtebkkiahfcelcaaW3
namespace Go.Proofs.Ytebkkiahfcelcaa
open Go.RowKit

/-! ### SerialLatest -/
theorem ltst_bd (f : Int) (zs : List Int) (b : Int) (hb : U b) (hz : ∀ z ∈ zs, U z) : U (ltst f zs b) := by
  induction zs generalizing b with
  | nil => exact hb
  | cons z l ih =>
    refine ih _ ?_ fun y hy => hz y (List.mem_cons_of_mem _ hy)
    split
    · exact hz z List.mem_cons_self
    · exact hb
theorem ltst_le (f : Int) (zs : List Int) (b : Int) : sd b f ≤ sd (ltst f zs b) f ∧ ∀ z ∈ zs, sd z f ≤ sd (ltst f zs b) f := by
  induction zs generalizing b with
  | nil => exact ⟨Int.le_refl _, by simp⟩
  | cons z l ih =>
    show sd b f ≤ sd (ltst f l (if sd b f < sd z f then z else b)) f ∧ ∀ y ∈ z :: l, sd y f ≤ sd (ltst f l (if sd b f < sd z f then z else b)) f
    by_cases hc : sd b f < sd z f
    · rw [if_pos hc]
      obtain ⟨h1, h2⟩ := ih z
      refine ⟨by omega, fun y hy => ?_⟩
      rcases List.mem_cons.1 hy with rfl | hy
      · omega
      · exact h2 y hy
    · rw [if_neg hc]
      obtain ⟨h1, h2⟩ := ih b
      refine ⟨by omega, fun y hy => ?_⟩
      rcases List.mem_cons.1 hy with rfl | hy
      · omega
      · exact h2 y hy
theorem ltst_mem (f : Int) (zs : List Int) (b : Int) : ltst f zs b = b ∨ ltst f zs b ∈ zs := by
  induction zs generalizing b with
  | nil => exact .inl rfl
  | cons z l ih =>
    show ltst f l (if sd b f < sd z f then z else b) = b ∨ ltst f l (if sd b f < sd z f then z else b) ∈ z :: l
    rcases ih (if sd b f < sd z f then z else b) with h | h
    · rw [h]; split
      · exact .inr List.mem_cons_self
      · exact .inl rfl
    · exact .inr (List.mem_cons_of_mem _ h)

theorem in_iff (z f : Int) (hz : U z) (hf : U f) : decide ((z - f) % 4294967296 < 2147483648) = decide (0 ≤ sd z f) := by
  obtain ⟨_, _⟩ := hz
  obtain ⟨_, _⟩ := hf
  rw [decide_eq_decide]; unfold sd; omega

/-- Is b one of some? -/
def anyIs (b : Int) (l : List Int) : Bool := l.any (· == b)
theorem anyIs_snoc (b : Int) (l : List Int) (z : Int) : anyIs b (l ++ [z]) = (anyIs b l || z == b) := by simp [anyIs]

theorem latest_walk (f : Int) (A : Option Addr) (len cap : Nat) (zs : List Int) (w : World) (hf : (Lit.int .u32 f).wf = true) (hr : IsRow .u32 w A len cap zs) :
    Calls Try.prog 6 #[.int .u32 f, .slice A len cap] w fun e w' => e = .returned (.bool true) ∧ Below w.heap.size w w' := by
  have hu := wf_u32 hf
  by_cases hl : 40 < len
  · have hl' : (40 : Int) < (len : Int) := by omega
    go_enter Try.func6, Try.ntmps6
    go_wp2_with (go_at_call 15; refine (awake_true _).mono ?_; rintro e w' ⟨rfl, hb⟩)
    go_ret
    exact ⟨rfl, by assumption⟩
  · have hl' : ¬ (40 : Int) < (len : Int) := by omega
    have hzu : ∀ z ∈ zs, U z := fun z hz => wf_u32 (hr.2.2.2.1 z hz)
    have hle := (ltst_le f zs f).2
    have h0 : 0 ≤ sd (ltst f zs f) f := by have := (ltst_le f zs f).1; have e : sd f f = 0 := by unfold sd; omega
                                           omega
    have hmem := ltst_mem f zs f
    have hub := ltst_bd f zs f hu hzu
    have hlen := hr.1
    generalize hg : ltst f zs f = g at *
    have HG := Lib.hid hg
    clear hg hf
    have HLE := Lib.hid hle
    clear hle
    go_enter Try.func6, Try.ntmps6
    go_wp2_with fail
    refine (latest_own _ _ _ zs _ hu _ hr (by omega)).mono ?_
    rintro e w1 ⟨rfl, hb1⟩
    rw [HG.out]
    have hr1 := hr.below (Nat.le_refl _) hb1
    go_wp2_with fail
    go_loopw [6, 7] (fun fd i wr => ∃ (k : Nat) (q : Bool), k ≤ len ∧ i = .int .i64 (k : Int) ∧ fd = .bool q ∧ Hid (q = (g == f || anyIs g (zs.take k))) ∧ Below w1.heap.size w1 wr) (fun _ i _ => len - (intOf i).toNat)
    case atStart => exact ⟨0, _, by omega, rfl, rfl, by simp [anyIs, Hid], Below.refl _ _⟩
    case round =>
      obtain ⟨k, q, hk, rfl, rfl, hq, hbr⟩ := hrel
      by_cases hlt : k < len
      · obtain ⟨b, o, rfl, hbl, hck, hwz⟩ := hr1.at_ hlt
        have hck := (hbr.cell (p := ⟨b, o + k, none⟩) hbl).trans hck
        have huz := wf_u32 hwz
        have hlz : sd (zs.getD k 0) f ≤ sd g f := HLE.out _ (by rw [List.getD_eq_getElem?_getD]; simp [show k < zs.length by omega])
        have hsn := anyIs_snoc g (zs.take k) (zs.getD k 0)
        rw [← take_snoc zs k (by omega)] at hsn
        have HS := Lib.hid hsn
        clear hsn hwz
        have hin := in_iff (zs.getD k 0) f huz hu
        generalize zs.getD k 0 = z at *
        have hd : decide (sd g f < sd z f) = false := by simp; omega
        cases q
        all_goals
          go_wp2_with fail
          go_quiet (first | (go_at_call 9; exact Calls.quiet_of_same ((diff_own _ _ _).mono fun _ _ ⟨a, b⟩ => ⟨a, b.symm⟩)) | (go_at_call 13; exact Calls.quiet_of_same ((in_own _ _ _ _).mono fun _ _ ⟨a, b⟩ => ⟨a, b.symm⟩)))
          go_wp2
          go_roundw
          case rel => exact ⟨k + 1, _, by omega, by go_num, rfl, by have e := hq.out; show _ = _; rw [HS.out, ← Bool.or_assoc, ← e]; simp, below_drewN hbr _⟩
          case measure => simp [intOf]; omega
      · rw [List.take_of_length_le (by omega)] at hq
        have hqt : q = true := by
          rw [hq.out]
          rcases hmem with h | h
          · simp [h]
          · simp [anyIs]; exact .inr h
        subst hqt
        go_wp2_with (first
          | (go_at_call 9; refine (diff_own _ _ _).mono ?_; rintro e w' ⟨rfl, rfl⟩)
          | (go_at_call 15; refine (awake_true _).mono ?_; rintro e w2 ⟨rfl, hb2⟩))
        go_ret
        exact ⟨rfl, (hb1.trans (hbr.mono hb1.size)).trans (hb2.mono (hb1.trans (hbr.mono hb1.size)).size)⟩

end Go.Proofs.Ytebkkiahfcelcaa
