/-
  The walks of layer 21's functions: acts.
-/
import Derived.Test.YtdonkkcdjbjkeaaW5
import Derived.Deep.CutRange
import Derived.Deep.DeepCutAuto
namespace Go.Proofs.Ytdonkkcdjbjkeaa
open Go.RowKit

def cells (g : G) : List Value := [.int .i64 g.w, .int .i64 g.l, .int .i64 g.u, .int .i64 g.r]
def step (p : G × List Int) (z : Int × Int) : G × List Int := ((one p.1 z).1, p.2 ++ [(one p.1 z).2])
/-- Acts, and what they told. -/
def runF (g : G) (zs : List (Int × Int)) : G × List Int := zs.foldl step (g, [])
theorem runF_snoc (g : G) (zs : List (Int × Int)) (z : Int × Int) : runF g (zs ++ [z]) = step (runF g zs) z := by simp [runF]
theorem one_bd (g : G) (z : Int × Int) : -1 ≤ (one g z).2 ∧ (one g z).2 ≤ 1099511627776 := by
  unfold one
  split
  · split <;> simp
  · split
    · split <;> simp
    · split
      · split
        · unfold reach
          split
          · rename_i h
            obtain ⟨b1, b2, b3, b4, b5, b6, b7, b8⟩ := chk_ok h.1
            simp only []
            omega
          · simp
        · simp
      · split
        · simp
        · unfold grant
          split
          · rename_i h
            obtain ⟨b1, b2, b3, b4, b5, b6, b7, b8⟩ := chk_ok h.1
            have := h.2
            simp only [more] at this ⊢
            omega
          · simp
theorem runF_len (g : G) (zs : List (Int × Int)) : (runF g zs).2.length = zs.length := by
  have : ∀ (zs : List (Int × Int)) (p : G × List Int), (zs.foldl step p).2.length = p.2.length + zs.length := by
    intro zs
    induction zs with
    | nil => intro p; simp
    | cons z zs ih => intro p; rw [List.foldl_cons, ih]; simp [step]; omega
  have h := this zs (g, [])
  simpa [runF] using h
theorem runF_wf (g : G) (zs : List (Int × Int)) : ∀ q ∈ (runF g zs).2, (Lit.int .i64 q).wf = true := by
  have : ∀ (zs : List (Int × Int)) (p : G × List Int), (∀ q ∈ p.2, (Lit.int .i64 q).wf = true) → ∀ q ∈ (zs.foldl step p).2, (Lit.int .i64 q).wf = true := by
    intro zs
    induction zs with
    | nil => intro p h; exact h
    | cons z zs ih =>
      intro p h
      refine ih _ fun q hq => ?_
      simp only [step, List.mem_append, List.mem_singleton] at hq
      rcases hq with hq | rfl
      · exact h q hq
      · have := one_bd p.1 z
        exact WalkArith.wf_i64 (by omega)
  exact this zs (g, []) (by simp)
def SomeRun (g : G) (zs : List (Int × Int)) (len : Nat) (w : World) (e : Ending) (w' : World) : Prop :=
  ∃ v, e = .returned (.tuple #[.agg #[.int .i64 (runF g zs).1.w, .int .i64 (runF g zs).1.l, .int .i64 (runF g zs).1.u, .int .i64 (runF g zs).1.r], v]) ∧ w'.ownsRow w.heap.size 3 1 v len (flat1 .i64 (runF g zs).2) ∧ Below w.heap.size w w'

set_option maxHeartbeats 2000000 in
theorem run_own (g : G) (A : Option Addr) (len cap : Nat) (zs : List (Int × Int)) (w : World) (hr : IsRecs .u8 .i64 w A len cap zs) (hl : len ≤ 1000) :
    Calls Try.prog 9 #[.agg #[.int .i64 g.w, .int .i64 g.l, .int .i64 g.u, .int .i64 g.r], .slice A len cap] w (SomeRun g zs len w) := by
  have hlen := hr.1
  obtain ⟨i0, hi, hz0, hz1, hz2⟩ := info_parts info3
  have hk := ((Keep.start w).alloc (cells g) 26).allocAt (w.heap.size + 1) (by simp) (cells ⟨0, 0, 0, 0⟩) 26
  have h0 : ((w.alloc (.cells (cells g).toArray 26)).alloc (.cells (cells ⟨0, 0, 0, 0⟩).toArray 26)).heap.size = w.heap.size + 2 := by simp
  have H0 := Lib.hid h0
  have HK := Lib.hid hk
  have HR := Lib.hid hr
  have HI := Lib.hid hi
  have HZ0 := Lib.hid hz0
  have HZ1 := Lib.hid hz1
  have HZ2 := Lib.hid hz2
  clear hr hi hz0 hz1 hz2 hk h0
  go_enter Try.func9, Try.ntmps9
  go_wp2_with fail
  go_loopw [6, 9, 12] (fun v q i wr => ∃ k : Nat, k ≤ len ∧ i = .int .i64 (k : Int) ∧ Keep w wr [(w.heap.size + 1, cells ⟨0, 0, 0, 0⟩), (w.heap.size, cells (runF g (zs.take k)).1)] ∧ wr.ownsRow (w.heap.size + 2) 3 1 v k (flat1 .i64 (runF g (zs.take k)).2) ∧ w.heap.size + 2 ≤ wr.heap.size) (fun _ _ i _ => len - (intOf i).toNat)
  case atStart =>
    refine ⟨0, Nat.zero_le _, rfl, HK.out, ?_, by rw [← H0.out]; exact Nat.le_refl _⟩
    simpa [flat1, runF] using World.ownsRow_nil _ (w.heap.size + 2) 3 1
  case round =>
    clear HK H0
    obtain ⟨k, hk, rfl, hkeep, hown, hsz⟩ := hrel
    have HP := Lib.hid hkeep
    have HW := Lib.hid hown
    clear hkeep hown
    by_cases hlt : k < len
    · obtain ⟨b, o, rfl, hbw, ⟨hck0w, hck1w⟩, hw0, hw1⟩ := HR.out.at_ hlt
      have hck0 := (HP.out.1.cell (p := ⟨b, o + k * 2, none⟩) hbw).trans hck0w
      have hck1 := (HP.out.1.cell (p := ⟨b, o + k * 2 + 1, none⟩) hbw).trans hck1w
      have hsn := runF_snoc g (zs.take k) (zs.getD k (0, 0))
      rw [← take_snoc2 zs k (by omega)] at hsn
      have HS := Lib.hid hsn
      obtain ⟨z0, z1⟩ := wf_u8 hw0
      have W1 := Lib.hid hw1
      clear hsn hw0 hw1 hck0w hck1w
      generalize zs.getD k (0, 0) = z at *
      generalize runF g (zs.take k) = y at *
      obtain ⟨kd, n⟩ := z
      obtain ⟨y, ys⟩ := y
      simp only [] at hck0 hck1 z0 z1
      obtain ⟨l1, h1⟩ := HP.out.at_ 1 rfl
      obtain ⟨⟨c0, c1, c2, c3⟩, -⟩ := h1.o4
      have hne : b ≠ wr.heap.size := by have := HP.out.1.size; omega
      go_wp2_with fail
      refine (act_own y kd n _ z0 z1 W1.out).mono ?_
      have hon : step (y, ys) (kd, n) = ((one y (kd, n)).1, ys ++ [(one y (kd, n)).2]) := rfl
      rw [hon] at HS
      clear hon
      obtain ⟨x, hx⟩ : ∃ x, x = one y (kd, n) := ⟨_, rfl⟩
      rw [← hx] at HS ⊢
      clear hx
      obtain ⟨x, m⟩ := x
      rintro e w2 ⟨rfl, hb⟩
      have K2 := Lib.hid ((HP.out.made _).call hb)
      have O2 := Lib.hid (own_below (HW.out.alloc _) hb)
      have s2 : w.heap.size + 2 ≤ w2.heap.size := by have := hb.size; simp at this; omega
      clear hb h1 c0 c1 c2 c3 hck0 hck1
      obtain ⟨l2, h2⟩ := K2.out.at_ 1 rfl
      obtain ⟨⟨c0, c1, c2, c3⟩, f0, f1, f2, f3⟩ := h2.o4
      have k3 := K2.out.lay1 1 rfl (Nat.le_refl _) (cells x) [(w.heap.size + 1, cells ⟨0, 0, 0, 0⟩)] (fun q hq => by simp at hq; subst hq; exact ⟨by simp, by simp⟩)
      have o3 := own_layC (b := w.heap.size) (cells x) 0 (by omega) O2.out
      have s3 : w.heap.size + 2 ≤ (layC w2 w.heap.size 0 (cells x)).heap.size := by rw [size_layC]; exact s2
      obtain ⟨W3, hW3⟩ : ∃ W3, W3 = layC w2 w.heap.size 0 (cells x) := ⟨_, rfl⟩
      rw [← hW3] at k3 o3 s3
      have K3 := Lib.hid k3
      have O3 := Lib.hid o3
      have E3 := Lib.hid hW3
      clear k3 o3 hW3 K2 O2 h2
      go_upto_region 7 with fail
      rw [show (((w2.setCell ⟨w.heap.size, 0, none⟩ (.int .i64 x.w)).setCell ⟨w.heap.size, 1, none⟩ (.int .i64 x.l)).setCell ⟨w.heap.size, 2, none⟩ (.int .i64 x.u)).setCell ⟨w.heap.size, 3, none⟩ (.int .i64 x.r) = W3 from E3.out.symm]
      clear E3 c0 c1 c2 c3 f0 f1 f2 f3 l1 l2
      have HO := Lib.hid (rw_new 1 1 W3 [.int .i64 m] 3 rfl (by simp [maxLen]))
      go_wp2_with (at_builtin; refine wpList_append_rw rfl (.tmp 22) (.tmp 24) 32 rfl (w.heap.size + 2) 3 i0 (.int .i64 0) 1 8 Try.underlying32 HI.out HZ0.out HZ1.out HZ2.out rfl (by decide) _ _ _ rfl (O3.out.alloc _) _ _ _ _ rfl HO.out (flat1_one .i64 [m]) (by unfold maxLen; omega) (by omega) (by simp; omega) ?_; intro v4 w4 hown4 hgrow4; have O4 := Lib.hid hown4; have G4 := Lib.hid hgrow4; clear hown4 hgrow4)
      have hb4 : Below (w.heap.size + 2) W3 w4 := ((Below.refl _ _).alloc s3 _).trans (grown_below (O3.out.alloc _) G4.out (by simp; omega))
      have K4 := Lib.hid (K3.out.base hb4 (by omega) (fun q hq => by simp at hq; rcases hq with rfl | rfl <;> simp))
      have s4 : w.heap.size + 2 ≤ w4.heap.size := Nat.le_trans s3 hb4.size
      clear hb4
      go_wp2
      go_roundw
      case rel =>
        refine ⟨k + 1, by omega, by go_num, ?_, ?_, s4⟩
        · rw [HS.out]
          exact K4.out.cut (fun q hq => by simp only [List.mem_cons] at hq ⊢; rcases hq with rfl | rfl | hq; exact .inr (.inl rfl); exact .inl rfl; cases hq)
        · rw [HS.out, flat1_append]
          exact O4.out
      case measure => simp [intOf]; omega
    · have htk : zs.take k = zs := List.take_of_length_le (by omega)
      rw [htk] at HW HP
      clear htk
      have hkl : k = len := by omega
      subst hkl
      have R3 := Lib.hid (own_mono (own_layC (b := w.heap.size + 1) (cells (runF g zs).1) 0 (by omega) HW.out) (show w.heap.size ≤ w.heap.size + 2 by omega))
      clear HW
      obtain ⟨l1, h1⟩ := HP.out.at_ 1 rfl
      obtain ⟨l0, h0⟩ := HP.out.at_ 0 rfl
      obtain ⟨⟨c0, c1, c2, c3'⟩, -⟩ := h1.o4
      obtain ⟨⟨d0, d1, d2, d3⟩, f0, f1, f2, f3⟩ := h0.o4
      clear h1 h0
      go_wp2
      refine bodyPost_ret ?_ rfl ⟨u6, rfl, ?_, ?_⟩
      · simp [results, Try.results9, go_sem, d0, d1, d2, d3]
      · exact R3.out
      · exact below_layC (by omega) (cells (runF g zs).1) 0 HP.out.1
end Go.Proofs.Ytdonkkcdjbjkeaa
