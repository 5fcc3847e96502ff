/-
  The walks of layer 21's functions: acts by the document's answer.
-/
import Derived.Test.YtdonkkcdjbjkeaaW6
import Derived.Deep.RegionHeld3
namespace Go.Proofs.Ytdonkkcdjbjkeaa
open Go.RowKit

set_option maxHeartbeats 2000000 in
theorem run_ref (g : G) (A : Option Addr) (len cap : Nat) (zs : List (Int × Int)) (w : World) (hr : IsRecs .u8 .i64 w A len cap zs) (hl : len ≤ 1000) :
    Calls Try.prog 11 #[.agg #[.int .i64 g.w, .int .i64 g.l, .int .i64 g.u, .int .i64 g.r], .slice A len cap] w (SomeRun g zs len w) := by
  have hlen := hr.1
  obtain ⟨i0, hi, hz0, hz1, hz2⟩ := info_parts info3
  have hk := ((Keep.start w).alloc (cells g) 23).allocAt (w.heap.size + 1) (by simp) (cells ⟨0, 0, 0, 0⟩) 23
  have h0 : ((w.alloc (.cells (cells g).toArray 23)).alloc (.cells (cells ⟨0, 0, 0, 0⟩).toArray 23)).heap.size = w.heap.size + 2 := by simp
  have H0 := Lib.hid h0
  have HK := Lib.hid hk
  have HR := Lib.hid hr
  have HI := Lib.hid hi
  have HZ0 := Lib.hid hz0
  have HZ1 := Lib.hid hz1
  have HZ2 := Lib.hid hz2
  clear hr hi hz0 hz1 hz2 hk h0
  go_enter Try.func11, Try.ntmps11
  go_wp2_with fail
  go_loopw [6, 7] (fun v i wr => ∃ k : Nat, k ≤ len ∧ i = .int .i64 (k : Int) ∧ Keep w wr [(w.heap.size + 1, cells ⟨0, 0, 0, 0⟩), (w.heap.size, cells (runF g (zs.take k)).1)] ∧ wr.ownsRow (w.heap.size + 2) 3 1 v k (flat1 .i64 (runF g (zs.take k)).2) ∧ w.heap.size + 2 ≤ wr.heap.size) (fun _ i _ => len - (intOf i).toNat)
  case atStart =>
    refine ⟨0, Nat.zero_le _, rfl, HK.out, ?_, by rw [← H0.out]; exact Nat.le_refl _⟩
    simpa [flat1, runF] using World.ownsRow_nil _ (w.heap.size + 2) 3 1
  case round =>
    clear HK H0
    obtain ⟨k, hk, rfl, hkeep, hown, hsz⟩ := hrel
    have HP := Lib.hid hkeep
    have HW := Lib.hid hown
    clear hkeep hown
    by_cases hlt : k < len
    · obtain ⟨b, o, rfl, hbw, ⟨hck0w, hck1w⟩, hw0, hw1⟩ := HR.out.at_ hlt
      have hck0 := (HP.out.1.cell (p := ⟨b, o + k * 2, none⟩) hbw).trans hck0w
      have hck1 := (HP.out.1.cell (p := ⟨b, o + k * 2 + 1, none⟩) hbw).trans hck1w
      have hsn := runF_snoc g (zs.take k) (zs.getD k (0, 0))
      rw [← take_snoc2 zs k (by omega)] at hsn
      have HS := Lib.hid hsn
      obtain ⟨z0, z1⟩ := wf_u8 hw0
      have W1 := Lib.hid hw1
      clear hsn hw0 hw1 hck0w hck1w
      generalize zs.getD k (0, 0) = z at *
      generalize runF g (zs.take k) = y at *
      obtain ⟨kd, n⟩ := z
      obtain ⟨y, ys⟩ := y
      simp only [] at hck0 hck1 z0 z1
      have C0 := Lib.hid hck0
      have C1 := Lib.hid hck1
      have hbl : b < wr.heap.size := Nat.lt_of_lt_of_le hbw HP.out.1.size
      have i1 : (0 : Int) ≤ (k : Int) := by omega
      have i2 : (k : Int) < (len : Int) := by omega
      have hon : step (y, ys) (kd, n) = ((one y (kd, n)).1, ys ++ [(one y (kd, n)).2]) := rfl
      rw [hon] at HS
      clear hon
      obtain ⟨x, hx⟩ : ∃ x, x = one y (kd, n) := ⟨_, rfl⟩
      rw [← hx] at HS
      have HX := Lib.hid hx
      clear hx
      obtain ⟨x, m⟩ := x
      go_upto_region 5 with fail
      go_cut [8, 9] from 10 to 29 (fun p q wx => ∃ h : Nat, p = .pointer (some ⟨h, 0, none⟩) ∧ q = .int .i64 m ∧ Keep w wx [(h, cells x), (w.heap.size + 1, cells ⟨0, 0, 0, 0⟩), (w.heap.size, cells y)] ∧ wx.ownsRow (w.heap.size + 2) 3 1 u6 k (flat1 .i64 ys) ∧ w.heap.size + 2 ≤ wx.heap.size)
      case first =>
        go_region_held3 (fun w' => Below wr.heap.size wr w' ∧ (w'.cell? ⟨w.heap.size + 1, 0, none⟩ = some (.int .i64 0) ∧ w'.cell? ⟨w.heap.size + 1, 1, none⟩ = some (.int .i64 0) ∧ w'.cell? ⟨w.heap.size + 1, 2, none⟩ = some (.int .i64 0) ∧ w'.cell? ⟨w.heap.size + 1, 3, none⟩ = some (.int .i64 0)) ∧ (w'.cell? ⟨w.heap.size, 0, none⟩ = some (.int .i64 y.w) ∧ w'.cell? ⟨w.heap.size, 1, none⟩ = some (.int .i64 y.l) ∧ w'.cell? ⟨w.heap.size, 2, none⟩ = some (.int .i64 y.u) ∧ w'.cell? ⟨w.heap.size, 3, none⟩ = some (.int .i64 y.r)) ∧ (w'.cell? ⟨b, o + k * 2, none⟩ = some (.int .u8 kd) ∧ w'.cell? ⟨b, o + k * 2 + 1, none⟩ = some (.int .i64 n)))
          ((refine with_below ?_ (fun kq => ⟨(HP.out.held kq).2.1, (HP.out.held kq).2.2, (kq.cell (p := ⟨b, o + k * 2, none⟩) hbl).trans C0.out, (kq.cell (p := ⟨b, o + k * 2 + 1, none⟩) hbl).trans C1.out⟩); first | (with_reducible assumption) | (with_reducible exact (Below.refl _ _).drew) | (repeat (first | (with_reducible assumption) | (with_reducible exact Below.refl _ _) | (with_reducible refine Below.drew ?_) | ((with_reducible refine Below.alloc ?_ ?_ _); rotate_left; focus (first | (simp; done) | (have := kb.size; simp; omega) | (simp; omega))) | ((with_reducible refine Below.setCell ?_ ?_ _); rotate_left; focus (first | (simp; done) | (have := kb.size; simp; omega) | (simp; omega)))))))
          (first
            | (go_at_call 27; refine (act_ref y kd n _ z0 z1 W1.out).mono ?_; rw [← HX.out]; rintro e w5 ⟨rfl, kb0⟩; have kb : Below wr.heap.size wr w5 := bt (And.left (by assumption)) kb0; (first | (have hA := z_lone (cells ⟨0, 0, 0, 0⟩) 23 kb0) | (have hA := z_lone_drew (cells ⟨0, 0, 0, 0⟩) 23 kb0) | skip); (try (have hAl := hA.lt; have hAo := hA; obtain ⟨⟨hA0, hA1, hA2, hA3⟩, hAf0, hAf1, hAf2, hAf3⟩ := hAo.o4))))
        all_goals go_wp2
        all_goals go_meet
        all_goals first
          | exact ⟨w5.heap.size, rfl, rfl, (HP.out.call kb).alloc (cells x) 23, (own_below HW.out kb).alloc _, by have := kb.size; simp; omega⟩
          | exact ⟨wr.heap.size, rfl, rfl, HP.out.laid kb hA (Nat.le_refl _) (cells x), own_layNe (cells x) 0 (fun q hq => (HW.out.lt q hq).2) (own_below HW.out kb), by show _ ≤ (layC w5 wr.heap.size 0 (cells x)).heap.size; rw [size_layC]; exact Nat.le_trans hsz kb.size⟩
      case rest =>
        obtain ⟨W2, hW2⟩ : ∃ W2, W2 = wc := ⟨_, rfl⟩
        subst hW2
        obtain ⟨h8, rfl, rfl, hkeep2, hown2, s2⟩ := hcut
        have K2 := Lib.hid hkeep2
        have O2 := Lib.hid hown2
        clear hkeep2 hown2
        obtain ⟨l8, h8c⟩ := K2.out.at_ 0 rfl
        obtain ⟨⟨d0, d1, d2, d3⟩, -⟩ := h8c.o4
        obtain ⟨l2, h2⟩ := K2.out.at_ 2 rfl
        obtain ⟨⟨c0, c1, c2, c3⟩, f0, f1, f2, f3⟩ := h2.o4
        have k3 := (K2.out.cut (k := [(w.heap.size + 1, cells ⟨0, 0, 0, 0⟩), (w.heap.size, cells y)]) (fun q hq => List.mem_cons_of_mem _ hq)).lay1 1 rfl (Nat.le_refl _) (cells x) [(w.heap.size + 1, cells ⟨0, 0, 0, 0⟩)] (fun q hq => by simp at hq; subst hq; exact ⟨by simp, by simp⟩)
        have o3 := own_layC (b := w.heap.size) (cells x) 0 (by omega) O2.out
        have s3 : w.heap.size + 2 ≤ (layC W2 w.heap.size 0 (cells x)).heap.size := by rw [size_layC]; exact s2
        obtain ⟨W3, hW3⟩ : ∃ W3, W3 = layC W2 w.heap.size 0 (cells x) := ⟨_, rfl⟩
        rw [← hW3] at k3 o3 s3
        have K3 := Lib.hid k3
        have O3 := Lib.hid o3
        have E3 := Lib.hid hW3
        clear k3 o3 hW3 K2 O2 h2 h8c hck0 hck1
        go_upto_region 7 with fail
        rw [show (((W2.setCell ⟨w.heap.size, 0, none⟩ (.int .i64 x.w)).setCell ⟨w.heap.size, 1, none⟩ (.int .i64 x.l)).setCell ⟨w.heap.size, 2, none⟩ (.int .i64 x.u)).setCell ⟨w.heap.size, 3, none⟩ (.int .i64 x.r) = W3 from E3.out.symm]
        clear E3 c0 c1 c2 c3 f0 f1 f2 f3 d0 d1 d2 d3 l2 l8
        have HO := Lib.hid (rw_new 1 1 W3 [.int .i64 m] 3 rfl (by simp [maxLen]))
        go_wp2_with (at_builtin; refine wpList_append_rw rfl (.tmp 26) (.tmp 28) 32 rfl (w.heap.size + 2) 3 i0 (.int .i64 0) 1 8 Try.underlying32 HI.out HZ0.out HZ1.out HZ2.out rfl (by decide) _ _ _ rfl (O3.out.alloc _) _ _ _ _ rfl HO.out (flat1_one .i64 [m]) (by unfold maxLen; omega) (by omega) (by simp; omega) ?_; intro v4 w4 hown4 hgrow4; have O4 := Lib.hid hown4; have G4 := Lib.hid hgrow4; clear hown4 hgrow4)
        have hb4 : Below (w.heap.size + 2) W3 w4 := ((Below.refl _ _).alloc s3 _).trans (grown_below (O3.out.alloc _) G4.out (by simp; omega))
        have K4 := Lib.hid (K3.out.base hb4 (by omega) (fun q hq => by simp at hq; rcases hq with rfl | rfl <;> simp))
        have s4 : w.heap.size + 2 ≤ w4.heap.size := Nat.le_trans s3 hb4.size
        clear hb4
        go_wp2
        go_roundw
        case rel =>
          refine ⟨k + 1, by omega, by go_num, ?_, ?_, s4⟩
          · rw [HS.out]
            exact K4.out.cut (fun q hq => by simp only [List.mem_cons] at hq ⊢; rcases hq with rfl | rfl | hq; exact .inr (.inl rfl); exact .inl rfl; cases hq)
          · rw [HS.out, flat1_append]
            exact O4.out
        case measure => simp [intOf]; omega
    · have htk : zs.take k = zs := List.take_of_length_le (by omega)
      rw [htk] at HW HP
      clear htk
      have hkl : k = len := by omega
      subst hkl
      have R3 := Lib.hid (own_mono (own_layC (b := w.heap.size + 1) (cells (runF g zs).1) 0 (by omega) HW.out) (show w.heap.size ≤ w.heap.size + 2 by omega))
      clear HW
      obtain ⟨l1, h1⟩ := HP.out.at_ 1 rfl
      obtain ⟨l0, h0⟩ := HP.out.at_ 0 rfl
      obtain ⟨⟨c0, c1, c2, c3'⟩, -⟩ := h1.o4
      obtain ⟨⟨d0, d1, d2, d3⟩, f0, f1, f2, f3⟩ := h0.o4
      clear h1 h0
      go_wp2
      refine bodyPost_ret ?_ rfl ⟨u6, rfl, ?_, ?_⟩
      · simp [results, Try.results11, go_sem, d0, d1, d2, d3]
      · exact R3.out
      · exact below_layC (by omega) (cells (runF g zs).1) 0 HP.out.1
end Go.Proofs.Ytdonkkcdjbjkeaa
