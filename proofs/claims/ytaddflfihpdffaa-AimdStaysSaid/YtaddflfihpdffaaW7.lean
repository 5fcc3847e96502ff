/-
  The walk of AimdStays.
-/
import Derived.Test.YtaddflfihpdffaaW6
import Derived.Deep.CutRange
import Derived.Deep.DeepCutAuto
namespace Go.Proofs.Ytaddflfihpdffaa
open Go.RowKit

theorem chk_mk {x : S} (h : 48 ≤ x.a ∧ x.a ≤ 4096 ∧ 48 ≤ x.t ∧ x.t ≤ 4096 ∧ 0 ≤ x.p ∧ x.p < x.a) : chk x = 0 := by
  unfold chk; rw [if_neg (by omega)]
theorem ack_ok {x : S} (hc : chk x = 0) (n : Int) : chk (ack x n) = 0 ∧ x.a ≤ (ack x n).a ∧ (ack x n).a ≤ x.a + 48 := by
  obtain ⟨b1, b2, b3, b4, b5, b6⟩ := chk_ok hc
  by_cases h : 1 ≤ n ∧ n ≤ 4096
  · by_cases h1 : x.a < x.t
    · rw [ack_slow hc h.1 h.2 h1]; exact ⟨chk_mk (by simp only; omega), by simp only; omega, by simp only; omega⟩
    · by_cases h2 : x.a ≤ x.p + n
      · rw [ack_round hc h.1 h.2 h1 h2]; exact ⟨chk_mk (by simp only; omega), by simp only; omega, by simp only; omega⟩
      · rw [ack_part hc h.1 h.2 h1 h2]; exact ⟨chk_mk (by simp only; omega), by simp only; omega, by simp only; omega⟩
  · rw [ack_no (by omega)]; exact ⟨hc, by omega, by omega⟩
theorem lost_yes {x : S} (hc : chk x = 0) : lost x = ⟨max (x.a / 2) 96, max (x.a / 2) 96, 0⟩ := if_pos hc
theorem expd_yes {x : S} (hc : chk x = 0) : expd x = ⟨48, max (x.a / 2) 96, 0⟩ := if_pos hc
theorem run1_ok {x : S} (hc : chk x = 0) (z : Int × Int) : chk (run1 x z) = 0 ∧ (run1 x z).a ≤ x.a + 48 ∧ (z.1 % 3 = 0 → x.a ≤ (run1 x z).a) ∧ (z.1 % 3 ≠ 0 → (run1 x z).a ≤ max x.a 96) := by
  obtain ⟨b1, b2, b3, b4, b5, b6⟩ := chk_ok hc
  unfold run1
  split
  · rename_i h
    obtain ⟨h1, h2, h3⟩ := ack_ok hc z.2
    exact ⟨h1, h3, fun _ => h2, fun e => absurd h e⟩
  · rename_i h
    split
    · rw [lost_yes hc]; exact ⟨chk_mk (by simp only; omega), by simp only; omega, fun e => absurd e h, fun _ => by simp only; omega⟩
    · rw [expd_yes hc]; exact ⟨chk_mk (by simp only; omega), by simp only; omega, fun e => absurd e h, fun _ => by simp only; omega⟩
theorem fre_le {x : S} (hc : chk x = 0) (f : Int) : fre x f ≤ x.a := by
  obtain ⟨b1, b2, b3, b4, b5, b6⟩ := chk_ok hc
  unfold fre; rw [if_pos hc]; omega
theorem fre_bd {x : S} (hc : chk x = 0) (f : Int) : 0 ≤ fre x f ∧ fre x f ≤ 4096 := by
  obtain ⟨b1, b2, b3, b4, b5, b6⟩ := chk_ok hc
  unfold fre; rw [if_pos hc]; omega
set_option maxHeartbeats 4000000 in
theorem stays_walk (A : Option Addr) (len cap : Nat) (zs : List (Int × Int)) (f : Int) (w : World) (hr : IsRecs .u8 .i64 w A len cap zs) (hf : (Lit.int .u16 f).wf = true) :
    Calls Try.prog 4 #[.slice A len cap, .int .u16 f] w fun e w' => e = .returned (.bool true) ∧ Below w.heap.size w w' := by
  obtain ⟨f1, f2⟩ := wf_u16 hf
  clear hf
  by_cases hl : 60 < len
  · have hl' : (60 : Int) < (len : Int) := by omega
    go_enter Try.func4, Try.ntmps4
    go_wp2_with fail
    refine (awake_true _).mono ?_
    rintro e w1 ⟨rfl, hb1⟩
    go_wp2
    go_ret
    exact ⟨rfl, hb1⟩
  have hl' : ¬ (60 : Int) < (len : Int) := by omega
  have HR := Lib.hid hr
  clear hr
  go_enter Try.func4, Try.ntmps4
  go_wp2_with fail
  refine (new_own _).mono ?_
  rintro e w1 ⟨rfl, hb1⟩
  have hw1 : w.heap.size ≤ w1.heap.size := hb1.size
  have hk := (show Keep w w1 [] from ⟨hb1, fun x hx => by cases hx⟩).alloc (cells ⟨96, 1024, 0⟩) 26
  have HK := Lib.hid hk
  clear hk hb1
  go_wp2_with fail
  go_loopw [6] (fun i wr => ∃ k : Nat, k ≤ len ∧ i = .int .i64 (k : Int) ∧ ∃ y, chk y = 0 ∧ Keep w wr [(w1.heap.size, cells y)]) (fun i _ => len - (intOf i).toNat)
  case atStart => exact ⟨0, by omega, rfl, ⟨96, 1024, 0⟩, by decide, HK.out⟩
  case round =>
    clear HK
    obtain ⟨k, hk, rfl, y, hy, hkeep⟩ := hrel
    have HK := Lib.hid hkeep
    have HY := Lib.hid hy
    clear hkeep hy
    by_cases hlt : k < len
    · obtain ⟨b, o, rfl, hbw, ⟨hck0w, hck1w⟩, hw0, hw1'⟩ := HR.out.at_ hlt
      have hbl : b < wr.heap.size := Nat.lt_of_lt_of_le hbw HK.out.1.size
      obtain ⟨z0, z1⟩ := wf_u8 hw0
      generalize zs.getD k (0, 0) = z at *
      obtain ⟨kd, n⟩ := z
      simp only [] at hck0w hck1w hw0 hw1' z0 z1
      have hck0 := (HK.out.1.cell (p := ⟨b, o + k * 2, none⟩) hbw).trans hck0w
      have hck1 := (HK.out.1.cell (p := ⟨b, o + k * 2 + 1, none⟩) hbw).trans hck1w
      have CW := Lib.hid hck0w
      clear hck0w hck1w
      obtain ⟨l1, h1⟩ := HK.out.at_ 0 rfl
      obtain ⟨⟨c0, c1, c2⟩, -⟩ := h1.o3
      have W0 := Lib.hid hw0
      have W1 := Lib.hid hw1'
      have C0 := Lib.hid hck0
      have C1 := Lib.hid hck1
      have HC := Lib.hid h1
      have hfr := fre_le (run1_ok HY.out (kd, n)).1 f
      obtain ⟨x, hx⟩ : ∃ x, x = run1 y (kd, n) := ⟨_, rfl⟩
      have hok := run1_ok HY.out (kd, n)
      rw [← hx] at hok hfr
      have HX := Lib.hid hx
      have HOK := Lib.hid hok
      have HFR := Lib.hid hfr
      clear h1 hw0 hw1' hx hok hfr
      go_upto_region 7 with fail
      go_cut [7] from 13 to 77 (fun p wx => ∃ g : Nat, p = .pointer (some ⟨g, 0, none⟩) ∧ Keep w wx [(g, cells x), (w1.heap.size, cells y)])
      case first =>
        go_region_held3 (fun w' => Below wr.heap.size wr w' ∧ (w'.cell? ⟨w1.heap.size, 0, none⟩ = some (.int .i64 y.a) ∧ w'.cell? ⟨w1.heap.size, 1, none⟩ = some (.int .i64 y.t) ∧ w'.cell? ⟨w1.heap.size, 2, none⟩ = some (.int .i64 y.p)) ∧ (w'.cell? ⟨b, o + k * 2, none⟩ = some (.int .u8 kd) ∧ w'.cell? ⟨b, o + k * 2 + 1, none⟩ = some (.int .i64 n)))
          ((refine with_below ?_ (fun kq => ⟨(HK.out.held kq).2, (kq.cell (p := ⟨b, o + k * 2, none⟩) hbl).trans C0.out, (kq.cell (p := ⟨b, o + k * 2 + 1, none⟩) hbl).trans C1.out⟩); first | assumption | exact (Below.refl _ _).drew | (repeat (first | assumption | exact Below.refl _ _ | refine Below.drew ?_ | refine Below.alloc ?_ (by first | (simp; done) | (simp; omega) | exact kb.size) _ | refine Below.setCell ?_ (by first | (simp; done) | (simp; omega) | exact kb.size) _))))
          (first
            | (go_at_call 12; refine (run_own y _ _ _ [(kd, n)] _ ?_ (by omega)).mono ?_; (first | exact rec_one _ _ _ _ (by simp) _ _ W0.out W1.out _ | exact (rec_one _ _ _ _ (by simp) _ _ W0.out W1.out _).drew | exact (rec_one _ _ _ _ (by simp) _ _ W0.out W1.out _).alloc _ | exact ((rec_one _ _ _ _ (by simp) _ _ W0.out W1.out _).alloc _).drew); rw [show runs y [(kd, n)] = x from HX.out.symm]; rintro e w5 ⟨rfl, kb0⟩; have kb : Below wr.heap.size wr w5 := bt (And.left (by assumption)) kb0; (first | (have hzb := z_first (cells ⟨0, 0, 0⟩) 26 kb0; have hzc := hzb; obtain ⟨⟨a0, a1, a2⟩, g0, g1, g2⟩ := hzc.o3) | (have hzb := z_first_drew (cells ⟨0, 0, 0⟩) 26 kb0; have hzc := hzb; obtain ⟨⟨a0, a1, a2⟩, g0, g1, g2⟩ := hzc.o3) | (have hzb := z_second (cells ⟨0, 0, 0⟩) 26 kb0; have hzc := hzb; obtain ⟨⟨a0, a1, a2⟩, g0, g1, g2⟩ := hzc.o3) | (have hzb := z_second_drew (cells ⟨0, 0, 0⟩) 26 kb0; have hzc := hzb; obtain ⟨⟨a0, a1, a2⟩, g0, g1, g2⟩ := hzc.o3) | skip)))
        all_goals go_wp2
        all_goals go_meet
        all_goals first
          | exact ⟨_, rfl, (HK.out.call kb).alloc (cells x) 26⟩
          | exact ⟨_, rfl, HK.out.laid kb hzb (by omega) (cells x)⟩
      case rest =>
        obtain ⟨W3, hW3⟩ : ∃ W3, W3 = wc := ⟨_, rfl⟩
        subst hW3
        obtain ⟨g, rfl, hkx⟩ := hcut
        have HG := Lib.hid hkx
        clear hkx
        go_upto_region 8 with fail
        go_cut [45] from 13 to 77 (fun r wx => r = .bool false ∧ Below W3.heap.size W3 wx)
        case first =>
          obtain ⟨k1, k2, -, -⟩ := HOK.out
          have hfb := fre_bd k1 f
          obtain ⟨b1, b2, -⟩ := chk_ok k1
          obtain ⟨b3, b4, -⟩ := chk_ok HY.out
          have hfr := HFR.out
          have K1 := Lib.hid k1
          clear k1
          have d1 : decide (y.a + 48 < x.a) = false := by simp; omega
          have d2 : decide (x.a < fre x f) = false := by simp; omega
          have d3 : IntKind.i64.wrap (y.a + 48) = y.a + 48 := IntWalk.i64_in _ (by omega)
          have d4 : IntKind.i64.wrap f = f := IntWalk.i64_in _ (by omega)
          go_region_held3 (fun w' => Below W3.heap.size W3 w' ∧ (w'.cell? ⟨g, 0, none⟩ = some (.int .i64 x.a) ∧ w'.cell? ⟨g, 1, none⟩ = some (.int .i64 x.t) ∧ w'.cell? ⟨g, 2, none⟩ = some (.int .i64 x.p)) ∧ (w'.cell? ⟨w1.heap.size, 0, none⟩ = some (.int .i64 y.a) ∧ w'.cell? ⟨w1.heap.size, 1, none⟩ = some (.int .i64 y.t) ∧ w'.cell? ⟨w1.heap.size, 2, none⟩ = some (.int .i64 y.p)))
            ((refine HG.out.held ?_; first | assumption | exact (Below.refl _ _).drew))
            (first
              | (go_at_call 8; refine (rel_of (w0 := W3) (less_of (check_own x.a x.t x.p _)) (And.left (by assumption))).mono ?_; rw [show chk ⟨x.a, x.t, x.p⟩ = 0 from K1.out]; rintro e w' ⟨rfl, kb⟩)
              | (go_at_call 10; refine (rel_of (w0 := W3) (free_own x f _ (WalkArith.wf_i64 (by omega))) (And.left (by assumption))).mono ?_; rintro e w' ⟨rfl, kb⟩))
          all_goals go_wp2
          all_goals go_meet
          all_goals exact ⟨rfl, And.left (by assumption)⟩
        case rest =>
          obtain ⟨W4, hW4⟩ : ∃ W4, W4 = wc := ⟨_, rfl⟩
          subst hW4
          obtain ⟨rfl, k4⟩ := hcut
          have H4 := Lib.hid (HG.out.call k4)
          obtain ⟨lg, cg⟩ := H4.out.at_ 0 rfl
          obtain ⟨ls, cs⟩ := H4.out.at_ 1 rfl
          obtain ⟨⟨p0, p1, p2⟩, -⟩ := cg.o3
          obtain ⟨⟨q0, q1, q2⟩, r0, r1, r2⟩ := cs.o3
          have hck := (H4.out.1.cell (p := ⟨b, o + k * 2, none⟩) hbw).trans CW.out
          obtain ⟨k1, k2, k3, k4'⟩ := HOK.out
          have hfin := H4.out.one 1 rfl hw1 (cells x)
          have HF := Lib.hid hfin
          have K1 := Lib.hid k1
          simp only [] at k3 k4'
          clear hck0 hck1 c0 c1 c2 k1 k4 cg cs hfin
          by_cases hz : kd % 3 = 0
          · have e0 : (kd % 3 != 0) = false := by simp [hz]
            have e1 : (kd % 3 == 0) = true := by simp [hz]
            have d1 : decide (x.a < y.a) = false := by have := k3 hz; simp; omega
            clear k3 k4'
            go_wp2
            go_roundw
            case rel => exact ⟨k + 1, by omega, by go_num, x, K1.out, HF.out⟩
            case measure => simp [intOf]; omega
          · have e0 : (kd % 3 != 0) = true := by simp [hz]
            have e1 : (kd % 3 == 0) = false := by simp [hz]
            have d1 := k4' hz
            clear k3 k4'
            have d2 : x.a ≤ y.a ∨ x.a ≤ 96 := by omega
            by_cases hy : y.a < 96
            · have d3 : x.a ≤ 96 := by omega
              clear d1 d2
              go_wp2
              all_goals go_roundw
              case rel => exact ⟨k + 1, by omega, by go_num, x, K1.out, HF.out⟩
              case measure => simp [intOf]; omega
            · have d3 : x.a ≤ y.a := by omega
              clear d1 d2
              go_wp2
              all_goals go_roundw
              case rel => exact ⟨k + 1, by omega, by go_num, x, K1.out, HF.out⟩
              case measure => simp [intOf]; omega
    · go_wp2_with fail
      refine (awake_true _).mono ?_
      rintro e w6 ⟨rfl, k6⟩
      go_wp2
      go_ret
      exact ⟨rfl, bt HK.out.1 k6⟩
theorem stays_all (A : Option Addr) (len cap : Nat) (zs : List (Int × Int)) (f : Int) (w : World) (hr : IsRecs .u8 .i64 w A len cap zs) (hf : (Lit.int .u16 f).wf = true) :
    Calls Try.prog 4 #[.slice A len cap, .int .u16 f] w fun e w' => e = .returned (.bool true) ∧ Below w.heap.size w w' := stays_walk A len cap zs f w hr hf
end Go.Proofs.Ytaddflfihpdffaa
