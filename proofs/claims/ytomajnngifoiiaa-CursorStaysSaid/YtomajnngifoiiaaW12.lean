/-
  What bad cursors answer; a cursor laid into its block.
-/
import Derived.Test.YtomajnngifoiiaaW11
import Derived.Deep.CutRange
namespace Go.Proofs.Ytomajnngifoiiaa
open Go.RowKit

theorem cutC_bad {c : C} (h : c.b ≠ 0) (n : Int) (f : Bool) : cutC c n f = c := by unfold cutC; rw [if_pos h]
theorem cutT_bad {c : C} (h : c.b ≠ 0) (n : Int) (f : Bool) : cutT c n f = ByteArray.empty := by unfold cutT; rw [if_neg (fun x => h x.1)]
theorem numC_bad {c : C} (h : c.b ≠ 0) (n : Int) : numC c n = c := cutC_bad h _ _
theorem numV_bad {c : C} (h : c.b ≠ 0) (n : Int) : numV c n = 0 := by unfold numV; rw [cutT_bad h]; rfl
/-- Behind all but two bytes a number of three can't be read. -/
theorem short_bad (d : ByteArray) (r : Int) (h0 : 0 ≤ r) (h2 : r ≤ 2) : (numC (cutC ⟨d, 0, 0⟩ ((d.size : Int) - r) (decide (0 ≤ (d.size : Int) - r))) 3).b ≠ 0 := by
  have w0 : wi d 0 = true := wi_iff.2 ⟨by omega, by omega⟩
  by_cases hr : 0 ≤ (d.size : Int) - r
  · have e1 : cutC ⟨d, 0, 0⟩ ((d.size : Int) - r) (decide (0 ≤ (d.size : Int) - r)) = ⟨d, 0 + ((d.size : Int) - r), 0⟩ := by
      unfold cutC
      rw [if_neg (by simp), if_neg (by rw [w0]; simp), if_neg (by simpa using hr), if_neg (by simp only; omega)]
    rw [e1]
    have w1 : wi d (0 + ((d.size : Int) - r)) = true := wi_iff.2 ⟨by omega, by omega⟩
    unfold numC cutC
    rw [if_neg (by simp), if_neg (by rw [w1]; simp), if_neg (by decide), if_pos (by simp only; omega)]
    simp
  · have e1 : cutC ⟨d, 0, 0⟩ ((d.size : Int) - r) (decide (0 ≤ (d.size : Int) - r)) = ⟨d, 0, 2⟩ := by
      unfold cutC
      rw [if_neg (by simp), if_neg (by rw [w0]; simp), if_pos (by simpa using hr)]
    rw [e1, numC_bad (by simp)]
    simp
/-- The world with a cursor laid into its block. -/
def layC (w : World) (b : Nat) (c : C) : World := ((w.setCell ⟨b, 0, none⟩ (.string c.d)).setCell ⟨b, 1, none⟩ (.int .i64 c.p)).setCell ⟨b, 2, none⟩ (.int .i64 c.b)
def Bc (w : World) (b : Nat) (c : C) : Prop :=
  (w.cell? ⟨b, 0, none⟩ = some (.string c.d) ∧ w.cell? ⟨b, 1, none⟩ = some (.int .i64 c.p) ∧ w.cell? ⟨b, 2, none⟩ = some (.int .i64 c.b)) ∧ w.frozen? ⟨b, 0, none⟩ = false ∧ w.frozen? ⟨b, 1, none⟩ = false ∧ w.frozen? ⟨b, 2, none⟩ = false
theorem Bc.below {w w' : World} {b B : Nat} {x : C} (h : Bc w b x) (hb : Below B w w') (hB : b < B) : Bc w' b x := by
  obtain ⟨⟨c0, c1, c2⟩, f0, f1, f2⟩ := h
  exact ⟨⟨(hb.cell (p := ⟨b, 0, none⟩) hB).trans c0, (hb.cell (p := ⟨b, 1, none⟩) hB).trans c1, (hb.cell (p := ⟨b, 2, none⟩) hB).trans c2⟩,
    (hb.frozen (p := ⟨b, 0, none⟩) hB).trans f0, (hb.frozen (p := ⟨b, 1, none⟩) hB).trans f1, (hb.frozen (p := ⟨b, 2, none⟩) hB).trans f2⟩
theorem Bc.lay {w : World} {b : Nat} {x : C} (h : Bc w b x) (y : C) : Bc (layC w b y) b y := by
  obtain ⟨⟨c0, c1, c2⟩, f0, f1, f2⟩ := h
  unfold layC
  refine ⟨⟨?_, ?_, ?_⟩, ?_, ?_, ?_⟩ <;> simp [go_sem, c0, c1, c2, f0, f1, f2]
theorem Bc.far {w : World} {b g : Nat} {x : C} (h : Bc w g x) (hne : b ≠ g) (y : C) : Bc (layC w b y) g x := by
  obtain ⟨⟨c0, c1, c2⟩, f0, f1, f2⟩ := h
  unfold layC
  refine ⟨⟨?_, ?_, ?_⟩, ?_, ?_, ?_⟩ <;> simp [go_sem, c0, c1, c2, f0, f1, f2]
theorem Bc.made (w : World) (x : C) (t : Nat) : Bc (w.alloc (.cells #[.string x.d, .int .i64 x.p, .int .i64 x.b] t)) w.heap.size x := by
  refine ⟨⟨?_, ?_, ?_⟩, ?_, ?_, ?_⟩ <;> simp [go_sem]
theorem below_layC {w0 w : World} {B b : Nat} (h : Below B w0 w) (hb : B ≤ b) (y : C) : Below B w0 (layC w b y) :=
  ((h.setCell (p := ⟨b, 0, none⟩) hb _).setCell (p := ⟨b, 1, none⟩) hb _).setCell (p := ⟨b, 2, none⟩) hb _
theorem size_layC (w : World) (b : Nat) (y : C) : (layC w b y).heap.size = w.heap.size := by simp [layC, World.setCell]

/-- A cursor and a number read, whatever was made since. -/
theorem heldR {w0 w' : World} {p bb o : Nat} {x : C} {z : Int} (hb : Below w0.heap.size w0 w') (hx : Bc w0 p x) (hp : p < w0.heap.size) (hz : w0.cell? ⟨bb, o, none⟩ = some (.int .i64 z)) (hq : bb < w0.heap.size) :
    Below w0.heap.size w0 w' ∧ (w'.cell? ⟨p, 0, none⟩ = some (.string x.d) ∧ w'.cell? ⟨p, 1, none⟩ = some (.int .i64 x.p) ∧ w'.cell? ⟨p, 2, none⟩ = some (.int .i64 x.b)) ∧ w'.cell? ⟨bb, o, none⟩ = some (.int .i64 z) :=
  ⟨hb, (hx.below hb hp).1, (hb.cell (p := ⟨bb, o, none⟩) hq).trans hz⟩

set_option maxHeartbeats 2000000 in
theorem stays_walk (d : ByteArray) (n : Int) (A : Option Addr) (len cap : Nat) (zs : List Int) (w : World) (hd : d.size ≤ maxLen) (hn : (Lit.int .u8 n).wf = true) (hr : IsRow .i64 w A len cap zs) :
    Calls Try.prog 6 #[.string d, .int .u8 n, .slice A len cap] w fun e w' => e = .returned (.bool true) ∧ Below w.heap.size w w' := by
  by_cases hl1 : 100 < d.size
  · have d1 : decide ((100 : Int) < (d.size : Int)) = true := by simp; omega
    go_enter Try.func6, Try.ntmps6
    go_wp2_with fail
    refine (awake_true _).mono ?_
    rintro e w1 ⟨rfl, hb1⟩
    go_wp2
    go_ret
    exact ⟨rfl, hb1⟩
  have d1 : decide ((100 : Int) < (d.size : Int)) = false := by simp; omega
  by_cases hl2 : 20 < len
  · have d2 : decide ((20 : Int) < (len : Int)) = true := by simp; omega
    go_enter Try.func6, Try.ntmps6
    go_wp2_with fail
    refine (awake_true _).mono ?_
    rintro e w1 ⟨rfl, hb1⟩
    go_wp2
    go_ret
    exact ⟨rfl, hb1⟩
  have d2 : decide ((20 : Int) < (len : Int)) = false := by simp; omega
  obtain ⟨n1, n2⟩ := wf_u8 hn
  have HR := Lib.hid hr
  clear hr hn
  go_enter Try.func6, Try.ntmps6
  go_wp2_with fail
  refine (open_own d _).mono ?_
  rintro e w1 ⟨rfl, k1⟩
  have hbad := short_bad d (n % 3) (by omega) (by omega)
  obtain ⟨c1, hc1⟩ : ∃ c1, c1 = cutC ⟨d, 0, 0⟩ ((d.size : Int) - n % 3) (decide (0 ≤ (d.size : Int) - n % 3)) := ⟨_, rfl⟩
  have hd1 : c1.d = d := by
    rw [hc1]; unfold cutC
    repeat (first | rfl | split)
  rw [← hc1] at hbad
  obtain ⟨c, hc⟩ : ∃ c, c = numC c1 3 := ⟨_, rfl⟩
  rw [← hc] at hbad
  have hdc : c.d = d := by
    rw [hc]; unfold numC cutC
    repeat (first | exact hd1 | split)
  have HC1 := Lib.hid hc1
  have HC := Lib.hid hc
  have HBAD := Lib.hid hbad
  have HD1 := Lib.hid hd1
  have HDC := Lib.hid hdc
  clear hc1 hc hbad hd1 hdc
  go_wp2_with fail
  refine (rel_of (w0 := w) (take_own d 0 0 ((d.size : Int) - n % 3) hd _) k1).mono ?_
  rw [← HC1.out]
  unfold both
  rintro e w2 ⟨rfl, k2⟩
  clear k1
  go_wp2_with fail
  have hm1 := Bc.made w2 c1 27
  refine (number_own c1.d c1.p c1.b 3 (by rw [HD1.out]; exact hd) _).mono ?_
  rw [show numC ⟨c1.d, c1.p, c1.b⟩ 3 = c from HC.out.symm]
  unfold bothN
  rintro e w3 ⟨rfl, k3⟩
  have hm3 := hm1.below k3 (by simp)
  have l3 : w2.heap.size < w3.heap.size := by have := k3.size; simp at this; omega
  have k3' : Below w.heap.size w w3 := (k2.alloc k2.size _).trans (k3.mono (by have := k2.size; simp; omega))
  have hz2 : w.heap.size ≤ w2.heap.size := k2.size
  clear k2 k3 hm1
  have M3 := Lib.hid (hm3.lay c)
  have K3 := Lib.hid (below_layC k3' hz2 c)
  have L3 : w2.heap.size < (layC w3 w2.heap.size c).heap.size := by rw [size_layC]; exact l3
  have LL := Lib.hid L3
  obtain ⟨⟨a0, a1, a2⟩, f0, f1, f2⟩ := hm3
  clear k3' L3
  go_wp2_with fail
  have m5 : Bc ((layC w3 w2.heap.size c).alloc (.cells #[.string c.d, .int .i64 c.p, .int .i64 c.b] 27)) w3.heap.size c := by
    have := Bc.made (layC w3 w2.heap.size c) c 27
    rwa [size_layC] at this
  have ka : Below (layC w3 w2.heap.size c).heap.size (layC w3 w2.heap.size c) ((layC w3 w2.heap.size c).alloc (.cells #[.string c.d, .int .i64 c.p, .int .i64 c.b] 27)) := (Below.refl _ _).alloc (Nat.le_refl _) _
  have m4 := M3.out.below ka LL.out
  have k5 := K3.out.alloc K3.out.size (.cells #[.string c.d, .int .i64 c.p, .int .i64 c.b] 27)
  have s4 : w3.heap.size < ((layC w3 w2.heap.size c).alloc (.cells #[.string c.d, .int .i64 c.p, .int .i64 c.b] 27)).heap.size := by
    have e := size_layC w3 w2.heap.size c
    simp [e]
  have M4 := Lib.hid m4
  have M5 := Lib.hid m5
  have K5 := Lib.hid k5
  have S4 := Lib.hid s4
  clear m4 m5 k5 s4 ka M3 K3 a0 a1 a2 f0 f1 f2
  have hz3 : w.heap.size ≤ w3.heap.size := by omega
  go_loopw [10] (fun i wr => ∃ k : Nat, k ≤ len ∧ i = .int .i64 (k : Int) ∧ Bc wr w2.heap.size c ∧ Bc wr w3.heap.size c ∧ Below w.heap.size w wr ∧ w3.heap.size < wr.heap.size) (fun i _ => len - (intOf i).toNat)
  case atStart => exact ⟨0, Nat.zero_le _, rfl, M4.out, M5.out, K5.out, S4.out⟩
  case round =>
    clear M4 M5 K5 S4 LL
    obtain ⟨k, hk, rfl, hb7, hb9, hbel, hs9⟩ := hrel
    have hs7 : w2.heap.size < wr.heap.size := by omega
    have B7 := Lib.hid hb7
    have B9 := Lib.hid hb9
    have HB := Lib.hid hbel
    have hlen := HR.out.1
    have dd : c.d.size ≤ maxLen := by rw [HDC.out]; exact hd
    by_cases hlt : k < len
    · obtain ⟨bb, o, rfl, hbw, hckw, -⟩ := HR.out.at_ hlt
      have hck := (hbel.cell (p := ⟨bb, o + k, none⟩) hbw).trans hckw
      have hbl : bb < wr.heap.size := Nat.lt_of_lt_of_le hbw hbel.size
      generalize zs.getD k 0 = z at *
      clear hb7 hb9 hbel hckw
      have HCK := Lib.hid hck
      clear hck
      go_upto_region 9 with fail
      go_cut [11, 12] from 44 to 88 (fun p x wx => ∃ g : Nat, p = .pointer (some ⟨g, 0, none⟩) ∧ x = .int .i64 0 ∧ Bc wx g c ∧ wr.heap.size ≤ g ∧ g < wx.heap.size ∧ Below wr.heap.size wr wx)
      case first =>
        go_region_held3 (fun w' => Below wr.heap.size wr w' ∧ (w'.cell? ⟨w2.heap.size, 0, none⟩ = some (.string c.d) ∧ w'.cell? ⟨w2.heap.size, 1, none⟩ = some (.int .i64 c.p) ∧ w'.cell? ⟨w2.heap.size, 2, none⟩ = some (.int .i64 c.b)) ∧ w'.cell? ⟨bb, o + k, none⟩ = some (.int .i64 z))
          ((refine heldR ?_ B7.out hs7 HCK.out hbl; repeat (first | assumption | exact (Below.refl _ _).drew | exact Below.refl _ _ | exact And.left (by assumption) | refine Below.drew ?_ | refine Below.setCell ?_ (by first | exact Nat.le_refl _ | exact kb.size) _ | refine Below.alloc ?_ (by first | exact Nat.le_refl _ | exact kb.size) _)))
          (first
            | (go_at_call 9; refine (number_own c.d c.p c.b z dd _).mono ?_; rw [show numC ⟨c.d, c.p, c.b⟩ z = c from numC_bad HBAD.out z, show numV ⟨c.d, c.p, c.b⟩ z = 0 from numV_bad HBAD.out z]; unfold bothN; rintro e w5 ⟨rfl, kb0⟩; have kb : Below wr.heap.size wr _ := bt (And.left (by assumption)) kb0; try (have hzb : Bc w5 wr.heap.size ⟨⟨#[]⟩, 0, 0⟩ := Bc.below (w := (wr.alloc (.cells #[.string ⟨#[]⟩, .int .i64 0, .int .i64 0] 27)).drew) (Bc.made wr ⟨⟨#[]⟩, 0, 0⟩ 27) kb0 (by simp); have hzc := hzb; obtain ⟨⟨b0, b1, b2⟩, g0, g1, g2⟩ := hzc)))
        all_goals go_wp2
        all_goals go_meet
        · exact ⟨_, rfl, rfl, Bc.made w5 c 27, kb.size, by simp, kb.alloc kb.size _⟩
        · refine ⟨_, rfl, rfl, hzb.lay c, Nat.le_refl _, ?_, below_layC kb (Nat.le_refl _) c⟩
          show wr.heap.size < (layC w5 wr.heap.size c).heap.size
          rw [size_layC]
          have := kb0.size
          simp at this
          omega
      case rest =>
        obtain ⟨W6, hW6⟩ : ∃ W6, W6 = wc := ⟨_, rfl⟩
        subst hW6
        obtain ⟨g, rfl, rfl, hg, lg, sg, k6⟩ := hcut
        have G6 := Lib.hid hg
        have K6 := Lib.hid k6
        have HC6 := Lib.hid ((k6.cell (p := ⟨bb, o + k, none⟩) hbl).trans HCK.out)
        have hbl6 : bb < W6.heap.size := Nat.lt_of_lt_of_le hbl k6.size
        clear hg k6
        go_upto_region 10 with fail
        go_cut [13, 14] from 44 to 88 (fun p x wx => ∃ g : Nat, p = .pointer (some ⟨g, 0, none⟩) ∧ x = .string ByteArray.empty ∧ Bc wx g c ∧ W6.heap.size ≤ g ∧ g < wx.heap.size ∧ Below W6.heap.size W6 wx)
        case first =>
          go_region_held3 (fun w' => Below W6.heap.size W6 w' ∧ (w'.cell? ⟨g, 0, none⟩ = some (.string c.d) ∧ w'.cell? ⟨g, 1, none⟩ = some (.int .i64 c.p) ∧ w'.cell? ⟨g, 2, none⟩ = some (.int .i64 c.b)) ∧ w'.cell? ⟨bb, o + k, none⟩ = some (.int .i64 z))
            ((refine heldR ?_ G6.out sg HC6.out hbl6; repeat (first | assumption | exact (Below.refl _ _).drew | exact Below.refl _ _ | exact And.left (by assumption) | refine Below.drew ?_ | refine Below.setCell ?_ (by first | exact Nat.le_refl _ | exact kb.size) _ | refine Below.alloc ?_ (by first | exact Nat.le_refl _ | exact kb.size) _)))
            (first
              | (go_at_call 11; refine (take_own c.d c.p c.b z dd _).mono ?_; rw [show cutC ⟨c.d, c.p, c.b⟩ z (decide (0 ≤ z)) = c from cutC_bad HBAD.out z _, show cutT ⟨c.d, c.p, c.b⟩ z (decide (0 ≤ z)) = ByteArray.empty from cutT_bad HBAD.out z _]; unfold both; rintro e w5 ⟨rfl, kb0⟩; have kb : Below W6.heap.size W6 _ := bt (And.left (by assumption)) kb0; try (have hzb : Bc w5 W6.heap.size ⟨⟨#[]⟩, 0, 0⟩ := Bc.below (w := (W6.alloc (.cells #[.string ⟨#[]⟩, .int .i64 0, .int .i64 0] 27)).drew) (Bc.made W6 ⟨⟨#[]⟩, 0, 0⟩ 27) kb0 (by simp); have hzc := hzb; obtain ⟨⟨b0, b1, b2⟩, g0, g1, g2⟩ := hzc)))
          all_goals go_wp2
          all_goals go_meet
          · exact ⟨_, rfl, rfl, Bc.made w5 c 27, kb.size, by simp, kb.alloc kb.size _⟩
          · refine ⟨_, rfl, rfl, hzb.lay c, Nat.le_refl _, ?_, below_layC kb (Nat.le_refl _) c⟩
            show W6.heap.size < (layC w5 W6.heap.size c).heap.size
            rw [size_layC]
            have := kb0.size
            simp at this
            omega
        case rest =>
          obtain ⟨W7, hW7⟩ : ∃ W7, W7 = wc := ⟨_, rfl⟩
          subst hW7
          obtain ⟨q, rfl, rfl, hq, lq, sq, k7⟩ := hcut
          have K7 := Lib.hid (bt K6.out k7)
          have hq' := hq
          obtain ⟨⟨a0, a1, a2⟩, f0, f1, f2⟩ := hq'
          clear k7 hq
          go_wp2_with fail
          refine (rel_of (w0 := wr) (rest_own c.d c.p c.b dd _) K7.out).mono ?_
          rw [show cutC ⟨c.d, c.p, c.b⟩ (lft ⟨c.d, c.p, c.b⟩) true = c from cutC_bad HBAD.out _ _, show cutT ⟨c.d, c.p, c.b⟩ (lft ⟨c.d, c.p, c.b⟩) true = ByteArray.empty from cutT_bad HBAD.out _ _]
          unfold both
          rintro e w8 ⟨rfl, k8⟩
          have h7 := B7.out.below k8 hs7
          have h9 := B9.out.below k8 hs9
          have H7 := Lib.hid h7
          have H9 := Lib.hid h9
          have K8 := Lib.hid (bt HB.out k8)
          have s8 : wr.heap.size ≤ w8.heap.size := k8.size
          clear k8 a0 a1 a2 f0 f1 f2
          obtain ⟨⟨a0, a1, a2⟩, f0, f1, f2⟩ := h7
          obtain ⟨⟨b0, b1, b2⟩, g0, g1, g2⟩ := h9
          have hl9 : w3.heap.size < w8.heap.size := by omega
          have hl7 : w2.heap.size < w8.heap.size := by omega
          go_wp2
          go_roundw
          case rel =>
            have e8 := size_layC w8 w2.heap.size c
            have ka : Below (layC w8 w2.heap.size c).heap.size (layC w8 w2.heap.size c) ((layC w8 w2.heap.size c).alloc (.cells #[.string c.d, .int .i64 c.p, .int .i64 c.b] 27)) := (Below.refl _ _).alloc (Nat.le_refl _) _
            have r7 := (H7.out.lay c).below ka (by omega)
            have r9 := (H9.out.far (show w2.heap.size ≠ w3.heap.size by omega) c).below ka (by omega)
            have rb := (below_layC K8.out hz2 c).alloc (by omega) (.cells #[.string c.d, .int .i64 c.p, .int .i64 c.b] 27)
            have rs : w3.heap.size < ((layC w8 w2.heap.size c).alloc (.cells #[.string c.d, .int .i64 c.p, .int .i64 c.b] 27)).heap.size := by
              have := ka.size
              omega
            exact ⟨k + 1, by omega, by go_num, r7, r9, rb, rs⟩
          case measure => simp [intOf]; omega
    · have hbb : (c.b != 0) = true := by simpa using HBAD.out
      obtain ⟨⟨b0, b1, b2⟩, g0, g1, g2⟩ := hb9
      clear hb7 hbel
      go_wp2_with fail
      refine (awake_true _).mono ?_
      rintro e w6 ⟨rfl, k6⟩
      go_wp2
      go_ret
      exact ⟨rfl, bt HB.out k6⟩

theorem stays_all (d : ByteArray) (n : Int) (A : Option Addr) (len cap : Nat) (zs : List Int) (w : World) (hd : d.size ≤ maxLen) (hn : (Lit.int .u8 n).wf = true) (hr : IsRow .i64 w A len cap zs) :
    Calls Try.prog 6 #[.string d, .int .u8 n, .slice A len cap] w fun e w' => e = .returned (.bool true) ∧ Below w.heap.size w w' := stays_walk d n A len cap zs w hd hn hr
end Go.Proofs.Ytomajnngifoiiaa
