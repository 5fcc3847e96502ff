/-
  The walk of RttStays.
-/
import Derived.Test.YtjkbhmlpmapobaaW6
namespace Go.Proofs.Ytjkbhmlpmapobaa
open Go.RowKit

/-- What times leave. -/
def Inv (y : S) : Prop := chk y = 0 ∧ y.h = 0 ∧ ((y.k = true ∧ y.s ≤ 524288 ∧ y.v ≤ 262147) ∨ y = ⟨0, 0, false, 0⟩)
theorem chk_known {x : S} (hk : x.k = true) (h1 : 0 ≤ x.s) (h2 : x.s ≤ 1048576) (h3 : 0 ≤ x.v) (h4 : x.v ≤ 1048576) (h5 : 0 ≤ x.h) (h6 : x.h ≤ 6) : chk x = 0 := by
  unfold chk
  rw [if_neg (by omega), if_neg (by rw [hk]; simp)]
theorem inv_smp {y : S} (h : Inv y) {t : Int} (t0 : 0 ≤ t) (t1 : t ≤ 65535) : ∃ s v : Int, smp y t = ⟨s, v, true, 0⟩ ∧ chk ⟨s, v, true, 0⟩ = 0 ∧ Inv ⟨s, v, true, 0⟩ := by
  obtain ⟨hc, hh, h⟩ := h
  have key : ∃ s v : Int, smp y t = ⟨s, v, true, 0⟩ ∧ 0 ≤ s ∧ s ≤ 524288 ∧ 0 ≤ v ∧ v ≤ 262147 := by
    rcases h with ⟨hk, hs, hv⟩ | rfl
    · obtain ⟨p1, p2, p3, p4, -⟩ := chk_ok hc
      exact ⟨_, _, smp_yes hc t0 (by omega) hk, by omega, by omega, by omega, by omega⟩
    · exact ⟨_, _, smp_new hc t0 (by omega) (by simp), by omega, by omega, by omega, by omega⟩
  obtain ⟨s, v, e, s0, s1, v0, v1⟩ := key
  have hc' : chk ⟨s, v, true, 0⟩ = 0 := chk_known rfl s0 (by simp; omega) v0 (by simp; omega) (by simp) (by simp)
  exact ⟨s, v, e, hc', hc', rfl, .inl ⟨rfl, s1, v1⟩⟩
theorem base_ge (x : S) : 2 ≤ base x := by unfold base; split <;> omega
theorem two_pow6 (k : Nat) (hk : k ≤ 6) : (2 : Int) ^ k = 1 ∨ (2 : Int) ^ k = 2 ∨ (2 : Int) ^ k = 4 ∨ (2 : Int) ^ k = 8 ∨ (2 : Int) ^ k = 16 ∨ (2 : Int) ^ k = 32 ∨ (2 : Int) ^ k = 64 := by
  match k, hk with
  | 0, _ => simp
  | 1, _ => simp
  | 2, _ => simp
  | 3, _ => simp
  | 4, _ => simp
  | 5, _ => simp
  | 6, _ => simp
theorem wt_bd {x : S} (hc : chk x = 0) : 2 ≤ wt x ∧ wt x ≤ 64 := by
  obtain ⟨-, -, -, -, h5, h6, -⟩ := chk_ok hc
  unfold wt
  rw [if_pos hc]
  have hb := base_ge x
  have := two_pow6 x.h.toNat (by omega)
  rcases this with h | h | h | h | h | h | h <;> rw [h] <;> omega
/-- Doubled so many times. -/
def expn (x : S) (j : Nat) : S := { x with h := min 6 (j : Int) }
theorem expn_ok {x : S} (hx : Inv x) (j : Nat) : chk (expn x j) = 0 := by
  obtain ⟨hc, hh, hx⟩ := hx
  obtain ⟨p1, p2, p3, p4, -, -, p7⟩ := chk_ok hc
  unfold chk
  rw [if_neg (by simp only [expn]; omega), if_neg ?_]
  rintro ⟨a, b⟩
  have := p7 a
  simp only [expn] at b
  omega
theorem expn_zero {x : S} (hx : Inv x) : expn x 0 = x := by
  obtain ⟨s, v, k, q⟩ := x
  obtain ⟨-, hh, -⟩ := hx
  simp only [expn] at hh ⊢
  rw [hh]; rfl
theorem expn_succ {x : S} (hx : Inv x) (j : Nat) : exps (expn x j) = expn x (j + 1) := by
  unfold exps
  rw [if_pos (expn_ok hx j)]
  simp only [expn]
  congr 1; omega
theorem wt_expn {x : S} (hx : Inv x) (j : Nat) : wt (expn x j) = min 64 (base x * 2 ^ (min 6 j)) := by
  have hb : base (expn x j) = base x := rfl
  unfold wt
  rw [if_pos (expn_ok hx j), hb]
  have : (expn x j).h.toNat = min 6 j := by simp only [expn]; omega
  rw [this]
theorem wt_mono {x : S} (hx : Inv x) (j : Nat) : wt (expn x j) ≤ wt (expn x (j + 1)) := by
  rw [wt_expn hx, wt_expn hx]
  have hb := base_ge x
  have h1 : min 6 (j + 1) = min 6 j ∨ (min 6 (j + 1) = min 6 j + 1) := by omega
  rcases h1 with h1 | h1
  · rw [h1]; omega
  · rw [h1, Int.pow_succ]
    have := two_pow6 (min 6 j) (by omega)
    rcases this with h | h | h | h | h | h | h <;> rw [h] <;> omega
theorem wt_last {x : S} (hx : Inv x) (j : Nat) (hj : 6 ≤ j) : wt (expn x j) = 64 := by
  rw [wt_expn hx, show min 6 j = 6 from by omega]
  have hb := base_ge x
  rw [show (2 : Int) ^ 6 = 64 from rfl]; omega

theorem check_own' (x : S) (w : World) : Calls Try.prog 8 #[.agg #[.int .i64 x.s, .int .i64 x.v, .bool x.k, .int .i64 x.h]] w fun e w' => e = .returned (.int .i64 (chk x)) ∧ Below w.heap.size w w' :=
  (check_own x.s x.v x.k x.h w).mono fun _ _ ⟨he, hw⟩ => ⟨he, by rw [← hw]; exact (Below.refl _ _).alloc (Nat.le_refl _) _⟩

set_option maxHeartbeats 2000000 in
theorem stays_walk (A : Option Addr) (len cap : Nat) (zs : List Int) (n : Int) (w : World) (hr : IsRow .u16 w A len cap zs) (hn : (Lit.int .u8 n).wf = true) :
    Calls Try.prog 4 #[.slice A len cap, .int .u8 n] w fun e w' => e = .returned (.bool true) ∧ Below w.heap.size w w' := by
  obtain ⟨n1, n2⟩ := wf_u8 hn
  by_cases hl : 60 < len
  · have hl' : (60 : Int) < (len : Int) := by omega
    go_enter Try.func4, Try.ntmps4
    go_wp2_with (go_at_call 7; refine (awake_true _).mono ?_; rintro e w1 ⟨rfl, hb1⟩)
    go_ret
    exact ⟨rfl, hb1⟩
  have hl' : ¬ (60 : Int) < (len : Int) := by omega
  go_enter Try.func4, Try.ntmps4
  go_wp2_with fail
  refine (new_own _).mono ?_
  rintro e w1 ⟨rfl, hb1⟩
  have hw1 : w.heap.size ≤ w1.heap.size := hb1.size
  go_wp2_with fail
  go_loopw [6] (fun i wr => ∃ k : Nat, k ≤ len ∧ i = .int .i64 (k : Int) ∧ (∃ y, Inv y ∧ Box wr w1.heap.size y) ∧ Below w.heap.size w wr ∧ w1.heap.size < wr.heap.size) (fun i _ => len - (intOf i).toNat)
  case atStart => exact ⟨0, by omega, rfl, ⟨_, ⟨by decide, rfl, .inr rfl⟩, box_new _ _⟩, hb1.alloc hb1.size _, by simp⟩
  case round =>
    obtain ⟨k, hk, rfl, ⟨y, hy, hb⟩, hbel, hsz⟩ := hrel
    by_cases hlt : k < len
    · obtain ⟨b, o, rfl, hbl, hck, hwz⟩ := (hr.below (Nat.le_refl _) hbel).at_ hlt
      obtain ⟨z0, z1⟩ := wf_u16 hwz
      generalize zs.getD k 0 = z at *
      obtain ⟨sx, vx, ey, hcy, hiy⟩ := inv_smp hy z0 (by omega)
      obtain ⟨wb1, wb2⟩ := wt_bd hcy
      have hwr : IntKind.i64.wrap z = z := IntWalk.i64_in _ (by omega)
      have HB1 := Lib.hid hb
      obtain ⟨⟨c0, c1, c2, c3⟩, f0, f1, f2, f3⟩ := hb
      have EY := Lib.hid ey
      have HI := Lib.hid hiy
      clear ey hiy hwz hy
      go_wp2_with fail
      go_region_with ((go_at_call 16; refine (rel_of (w0 := wr) (sample_own y z _) ?_).mono ?_; (repeat (first | exact Below.refl _ _ | refine Below.alloc ?_ (by first | (simp; done) | (simp; omega)) _ | refine Below.drew ?_)); rw [EY.out]; rintro e w2 ⟨rfl, hbe⟩; obtain ⟨⟨d0, d1, d2, d3⟩, g0, g1, g2, g3⟩ := HB1.out.below hbe hsz))
      all_goals
        have hb3 : Box (lay w2 w1.heap.size ⟨sx, vx, true, 0⟩) w1.heap.size ⟨sx, vx, true, 0⟩ := (HB1.out.below hbe hsz).lay _
        have l3 : w1.heap.size < (lay w2 w1.heap.size ⟨sx, vx, true, 0⟩).heap.size := by rw [size_lay]; exact Nat.lt_of_lt_of_le hsz hbe.size
        have k3 : Below w.heap.size w (lay w2 w1.heap.size ⟨sx, vx, true, 0⟩) := below_lay (bt hbel hbe) hw1 _
        unfold lay at hb3 l3 k3
        generalize ((((w2.setCell ⟨w1.heap.size, 0, none⟩ (.int .i64 sx)).setCell ⟨w1.heap.size, 1, none⟩ (.int .i64 vx)).setCell ⟨w1.heap.size, 2, none⟩ (.bool true)).setCell ⟨w1.heap.size, 3, none⟩ (.int .i64 0)) = w3 at *
        have HB3 := Lib.hid hb3
        obtain ⟨⟨a0, a1, a2, a3⟩, -⟩ := hb3
        clear c0 c1 c2 c3 d0 d1 d2 d3 f0 f1 f2 f3 g0 g1 g2 g3 hck hwr
        go_wp2_with fail
        refine (check_own sx vx true 0 _).mono ?_
        rw [hcy]
        rintro e w4 ⟨rfl, rfl⟩
        have k4 : Below w3.heap.size w3 (w3.alloc (.cells #[.int .i64 sx, .int .i64 vx, .bool true, .int .i64 0] 26)) := (Below.refl _ _).alloc (Nat.le_refl _) _
        go_wp2_with fail
        refine (rel_of (w0 := w3) (wait_own ⟨sx, vx, true, 0⟩ _) k4).mono ?_
        rintro e w5 ⟨rfl, k5⟩
        clear a0 a1 a2 a3
        obtain ⟨⟨a0, a1, a2, a3⟩, -⟩ := HB3.out.below k5 l3
        go_wp2_with fail
        refine (rel_of (w0 := w3) (wait_own ⟨sx, vx, true, 0⟩ _) k5).mono ?_
        rintro e w6 ⟨rfl, k6⟩
        clear a0 a1 a2 a3
        go_wp2
        go_roundw
        case rel => exact ⟨k + 1, by omega, by go_num, ⟨_, HI.out, HB3.out.below k6 l3⟩, bt k3 k6, Nat.lt_of_lt_of_le l3 k6.size⟩
        case measure => simp [intOf]; omega
    · have HB1 := Lib.hid hb
      obtain ⟨⟨c0, c1, c2, c3⟩, f0, f1, f2, f3⟩ := hb
      clear f0 f1 f2 f3
      have HY := Lib.hid hy
      clear hy
      obtain ⟨m, hm, hm0, hm1⟩ : ∃ m : Nat, n % 9 = ((m : Int) - 6) ∧ 6 ≤ m ∧ m ≤ 14 := ⟨(n % 9 + 6).toNat, by omega, by omega, by omega⟩
      go_wp2_with fail
      refine (rel_of (w0 := wr) (wait_own y _) (Below.refl _ _)).mono ?_
      rintro e w2 ⟨rfl, k2⟩
      clear c0 c1 c2 c3
      have h0 : Box w2 w1.heap.size (expn y 0) := by rw [expn_zero HY.out]; exact HB1.out.below k2 hsz
      have l2 : w1.heap.size < w2.heap.size := Nat.lt_of_lt_of_le hsz k2.size
      have b2 : Below w.heap.size w w2 := bt hbel k2
      have e0 : wt y = wt (expn y 0) := by rw [expn_zero HY.out]
      have E0 := Lib.hid e0
      clear e0
      go_wp2_with fail
      go_loopw [7, 8] (fun was i wq => ∃ j : Nat, j ≤ m ∧ i = .int .i64 (j : Int) ∧ was = .int .i64 (wt (expn y j)) ∧ Box wq w1.heap.size (expn y j) ∧ Below w.heap.size w wq ∧ w1.heap.size < wq.heap.size) (fun _ i _ => m - (intOf i).toNat)
      case atStart => exact ⟨0, by omega, rfl, by rw [E0.out], h0, b2, l2⟩
      case round =>
        clear h0 b2 l2
        obtain ⟨j, hj, rfl, rfl, hq, kq, lq⟩ := hrel
        have hes := expn_succ HY.out j
        have hmo := wt_mono HY.out j
        have hck1 := expn_ok HY.out (j + 1)
        have hla := wt_last HY.out j
        by_cases hlt : j < m
        · have HQ := Lib.hid hq
          obtain ⟨⟨c0, c1, c2, c3⟩, f0, f1, f2, f3⟩ := hq
          have HES := Lib.hid hes
          clear hes hla
          have hnl : decide (wt (expn y (j + 1)) < wt (expn y j)) = false := by simp; omega
          clear hmo
          go_wp2_with fail
          refine (rel_of (w0 := wr) (expire_own (expn y j) _) (Below.refl _ _)).mono ?_
          rw [HES.out]
          rintro e w3 ⟨rfl, k3⟩
          clear c0 c1 c2 c3 f0 f1 f2 f3
          obtain ⟨⟨c0, c1, c2, c3⟩, f0, f1, f2, f3⟩ := HQ.out.below k3 lq
          have hb4 : Box (lay w3 w1.heap.size (expn y (j + 1))) w1.heap.size (expn y (j + 1)) := (HQ.out.below k3 lq).lay _
          have l4 : w1.heap.size < (lay w3 w1.heap.size (expn y (j + 1))).heap.size := by rw [size_lay]; exact Nat.lt_of_lt_of_le lq k3.size
          have k4 : Below w.heap.size w (lay w3 w1.heap.size (expn y (j + 1))) := below_lay (bt kq k3) hw1 _
          go_wp2_with fail
          unfold lay at hb4 l4 k4
          generalize ((((w3.setCell ⟨w1.heap.size, 0, none⟩ (.int .i64 (expn y (j + 1)).s)).setCell ⟨w1.heap.size, 1, none⟩ (.int .i64 (expn y (j + 1)).v)).setCell ⟨w1.heap.size, 2, none⟩ (.bool (expn y (j + 1)).k)).setCell ⟨w1.heap.size, 3, none⟩ (.int .i64 (expn y (j + 1)).h)) = w4 at *
          clear c0 c1 c2 c3 f0 f1 f2 f3
          have HB4 := Lib.hid hb4
          clear hb4
          refine (rel_of (w0 := w4) (wait_own (expn y (j + 1)) _) (Below.refl _ _)).mono ?_
          rintro e w5 ⟨rfl, k5⟩
          obtain ⟨⟨a0, a1, a2, a3⟩, -⟩ := HB4.out.below k5 l4
          go_wp2_with fail
          refine (rel_of (w0 := w4) (check_own' (expn y (j + 1)) _) k5).mono ?_
          rw [hck1]
          rintro e w6 ⟨rfl, k6⟩
          clear a0 a1 a2 a3
          obtain ⟨⟨a0, a1, a2, a3⟩, -⟩ := HB4.out.below k6 l4
          go_wp2_with fail
          refine (rel_of (w0 := w4) (wait_own (expn y (j + 1)) _) k6).mono ?_
          rintro e w7 ⟨rfl, k7⟩
          clear a0 a1 a2 a3
          go_wp2
          go_roundw
          case rel => exact ⟨j + 1, by omega, by go_num, rfl, HB4.out.below k7 l4, bt k4 k7, Nat.lt_of_lt_of_le l4 k7.size⟩
          case measure => simp [intOf]; omega
        · have hlast := hla (by omega)
          clear hes hmo hck1 hla
          go_wp2_with fail
          refine (awake_true _).mono ?_
          rintro e w5 ⟨rfl, k5⟩
          go_wp2
          go_ret
          exact ⟨rfl, bt kq k5⟩
end Go.Proofs.Ytjkbhmlpmapobaa
