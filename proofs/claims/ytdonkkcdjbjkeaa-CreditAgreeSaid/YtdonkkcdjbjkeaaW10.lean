/-
  The walk of CreditAgree.
-/
import Derived.Test.YtdonkkcdjbjkeaaW8
namespace Go.Proofs.Ytdonkkcdjbjkeaa
open Go.RowKit

theorem spend_ok {W l u n : Int} (h : 1 ≤ W ∧ W ≤ 256 ∧ 0 ≤ u ∧ u ≤ l ∧ l ≤ 100000) (n0 : 0 ≤ n) (n1 : n ≤ l - u) : spend ⟨W, l, u, 0⟩ n = (⟨W, l, u + n, 0⟩, true) := by
  unfold spend; rw [if_pos ⟨chk_mk (by simp only; omega), n0, n1⟩]
theorem reach_ok {W l u d n : Int} (h : 1 ≤ W ∧ W ≤ 256 ∧ 0 ≤ d ∧ d ≤ u ∧ u ≤ l ∧ l ≤ 100000) (n0 : 0 ≤ n) (n1 : n ≤ l - u) : reach ⟨W, l, u, d⟩ (u + n) = (⟨W, l, u + n, d⟩, n, true) := by
  unfold reach; rw [if_pos ⟨chk_mk (by simp only; omega), by omega, by simp only; omega⟩]
  simp only []
  rw [show max (u + n) u = u + n from by omega, show u + n - u = n from by omega]
theorem eat_ok {W l u d e : Int} (h : 1 ≤ W ∧ W ≤ 256 ∧ 0 ≤ d ∧ d ≤ u ∧ u ≤ l ∧ l ≤ 100000) : eat ⟨W, l, u, d⟩ e = ⟨W, l, u, d + min (max e 0) (u - d)⟩ := by
  unfold eat; rw [if_pos (chk_mk (by simp only; omega))]
theorem grant_yes {W l u d : Int} (h : 1 ≤ W ∧ W ≤ 256 ∧ 0 ≤ d ∧ d ≤ u ∧ u ≤ l ∧ l ≤ 100000) (hm : max (W / 2) 1 ≤ d + W - l) : grant ⟨W, l, u, d⟩ = (⟨W, d + W, u, d⟩, d + W - l) := by
  have e : more ⟨W, l, u, d⟩ = d + W - l := by unfold more; simp only; omega
  unfold grant; rw [if_pos ⟨chk_mk (by simp only; omega), by rw [e]; exact hm⟩, e]
  simp only []
  rw [show l + (d + W - l) = d + W from by omega]
theorem grant_no {W l u d : Int} (h : 1 ≤ W ∧ W ≤ 256 ∧ 0 ≤ d ∧ d ≤ u ∧ u ≤ l ∧ l ≤ 100000) (hm : ¬ max (W / 2) 1 ≤ d + W - l) : grant ⟨W, l, u, d⟩ = (⟨W, l, u, d⟩, 0) := by
  have e : more ⟨W, l, u, d⟩ = d + W - l := by unfold more; simp only; omega
  unfold grant; rw [if_neg (by rw [e]; exact fun q => hm q.2)]
theorem given_ok {W l u m : Int} (h : 1 ≤ W ∧ W ≤ 256 ∧ 0 ≤ u ∧ u ≤ l ∧ l ≤ 100000) (n0 : 1 ≤ m) (n1 : m ≤ 100000) : given ⟨W, l, u, 0⟩ m = (⟨W, l + m, u, 0⟩, true) := by
  unfold given; rw [if_pos ⟨chk_mk (by simp only; omega), n0, by simp only; omega⟩]
theorem new_ok {W : Int} (h : 1 ≤ W ∧ W ≤ 256) : newG W = (⟨W, W, 0, 0⟩, 0) := if_pos (by omega)
theorem chk_fine {W l u d : Int} (h : 1 ≤ W ∧ W ≤ 256 ∧ 0 ≤ d ∧ d ≤ u ∧ u ≤ l ∧ l ≤ 100000) : chk ⟨W, l, u, d⟩ = 0 := chk_mk (by simp only; omega)
theorem grant_end {W l u : Int} (h : 1 ≤ W ∧ W ≤ 256 ∧ 0 ≤ u ∧ u ≤ l ∧ l ≤ u + W ∧ l ≤ 50000) : ∃ lf m : Int, grant ⟨W, l, u, u⟩ = (⟨W, lf, u, u⟩, m) ∧ 0 < lf - u ∧ lf ≤ 100000 := by
  by_cases hm : max (W / 2) 1 ≤ u + W - l
  · exact ⟨_, _, grant_yes ⟨by omega, by omega, by omega, by omega, by omega, by omega⟩ hm, by omega, by omega⟩
  · exact ⟨_, _, grant_no ⟨by omega, by omega, by omega, by omega, by omega, by omega⟩ hm, by omega, by omega⟩
/-- What holds behind so many deeds. -/
def Inv (W : Int) (k : Nat) (l u d : Int) : Prop := 0 ≤ d ∧ d ≤ u ∧ u ≤ l ∧ l ≤ d + W ∧ u ≤ 255 * (k : Int)

set_option maxRecDepth 100000 in
set_option maxHeartbeats 40000000 in
theorem agree_walk (wv : Int) (A : Option Addr) (len cap : Nat) (zs : List (Int × Int)) (w : World) (hv : (Lit.int .u8 wv).wf = true) (hr : IsRecs .u8 .u8 w A len cap zs) :
    Calls Try.prog 4 #[.int .u8 wv, .slice A len cap] w fun e w' => e = .returned (.bool true) ∧ Below w.heap.size w w' := by
  obtain ⟨v1, v2⟩ := wf_u8 hv
  clear hv
  by_cases hl : 80 < len
  · have hl' : (80 : Int) < (len : Int) := by omega
    go_enter Try.func4, Try.ntmps4
    go_wp2_with fail
    refine (awake_true _).mono ?_
    rintro e w1 ⟨rfl, hb1⟩
    go_wp2
    go_ret
    exact ⟨rfl, hb1⟩
  have hl' : ¬ (80 : Int) < (len : Int) := by omega
  have hlen := hr.1
  have HR := Lib.hid hr
  clear hr
  obtain ⟨W, hW⟩ : ∃ W : Int, W = 1 + wv := ⟨_, rfl⟩
  have w1' : 1 ≤ W := by omega
  have w2' : W ≤ 256 := by omega
  have HW := Lib.hid hW
  have N := Lib.hid (new_ok (W := W) ⟨w1', w2'⟩)
  clear hW
  go_enter Try.func4, Try.ntmps4
  go_wp2_with fail
  rw [← HW.out]
  refine (new_own W _).mono ?_
  rw [N.out]
  rintro e w1 ⟨rfl, k1⟩
  have K1 := Lib.hid ((Keep.start w).call k1)
  clear k1
  go_wp2_with fail
  refine (new_own W _).mono ?_
  rw [N.out]
  rintro e w2 ⟨rfl, k2⟩
  have K2 := Lib.hid ((K1.out.allocAt (w1.heap.size) (by simp) [.int .i64 W, .int .i64 W, .int .i64 0, .int .i64 0] 26).call k2)
  clear k2
  have hw1 := K1.out.1.size
  have hw2 : w1.heap.size < w2.heap.size := (K2.out.at_ 0 rfl).1
  go_wp2_with fail
  go_loopw [10] (fun i wr => ∃ k : Nat, k ≤ len ∧ i = .int .i64 (k : Int) ∧ ∃ l u d, Inv W k l u d ∧ Keep w wr [(w2.heap.size, [.int .i64 W, .int .i64 l, .int .i64 u, .int .i64 d]), (w1.heap.size, [.int .i64 W, .int .i64 l, .int .i64 u, .int .i64 0])]) (fun i _ => len - (intOf i).toNat)
  case atStart => exact ⟨0, Nat.zero_le _, rfl, W, 0, 0, ⟨by omega, by omega, by omega, by omega, by simp⟩, (K2.out.allocAt (w2.heap.size) (by simp) [.int .i64 W, .int .i64 W, .int .i64 0, .int .i64 0] 26)⟩
  case round =>
    obtain ⟨k, hk, rfl, l, u, d, ⟨n1, n2, n3, n4, n5⟩, hkeep⟩ := hrel
    have KR := Lib.hid hkeep
    clear hkeep K2
    by_cases hlt : k < len
    · obtain ⟨b, o, rfl, hbw, ⟨hck0w, hck1w⟩, hw0, hw3⟩ := HR.out.at_ hlt
      obtain ⟨z0, z1⟩ := wf_u8 hw0
      obtain ⟨z2, z3⟩ := wf_u8 hw3
      clear hw0 hw3
      generalize zs.getD k (0, 0) = z at *
      obtain ⟨N0, E0⟩ := z
      simp only [] at hck0w hck1w z0 z1 z2 z3
      have hbl : b < wr.heap.size := Nat.lt_of_lt_of_le hbw KR.out.1.size
      have C0 := Lib.hid hck0w
      have C1 := Lib.hid hck1w
      clear hck0w hck1w
      obtain ⟨n, hn⟩ : ∃ n, n = min N0 (l - u) := ⟨_, rfl⟩
      have m1 : 0 ≤ n := by omega
      have m2 : n ≤ l - u := by omega
      have m3 : n ≤ 255 := by omega
      have i1 : (0 : Int) ≤ (k : Int) := by omega
      have i2 : (k : Int) < (len : Int) := by omega
      have hfr : fre ⟨W, l, u, 0⟩ = l - u := fre_yes (chk_fine ⟨w1', w2', by omega, by omega, n3, by omega⟩)
      have HFR := Lib.hid hfr
      have HNN := Lib.hid hn
      clear hfr hn
      have d3 : IntKind.i64.wrap N0 = N0 := IntWalk.i64_in _ (by omega)
      have d4 : IntKind.i64.wrap E0 = E0 := IntWalk.i64_in _ (by omega)
      go_upto_region 11 with fail
      go_cut [11] from 45 to 148 (fun q wx => q = .int .i64 n ∧ Below wr.heap.size wr wx)
      case first =>
        by_cases hmin : N0 ≤ l - u
        all_goals
          go_region_held3 (fun w' => Below wr.heap.size wr w' ∧ (w'.cell? ⟨w1.heap.size, 0, none⟩ = some (.int .i64 W) ∧ w'.cell? ⟨w1.heap.size, 1, none⟩ = some (.int .i64 l) ∧ w'.cell? ⟨w1.heap.size, 2, none⟩ = some (.int .i64 u) ∧ w'.cell? ⟨w1.heap.size, 3, none⟩ = some (.int .i64 0)) ∧ w'.cell? ⟨b, o + k * 2, none⟩ = some (.int .u8 N0))
            ((refine with_below ?_ (fun kq => ⟨(KR.out.held kq).2.2, (kq.cell (p := ⟨b, o + k * 2, none⟩) hbl).trans ((KR.out.1.cell (p := ⟨b, o + k * 2, none⟩) hbw).trans C0.out)⟩); first | (with_reducible assumption) | (with_reducible exact (Below.refl _ _).drew)))
            (first
              | (go_at_call 13; refine (rel_of (w0 := wr) (free_own2 ⟨W, l, u, 0⟩ _) (And.left (by assumption))).mono ?_; rw [HFR.out]; rintro e w' ⟨rfl, kb⟩))
          all_goals go_wp2
          all_goals go_meet
          all_goals exact ⟨by rw [HNN.out]; congr 1; omega, And.left (by assumption)⟩
      case rest =>
        obtain ⟨W3, hW3⟩ : ∃ W3, W3 = wc := ⟨_, rfl⟩
        subst hW3
        obtain ⟨rfl, k3⟩ := hcut
        have K3 := Lib.hid (KR.out.call k3)
        clear k3 KR hbl
        have B0 : 1 ≤ W ∧ W ≤ 256 ∧ 0 ≤ d ∧ d ≤ u ∧ u ≤ l ∧ l ≤ 100000 := ⟨w1', w2', n1, n2, n3, by omega⟩
        obtain ⟨d', hd'⟩ : ∃ d', d' = d + min (max E0 0) (u + n - d) := ⟨_, rfl⟩
        have p1 : d ≤ d' := by omega
        have p2 : d' ≤ u + n := by omega
        have p3 : 0 ≤ d' := by omega
        have SP := Lib.hid (spend_ok (W := W) (l := l) (u := u) (n := n) ⟨w1', w2', by omega, n3, by omega⟩ m1 m2)
        have RE := Lib.hid (reach_ok (d := d) (n := n) B0 m1 m2)
        have EA : Hid (eat ⟨W, l, u + n, d⟩ E0 = ⟨W, l, u + n, d'⟩) := Lib.hid (by rw [eat_ok ⟨w1', w2', n1, by omega, by omega, by omega⟩, ← hd'])
        have HD := Lib.hid hd'
        have WE := Lib.hid (show (Lit.int .i64 E0).wf = true from WalkArith.wf_i64 (by omega))
        clear hd'
        obtain ⟨al, ah⟩ := K3.out.at_ 1 rfl
        obtain ⟨⟨ac0, ac1, ac2, ac3⟩, af0, af1, af2, af3⟩ := ah.o4
        clear ah
        go_wp2_with fail
        refine (spend_own ⟨W, l, u, 0⟩ n _).mono ?_
        rw [SP.out]
        rintro e w4 ⟨rfl, k4⟩
        have K4 := Lib.hid (K3.out.call k4)
        clear al ac0 ac1 ac2 ac3 af0 af1 af2 af3
        clear k4
        obtain ⟨bl, bh⟩ := K4.out.at_ 0 rfl
        obtain ⟨⟨bc0, bc1, bc2, bc3⟩, bf0, bf1, bf2, bf3⟩ := bh.o4
        clear bh
        have la4 : w1.heap.size < w4.heap.size := (K4.out.at_ 1 rfl).1
        have lb4 : w2.heap.size < w4.heap.size := (K4.out.at_ 0 rfl).1
        go_wp2_with fail
        refine (reach_own ⟨W, l, u, d⟩ (u + n) _).mono ?_
        rw [RE.out]
        rintro e w5 ⟨rfl, k5⟩
        have K5 := Lib.hid ((K4.out.allocAt (w4.heap.size) (by simp) [.int .i64 W, .int .i64 l, .int .i64 (u + n), .int .i64 0] 26).call k5)
        clear bl bc0 bc1 bc2 bc3 bf0 bf1 bf2 bf3
        clear k5
        have hbl5 : b < w5.heap.size := Nat.lt_of_lt_of_le hbw K5.out.1.size
        have lx5 : w4.heap.size < w5.heap.size := (K5.out.at_ 0 rfl).1
        go_upto_region 16 with fail
        obtain ⟨V, hV⟩ : ∃ V, V = w5.alloc (.cells #[.int .i64 W, .int .i64 l, .int .i64 (u + n), .int .i64 d] 26) := ⟨_, rfl⟩
        have KV : Hid (Keep w V [(w5.heap.size, [.int .i64 W, .int .i64 l, .int .i64 (u + n), .int .i64 d]), (w4.heap.size, [.int .i64 W, .int .i64 l, .int .i64 (u + n), .int .i64 0]), (w2.heap.size, [.int .i64 W, .int .i64 l, .int .i64 u, .int .i64 d]), (w1.heap.size, [.int .i64 W, .int .i64 l, .int .i64 u, .int .i64 0])]) := Lib.hid (by rw [hV]; exact (K5.out.allocAt (w5.heap.size) (by simp) [.int .i64 W, .int .i64 l, .int .i64 (u + n), .int .i64 d] 26))
        have lV : w5.heap.size < V.heap.size := by rw [hV]; simp
        rw [← hV]
        clear hV K5
        have hblV : b < V.heap.size := by omega
        by_cases hm : max (W / 2) 1 ≤ d' + W - l
        · have GR := Lib.hid (grant_yes (W := W) (l := l) (u := u + n) (d := d') ⟨w1', w2', p3, p2, by omega, by omega⟩ hm)
          have hpos : 0 < d' + W - l := by omega
          clear hm
          go_cut [17, 18] from 45 to 148 (fun p q wx => ∃ g : Nat, p = .pointer (some ⟨g, 0, none⟩) ∧ (q = .int .i64 (d' + W - l) ∧ V.heap.size ≤ g) ∧ Keep w wx [(g, [.int .i64 W, .int .i64 (d' + W), .int .i64 (u + n), .int .i64 d']), (w5.heap.size, [.int .i64 W, .int .i64 l, .int .i64 (u + n), .int .i64 d]), (w4.heap.size, [.int .i64 W, .int .i64 l, .int .i64 (u + n), .int .i64 0]), (w2.heap.size, [.int .i64 W, .int .i64 l, .int .i64 u, .int .i64 d]), (w1.heap.size, [.int .i64 W, .int .i64 l, .int .i64 u, .int .i64 0])])
          case first =>
            go_region_held3 (fun w' => Below V.heap.size V w' ∧ (w'.cell? ⟨w5.heap.size, 0, none⟩ = some (.int .i64 W) ∧ w'.cell? ⟨w5.heap.size, 1, none⟩ = some (.int .i64 l) ∧ w'.cell? ⟨w5.heap.size, 2, none⟩ = some (.int .i64 (u + n)) ∧ w'.cell? ⟨w5.heap.size, 3, none⟩ = some (.int .i64 d)) ∧ w'.cell? ⟨b, o + k * 2 + 1, none⟩ = some (.int .u8 E0))
              ((refine with_below ?_ (fun kq => ⟨(KV.out.held kq).2.1, (kq.cell (p := ⟨b, o + k * 2 + 1, none⟩) hblV).trans ((KV.out.1.cell (p := ⟨b, o + k * 2 + 1, none⟩) hbw).trans C1.out)⟩); first | (with_reducible assumption) | (with_reducible exact (Below.refl _ _).drew) | (repeat (first | (with_reducible assumption) | (with_reducible exact Below.refl _ _) | (with_reducible refine Below.drew ?_) | ((with_reducible refine Below.alloc ?_ ?_ _); rotate_left; focus (first | (simp; done) | (have := kb1.size; simp; omega) | (have := kb0.size; simp; omega) | (simp; omega))) | ((with_reducible refine Below.setCell ?_ ?_ _); rotate_left; focus (first | (simp; done) | (have := kb1.size; simp; omega) | (have := kb0.size; simp; omega) | (simp; omega)))))))
              (first
                | (go_at_call 22; refine (eat_own ⟨W, l, u + n, d⟩ E0 _ WE.out).mono ?_; rw [EA.out]; rintro e q0 ⟨rfl, kz0⟩; have kb0 : Below V.heap.size V q0 := bt (And.left (by assumption)) kz0; (first | (have hA0 := z_lone (cells ⟨0, 0, 0, 0⟩) 26 kz0) | (have hA0 := z_lone_drew (cells ⟨0, 0, 0, 0⟩) 26 kz0) | skip); (try (have hA0l := hA0.lt; have hA0o := hA0; obtain ⟨⟨hA00, hA01, hA02, hA03⟩, hA0f0, hA0f1, hA0f2, hA0f3⟩ := hA0o.o4)))
                | (go_at_call 21; refine (grant_own ⟨W, l, u + n, d'⟩ _).mono ?_; rw [GR.out]; rintro e q1 ⟨rfl, kz1⟩; have kb1 : Below V.heap.size V q1 := bt (And.left (by assumption)) kz1; (first | (have kk : Below q0.heap.size q0 q1 := bt (by (repeat (first | (with_reducible exact Below.refl _ _) | (with_reducible refine Below.drew ?_) | ((with_reducible refine Below.alloc ?_ ?_ _); rotate_left; focus (first | (simp; done) | (simp; omega)))))) kz1; have hA1 := hA0.below kk hA0.lt) | (have hA1 := z_lone (cells ⟨0, 0, 0, 0⟩) 26 kz1) | (have hA1 := z_lone_drew (cells ⟨0, 0, 0, 0⟩) 26 kz1) | skip); (try (have hA1l := hA1.lt; have hA1o := hA1; obtain ⟨⟨hA10, hA11, hA12, hA13⟩, hA1f0, hA1f1, hA1f2, hA1f3⟩ := hA1o.o4))))
            all_goals go_wp2
            all_goals go_meet
            all_goals (first | ((refine ⟨q1.heap.size, ?_, ⟨rfl, by first | exact Nat.le_refl _ | (have r0 := kb0.size; have r1 := kb1.size; omega)⟩, ?_⟩); (with_reducible rfl); (refine (KV.out.call kb1).alloc [.int .i64 W, .int .i64 (d' + W), .int .i64 (u + n), .int .i64 d'] 26 <;> (first | exact size_layC _ _ _ | (simp; done) | (have r0 := kb0.size; have r1 := kb1.size; omega)))) | ((refine ⟨V.heap.size, ?_, ⟨rfl, by first | exact Nat.le_refl _ | (have r0 := kb0.size; have r1 := kb1.size; omega)⟩, ?_⟩); (with_reducible rfl); (refine KV.out.laid kb1 hA1 ?_ [.int .i64 W, .int .i64 (d' + W), .int .i64 (u + n), .int .i64 d'] <;> (first | exact size_layC _ _ _ | (simp; done) | (have r0 := kb0.size; have r1 := kb1.size; omega)))) | ((refine ⟨q0.heap.size, ?_, ⟨rfl, by first | exact Nat.le_refl _ | (have r0 := kb0.size; have r1 := kb1.size; omega)⟩, ?_⟩); (with_reducible rfl); (refine KV.out.laid kb1 hA1 ?_ [.int .i64 W, .int .i64 (d' + W), .int .i64 (u + n), .int .i64 d'] <;> (first | exact size_layC _ _ _ | (simp; done) | (have r0 := kb0.size; have r1 := kb1.size; omega)))))
          case rest =>
            obtain ⟨W7, hW7⟩ : ∃ W7, W7 = wc := ⟨_, rfl⟩
            subst hW7
            obtain ⟨g, rfl, ⟨rfl, hge⟩, hk7⟩ := hcut
            have K7 := Lib.hid hk7
            clear hk7
            have lg7 : g < W7.heap.size := (K7.out.at_ 0 rfl).1
            have hgx : w4.heap.size < g := by omega
            have GI : Hid (given ⟨W, l, u + n, 0⟩ (d' + W - l) = (⟨W, d' + W, u + n, 0⟩, true)) := Lib.hid (by rw [given_ok ⟨w1', w2', by omega, by omega, by omega⟩ (by omega) (by omega), show l + (d' + W - l) = d' + W from by omega])
            obtain ⟨xl, xh⟩ := K7.out.at_ 2 rfl
            obtain ⟨⟨xc0, xc1, xc2, xc3⟩, xf0, xf1, xf2, xf3⟩ := xh.o4
            clear xh
            go_wp2_with fail
            refine (given_own ⟨W, l, u + n, 0⟩ (d' + W - l) _).mono ?_
            rw [GI.out]
            rintro e w8 ⟨rfl, k8⟩
            have K8 := Lib.hid (K7.out.call k8)
            clear xl xc0 xc1 xc2 xc3 xf0 xf1 xf2 xf3
            clear k8
            obtain ⟨xl, xh⟩ := K8.out.at_ 2 rfl
            obtain ⟨⟨xc0, xc1, xc2, xc3⟩, xf0, xf1, xf2, xf3⟩ := xh.o4
            clear xh
            go_upto_region 21 with fail
            have K9 : Hid (Keep w (layC w8 w4.heap.size 0 [.int .i64 W, .int .i64 (d' + W), .int .i64 (u + n), .int .i64 0]) [(w4.heap.size, [.int .i64 W, .int .i64 (d' + W), .int .i64 (u + n), .int .i64 0]), (g, [.int .i64 W, .int .i64 (d' + W), .int .i64 (u + n), .int .i64 d']), (w2.heap.size, [.int .i64 W, .int .i64 l, .int .i64 u, .int .i64 d]), (w1.heap.size, [.int .i64 W, .int .i64 l, .int .i64 u, .int .i64 0])]) := Lib.hid (K8.out.lay1 2 rfl (by omega) [.int .i64 W, .int .i64 (d' + W), .int .i64 (u + n), .int .i64 0] [(g, [.int .i64 W, .int .i64 (d' + W), .int .i64 (u + n), .int .i64 d']), (w2.heap.size, [.int .i64 W, .int .i64 l, .int .i64 u, .int .i64 d]), (w1.heap.size, [.int .i64 W, .int .i64 l, .int .i64 u, .int .i64 0])] (by intro q hq; simp only [List.mem_cons, List.not_mem_nil, or_false] at hq; rcases hq with rfl | rfl | rfl; exact ⟨by simp, by show g ≠ _; omega⟩; exact ⟨by simp, by show w2.heap.size ≠ _; omega⟩; exact ⟨by simp, by show w1.heap.size ≠ _; omega⟩))
            obtain ⟨V9, hV9⟩ : ∃ V9, V9 = layC w8 w4.heap.size 0 [.int .i64 W, .int .i64 (d' + W), .int .i64 (u + n), .int .i64 0] := ⟨_, rfl⟩
            rw [show (((w8.setCell ⟨w4.heap.size, 0, none⟩ (.int .i64 W)).setCell ⟨w4.heap.size, 1, none⟩ (.int .i64 (d' + W))).setCell ⟨w4.heap.size, 2, none⟩ (.int .i64 (u + n))).setCell ⟨w4.heap.size, 3, none⟩ (.int .i64 0) = V9 from hV9.symm]
            rw [← hV9] at K9
            clear hV9 K8 xl xc0 xc1 xc2 xc3 xf0 xf1 xf2 xf3
            have CX := Lib.hid (chk_fine (W := W) (l := d' + W) (u := u + n) (d := 0) ⟨w1', w2', by omega, by omega, by omega, by omega⟩)
            have CZ := Lib.hid (chk_fine (W := W) (l := d' + W) (u := u + n) (d := d') ⟨w1', w2', by omega, by omega, by omega, by omega⟩)
            have t1 : d' + W ≤ d' + W := by omega
            obtain ⟨xl, xh⟩ := K9.out.at_ 0 rfl
            obtain ⟨⟨xc0, xc1, xc2, xc3⟩, xf0, xf1, xf2, xf3⟩ := xh.o4
            clear xh
            obtain ⟨zl, zh⟩ := K9.out.at_ 1 rfl
            obtain ⟨⟨zc0, zc1, zc2, zc3⟩, zf0, zf1, zf2, zf3⟩ := zh.o4
            clear zh
            go_wp2_with fail
            refine (check_own2 ⟨W, d' + W, u + n, 0⟩ _).mono ?_
            rw [CX.out]
            rintro e w10 ⟨rfl, k10⟩
            have K10 := Lib.hid (K9.out.call k10)
            clear xl xc0 xc1 xc2 xc3 xf0 xf1 xf2 xf3 zl zc0 zc1 zc2 zc3 zf0 zf1 zf2 zf3
            clear k10
            obtain ⟨xl, xh⟩ := K10.out.at_ 0 rfl
            obtain ⟨⟨xc0, xc1, xc2, xc3⟩, xf0, xf1, xf2, xf3⟩ := xh.o4
            clear xh
            obtain ⟨zl, zh⟩ := K10.out.at_ 1 rfl
            obtain ⟨⟨zc0, zc1, zc2, zc3⟩, zf0, zf1, zf2, zf3⟩ := zh.o4
            clear zh
            go_wp2_with fail
            refine (check_own2 ⟨W, d' + W, u + n, d'⟩ _).mono ?_
            rw [CZ.out]
            rintro e w11 ⟨rfl, k11⟩
            have K11 := Lib.hid (K10.out.call k11)
            clear xl xc0 xc1 xc2 xc3 xf0 xf1 xf2 xf3 zl zc0 zc1 zc2 zc3 zf0 zf1 zf2 zf3
            clear k11
            obtain ⟨xl, xh⟩ := K11.out.at_ 0 rfl
            obtain ⟨⟨xc0, xc1, xc2, xc3⟩, xf0, xf1, xf2, xf3⟩ := xh.o4
            clear xh
            obtain ⟨zl, zh⟩ := K11.out.at_ 1 rfl
            obtain ⟨⟨zc0, zc1, zc2, zc3⟩, zf0, zf1, zf2, zf3⟩ := zh.o4
            clear zh
            obtain ⟨bl, bh⟩ := K11.out.at_ 2 rfl
            obtain ⟨⟨bc0, bc1, bc2, bc3⟩, bf0, bf1, bf2, bf3⟩ := bh.o4
            clear bh
            obtain ⟨al, ah⟩ := K11.out.at_ 3 rfl
            obtain ⟨⟨ac0, ac1, ac2, ac3⟩, af0, af1, af2, af3⟩ := ah.o4
            clear ah
            go_upto_region 23 with fail
            go_region
            all_goals go_wp2
            all_goals go_roundw
            all_goals first
              | (simp [intOf]; omega)
              | (refine ⟨k + 1, by omega, by go_num, d' + W, u + n, d', ⟨by omega, by omega, by omega, by omega, by simp; omega⟩, ?_⟩
                 exact (K11.out.lay2 3 2 rfl rfl hw1 (by omega) (by omega) [.int .i64 W, .int .i64 (d' + W), .int .i64 (u + n), .int .i64 0] [.int .i64 W, .int .i64 (d' + W), .int .i64 (u + n), .int .i64 d'] [] (fun q hq => by cases hq)).drew)
        · have GR := Lib.hid (grant_no (W := W) (l := l) (u := u + n) (d := d') ⟨w1', w2', p3, p2, by omega, by omega⟩ hm)
          skip
          clear hm
          go_cut [17, 18] from 45 to 148 (fun p q wx => ∃ g : Nat, p = .pointer (some ⟨g, 0, none⟩) ∧ (q = .int .i64 (0) ∧ V.heap.size ≤ g) ∧ Keep w wx [(g, [.int .i64 W, .int .i64 l, .int .i64 (u + n), .int .i64 d']), (w5.heap.size, [.int .i64 W, .int .i64 l, .int .i64 (u + n), .int .i64 d]), (w4.heap.size, [.int .i64 W, .int .i64 l, .int .i64 (u + n), .int .i64 0]), (w2.heap.size, [.int .i64 W, .int .i64 l, .int .i64 u, .int .i64 d]), (w1.heap.size, [.int .i64 W, .int .i64 l, .int .i64 u, .int .i64 0])])
          case first =>
            go_region_held3 (fun w' => Below V.heap.size V w' ∧ (w'.cell? ⟨w5.heap.size, 0, none⟩ = some (.int .i64 W) ∧ w'.cell? ⟨w5.heap.size, 1, none⟩ = some (.int .i64 l) ∧ w'.cell? ⟨w5.heap.size, 2, none⟩ = some (.int .i64 (u + n)) ∧ w'.cell? ⟨w5.heap.size, 3, none⟩ = some (.int .i64 d)) ∧ w'.cell? ⟨b, o + k * 2 + 1, none⟩ = some (.int .u8 E0))
              ((refine with_below ?_ (fun kq => ⟨(KV.out.held kq).2.1, (kq.cell (p := ⟨b, o + k * 2 + 1, none⟩) hblV).trans ((KV.out.1.cell (p := ⟨b, o + k * 2 + 1, none⟩) hbw).trans C1.out)⟩); first | (with_reducible assumption) | (with_reducible exact (Below.refl _ _).drew) | (repeat (first | (with_reducible assumption) | (with_reducible exact Below.refl _ _) | (with_reducible refine Below.drew ?_) | ((with_reducible refine Below.alloc ?_ ?_ _); rotate_left; focus (first | (simp; done) | (have := kb1.size; simp; omega) | (have := kb0.size; simp; omega) | (simp; omega))) | ((with_reducible refine Below.setCell ?_ ?_ _); rotate_left; focus (first | (simp; done) | (have := kb1.size; simp; omega) | (have := kb0.size; simp; omega) | (simp; omega)))))))
              (first
                | (go_at_call 22; refine (eat_own ⟨W, l, u + n, d⟩ E0 _ WE.out).mono ?_; rw [EA.out]; rintro e q0 ⟨rfl, kz0⟩; have kb0 : Below V.heap.size V q0 := bt (And.left (by assumption)) kz0; (first | (have hA0 := z_lone (cells ⟨0, 0, 0, 0⟩) 26 kz0) | (have hA0 := z_lone_drew (cells ⟨0, 0, 0, 0⟩) 26 kz0) | skip); (try (have hA0l := hA0.lt; have hA0o := hA0; obtain ⟨⟨hA00, hA01, hA02, hA03⟩, hA0f0, hA0f1, hA0f2, hA0f3⟩ := hA0o.o4)))
                | (go_at_call 21; refine (grant_own ⟨W, l, u + n, d'⟩ _).mono ?_; rw [GR.out]; rintro e q1 ⟨rfl, kz1⟩; have kb1 : Below V.heap.size V q1 := bt (And.left (by assumption)) kz1; (first | (have kk : Below q0.heap.size q0 q1 := bt (by (repeat (first | (with_reducible exact Below.refl _ _) | (with_reducible refine Below.drew ?_) | ((with_reducible refine Below.alloc ?_ ?_ _); rotate_left; focus (first | (simp; done) | (simp; omega)))))) kz1; have hA1 := hA0.below kk hA0.lt) | (have hA1 := z_lone (cells ⟨0, 0, 0, 0⟩) 26 kz1) | (have hA1 := z_lone_drew (cells ⟨0, 0, 0, 0⟩) 26 kz1) | skip); (try (have hA1l := hA1.lt; have hA1o := hA1; obtain ⟨⟨hA10, hA11, hA12, hA13⟩, hA1f0, hA1f1, hA1f2, hA1f3⟩ := hA1o.o4))))
            all_goals go_wp2
            all_goals go_meet
            all_goals (first | ((refine ⟨q1.heap.size, ?_, ⟨rfl, by first | exact Nat.le_refl _ | (have r0 := kb0.size; have r1 := kb1.size; omega)⟩, ?_⟩); (with_reducible rfl); (refine (KV.out.call kb1).alloc [.int .i64 W, .int .i64 l, .int .i64 (u + n), .int .i64 d'] 26 <;> (first | exact size_layC _ _ _ | (simp; done) | (have r0 := kb0.size; have r1 := kb1.size; omega)))) | ((refine ⟨V.heap.size, ?_, ⟨rfl, by first | exact Nat.le_refl _ | (have r0 := kb0.size; have r1 := kb1.size; omega)⟩, ?_⟩); (with_reducible rfl); (refine KV.out.laid kb1 hA1 ?_ [.int .i64 W, .int .i64 l, .int .i64 (u + n), .int .i64 d'] <;> (first | exact size_layC _ _ _ | (simp; done) | (have r0 := kb0.size; have r1 := kb1.size; omega)))) | ((refine ⟨q0.heap.size, ?_, ⟨rfl, by first | exact Nat.le_refl _ | (have r0 := kb0.size; have r1 := kb1.size; omega)⟩, ?_⟩); (with_reducible rfl); (refine KV.out.laid kb1 hA1 ?_ [.int .i64 W, .int .i64 l, .int .i64 (u + n), .int .i64 d'] <;> (first | exact size_layC _ _ _ | (simp; done) | (have r0 := kb0.size; have r1 := kb1.size; omega)))))
          case rest =>
            obtain ⟨W7, hW7⟩ : ∃ W7, W7 = wc := ⟨_, rfl⟩
            subst hW7
            obtain ⟨g, rfl, ⟨rfl, hge⟩, hk7⟩ := hcut
            have K7 := Lib.hid hk7
            clear hk7
            have lg7 : g < W7.heap.size := (K7.out.at_ 0 rfl).1
            have hgx : w4.heap.size < g := by omega
            obtain ⟨V9, hV9⟩ : ∃ V9 : World, V9 = W7 := ⟨_, rfl⟩
            subst hV9
            have K9 : Hid (Keep w V9 [(w4.heap.size, [.int .i64 W, .int .i64 l, .int .i64 (u + n), .int .i64 0]), (g, [.int .i64 W, .int .i64 l, .int .i64 (u + n), .int .i64 d']), (w2.heap.size, [.int .i64 W, .int .i64 l, .int .i64 u, .int .i64 d]), (w1.heap.size, [.int .i64 W, .int .i64 l, .int .i64 u, .int .i64 0])]) := Lib.hid (K7.out.cut (by intro q hq; simp only [List.mem_cons, List.not_mem_nil, or_false] at hq ⊢; rcases hq with rfl | rfl | rfl | rfl <;> simp))
            clear K7
            have CX := Lib.hid (chk_fine (W := W) (l := l) (u := u + n) (d := 0) ⟨w1', w2', by omega, by omega, by omega, by omega⟩)
            have CZ := Lib.hid (chk_fine (W := W) (l := l) (u := u + n) (d := d') ⟨w1', w2', by omega, by omega, by omega, by omega⟩)
            have t1 : l ≤ d' + W := by omega
            obtain ⟨xl, xh⟩ := K9.out.at_ 0 rfl
            obtain ⟨⟨xc0, xc1, xc2, xc3⟩, xf0, xf1, xf2, xf3⟩ := xh.o4
            clear xh
            obtain ⟨zl, zh⟩ := K9.out.at_ 1 rfl
            obtain ⟨⟨zc0, zc1, zc2, zc3⟩, zf0, zf1, zf2, zf3⟩ := zh.o4
            clear zh
            go_wp2_with fail
            refine (check_own2 ⟨W, l, u + n, 0⟩ _).mono ?_
            rw [CX.out]
            rintro e w10 ⟨rfl, k10⟩
            have K10 := Lib.hid (K9.out.call k10)
            clear xl xc0 xc1 xc2 xc3 xf0 xf1 xf2 xf3 zl zc0 zc1 zc2 zc3 zf0 zf1 zf2 zf3
            clear k10
            obtain ⟨xl, xh⟩ := K10.out.at_ 0 rfl
            obtain ⟨⟨xc0, xc1, xc2, xc3⟩, xf0, xf1, xf2, xf3⟩ := xh.o4
            clear xh
            obtain ⟨zl, zh⟩ := K10.out.at_ 1 rfl
            obtain ⟨⟨zc0, zc1, zc2, zc3⟩, zf0, zf1, zf2, zf3⟩ := zh.o4
            clear zh
            go_wp2_with fail
            refine (check_own2 ⟨W, l, u + n, d'⟩ _).mono ?_
            rw [CZ.out]
            rintro e w11 ⟨rfl, k11⟩
            have K11 := Lib.hid (K10.out.call k11)
            clear xl xc0 xc1 xc2 xc3 xf0 xf1 xf2 xf3 zl zc0 zc1 zc2 zc3 zf0 zf1 zf2 zf3
            clear k11
            obtain ⟨xl, xh⟩ := K11.out.at_ 0 rfl
            obtain ⟨⟨xc0, xc1, xc2, xc3⟩, xf0, xf1, xf2, xf3⟩ := xh.o4
            clear xh
            obtain ⟨zl, zh⟩ := K11.out.at_ 1 rfl
            obtain ⟨⟨zc0, zc1, zc2, zc3⟩, zf0, zf1, zf2, zf3⟩ := zh.o4
            clear zh
            obtain ⟨bl, bh⟩ := K11.out.at_ 2 rfl
            obtain ⟨⟨bc0, bc1, bc2, bc3⟩, bf0, bf1, bf2, bf3⟩ := bh.o4
            clear bh
            obtain ⟨al, ah⟩ := K11.out.at_ 3 rfl
            obtain ⟨⟨ac0, ac1, ac2, ac3⟩, af0, af1, af2, af3⟩ := ah.o4
            clear ah
            go_upto_region 23 with fail
            go_region
            all_goals go_wp2
            all_goals go_roundw
            all_goals first
              | (simp [intOf]; omega)
              | (refine ⟨k + 1, by omega, by go_num, l, u + n, d', ⟨by omega, by omega, by omega, by omega, by simp; omega⟩, ?_⟩
                 exact (K11.out.lay2 3 2 rfl rfl hw1 (by omega) (by omega) [.int .i64 W, .int .i64 l, .int .i64 (u + n), .int .i64 0] [.int .i64 W, .int .i64 l, .int .i64 (u + n), .int .i64 d'] [] (fun q hq => by cases hq)).drew)
    · obtain ⟨lf, m, ge, g1, g2⟩ := grant_end (W := W) (l := l) (u := u) ⟨w1', w2', by omega, n3, by omega, by omega⟩
      have GE := Lib.hid ge
      have EU : Hid (eat ⟨W, l, u, d⟩ u = ⟨W, l, u, u⟩) := Lib.hid (by rw [eat_ok ⟨w1', w2', n1, n2, n3, by omega⟩, show d + min (max u 0) (u - d) = u from by omega])
      have WU := Lib.hid (show (Lit.int .i64 u).wf = true from WalkArith.wf_i64 (by omega))
      have FU : Hid (fre ⟨W, lf, u, u⟩ = lf - u) := Lib.hid (fre_yes (chk_fine ⟨w1', w2', by omega, by omega, by omega, g2⟩))
      clear ge
      obtain ⟨bl, bh⟩ := KR.out.at_ 0 rfl
      obtain ⟨⟨bc0, bc1, bc2, bc3⟩, bf0, bf1, bf2, bf3⟩ := bh.o4
      clear bh
      go_wp2_with fail
      refine (eat_own ⟨W, l, u, d⟩ u _ WU.out).mono ?_
      rw [EU.out]
      rintro e w21 ⟨rfl, k21⟩
      have K21 := Lib.hid (KR.out.call k21)
      clear bl bc0 bc1 bc2 bc3 bf0 bf1 bf2 bf3
      clear k21
      go_wp2_with fail
      refine (grant_own ⟨W, l, u, u⟩ _).mono ?_
      rw [GE.out]
      rintro e w22 ⟨rfl, k22⟩
      have K22 := Lib.hid ((K21.out.allocAt (w21.heap.size) (by simp) [.int .i64 W, .int .i64 l, .int .i64 u, .int .i64 u] 26).call k22)
      clear k22
      obtain ⟨cl, ch⟩ := K22.out.at_ 0 rfl
      obtain ⟨⟨cc0, cc1, cc2, cc3⟩, cf0, cf1, cf2, cf3⟩ := ch.o4
      clear ch
      go_wp2_with fail
      refine (free_own2 ⟨W, lf, u, u⟩ _).mono ?_
      rw [FU.out]
      rintro e w23 ⟨rfl, k23⟩
      have K23 := Lib.hid ((K22.out.allocAt (w22.heap.size) (by simp) [.int .i64 W, .int .i64 lf, .int .i64 u, .int .i64 u] 26).call k23)
      clear cl cc0 cc1 cc2 cc3 cf0 cf1 cf2 cf3
      clear k23
      go_wp2_with fail
      refine (awake_true _).mono ?_
      rintro e w24 ⟨rfl, k24⟩
      have K24 := Lib.hid (K23.out.call k24)
      clear k24
      go_wp2
      go_ret
      exact ⟨rfl, K24.out.1⟩
theorem agree_all (wv : Int) (A : Option Addr) (len cap : Nat) (zs : List (Int × Int)) (w : World) (hv : (Lit.int .u8 wv).wf = true) (hr : IsRecs .u8 .u8 w A len cap zs) :
    Calls Try.prog 4 #[.int .u8 wv, .slice A len cap] w fun e w' => e = .returned (.bool true) ∧ Below w.heap.size w w' := agree_walk wv A len cap zs w hv hr
end Go.Proofs.Ytdonkkcdjbjkeaa
