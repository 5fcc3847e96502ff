/-
  The walk of CreditRuns.
-/
import Derived.Test.YtdonkkcdjbjkeaaW8
namespace Go.Proofs.Ytdonkkcdjbjkeaa
open Go.RowKit

set_option maxRecDepth 100000 in
set_option maxHeartbeats 40000000 in
theorem runs_walk (g : G) (A : Option Addr) (len cap : Nat) (zs : List (Int × Int)) (n : Int) (w : World) (hr : IsRecs .u8 .i64 w A len cap zs) (hn : (Lit.int .i64 n).wf = true) :
    Calls Try.prog 3 #[.agg #[.int .i64 g.w, .int .i64 g.l, .int .i64 g.u, .int .i64 g.r], .slice A len cap, .int .i64 n] w fun e w' => e = .returned (.bool true) ∧ Below w.heap.size w w' := by
  by_cases hl : 60 < len
  · have hl' : (60 : Int) < (len : Int) := by omega
    go_enter Try.func3, Try.ntmps3
    go_wp2_with fail
    refine (awake_true _).mono ?_
    rintro e w1 ⟨rfl, hb1⟩
    go_wp2
    go_ret
    exact ⟨rfl, ((Below.refl _ w).alloc (Nat.le_refl _) _).trans (hb1.mono (by simp))⟩
  have hl' : ¬ (60 : Int) < (len : Int) := by omega
  have hlen := hr.1
  have HR := Lib.hid hr
  have HN := Lib.hid hn
  clear hr hn
  go_enter Try.func3, Try.ntmps3
  obtain ⟨na, hna⟩ : ∃ na, na = newG n := ⟨_, rfl⟩
  have N1 := Lib.hid (fun W => hna ▸ new_own n W)
  have N2 := Lib.hid (fun W => hna ▸ new_ref n W)
  clear hna
  go_wp2_with fail
  refine (N1.out _).mono ?_
  rintro e w1 ⟨rfl, k1⟩
  have K1 := Lib.hid (((Keep.start w).allocAt (w.heap.size) (by simp) [.int .i64 g.w, .int .i64 g.l, .int .i64 g.u, .int .i64 g.r] 23).call k1)
  clear k1
  go_wp2_with fail
  refine (N2.out _).mono ?_
  rintro e w2 ⟨rfl, k2⟩
  have K2 := Lib.hid ((K1.out.allocAt (w1.heap.size) (by simp) [.int .i64 na.1.w, .int .i64 na.1.l, .int .i64 na.1.u, .int .i64 na.1.r] 26).call k2)
  clear k2
  obtain ⟨pl, ph⟩ := K2.out.at_ 1 rfl
  obtain ⟨⟨pc0, pc1, pc2, pc3⟩, pf0, pf1, pf2, pf3⟩ := ph.o4
  clear ph
  go_upto_region 5 with fail
  obtain ⟨V, hV⟩ : ∃ V, V = w2.alloc (.cells #[.int .i64 na.1.w, .int .i64 na.1.l, .int .i64 na.1.u, .int .i64 na.1.r] 23) := ⟨_, rfl⟩
  have KV : Hid (Keep w V [(w2.heap.size, cells na.1), (w1.heap.size, cells na.1), (w.heap.size, cells g)]) := Lib.hid (by rw [hV]; exact (K2.out.allocAt (w2.heap.size) (by simp) [.int .i64 na.1.w, .int .i64 na.1.l, .int .i64 na.1.u, .int .i64 na.1.r] 23))
  rw [← hV]
  clear hV K2 pl pc0 pc1 pc2 pc3 pf0 pf1 pf2 pf3
  go_cut [11, 12] (fun p v wx => ∃ q : Nat, p = .pointer (some ⟨q, 0, none⟩) ∧ Keep w wx [(q, cells (runF g zs).1), (w2.heap.size, cells na.1), (w1.heap.size, cells na.1), (w.heap.size, cells g)] ∧ ∃ A c, v = .slice A len c ∧ IsRow .i64 wx A len c (runF g zs).2)
  case first =>
    go_region_held3 (fun w' => Below V.heap.size V w' ∧ (w'.cell? ⟨w2.heap.size, 0, none⟩ = some (.int .i64 na.1.w) ∧ w'.cell? ⟨w2.heap.size, 1, none⟩ = some (.int .i64 na.1.l) ∧ w'.cell? ⟨w2.heap.size, 2, none⟩ = some (.int .i64 na.1.u) ∧ w'.cell? ⟨w2.heap.size, 3, none⟩ = some (.int .i64 na.1.r)) ∧ (w'.cell? ⟨w1.heap.size, 0, none⟩ = some (.int .i64 na.1.w) ∧ w'.cell? ⟨w1.heap.size, 1, none⟩ = some (.int .i64 na.1.l) ∧ w'.cell? ⟨w1.heap.size, 2, none⟩ = some (.int .i64 na.1.u) ∧ w'.cell? ⟨w1.heap.size, 3, none⟩ = some (.int .i64 na.1.r)) ∧ (w'.cell? ⟨w.heap.size, 0, none⟩ = some (.int .i64 g.w) ∧ w'.cell? ⟨w.heap.size, 1, none⟩ = some (.int .i64 g.l) ∧ w'.cell? ⟨w.heap.size, 2, none⟩ = some (.int .i64 g.u) ∧ w'.cell? ⟨w.heap.size, 3, none⟩ = some (.int .i64 g.r)))
      ((refine KV.out.held ?_; first | (with_reducible assumption) | (with_reducible exact (Below.refl _ _).drew) | (repeat (first | (with_reducible assumption) | (with_reducible exact Below.refl _ _) | (with_reducible refine Below.drew ?_) | ((with_reducible refine Below.alloc ?_ ?_ _); rotate_left; focus (first | (simp; done) | (have := kb1.size; simp; omega) | (have := kb0.size; simp; omega) | (simp; omega))) | ((with_reducible refine Below.setCell ?_ ?_ _); rotate_left; focus (first | (simp; done) | (have := kb1.size; simp; omega) | (have := kb0.size; simp; omega) | (simp; omega)))))))
      (first
        | (go_at_call 10; refine (own_own A len cap zs _ ?_ (by omega)).mono ?_; (exact HR.out.below (Nat.le_refl _) (bt KV.out.1 (And.left (by assumption)))); rintro e q0 ⟨A0, cc0, rfl, hrecs, kz0⟩; have kb0 : Below V.heap.size V q0 := bt (And.left (by assumption)) kz0; (first | (have hA0 := z_lone (cells ⟨0, 0, 0, 0⟩) 26 kz0) | (have hA0 := z_lone_drew (cells ⟨0, 0, 0, 0⟩) 26 kz0) | skip); (try (have hA0l := hA0.lt; have hA0o := hA0; obtain ⟨⟨hA00, hA01, hA02, hA03⟩, hA0f0, hA0f1, hA0f2, hA0f3⟩ := hA0o.o4)))
        | (go_at_call 9; refine (run_own g _ _ _ zs _ ?_ (by omega)).mono ?_; (first | exact hrecs | exact hrecs.alloc _ | exact hrecs.drew | exact (hrecs.alloc _).drew); rintro e q1 ⟨vv, rfl, hown, kz1⟩; have kb1 : Below V.heap.size V q1 := bt (And.left (by assumption)) kz1; (first | (have kk : Below q0.heap.size q0 q1 := bt (by (repeat (first | (with_reducible exact Below.refl _ _) | (with_reducible refine Below.drew ?_) | ((with_reducible refine Below.alloc ?_ ?_ _); rotate_left; focus (first | (simp; done) | (simp; omega)))))) kz1; have hA1 := hA0.below kk hA0.lt) | (have hA1 := z_lone (cells ⟨0, 0, 0, 0⟩) 26 kz1) | (have hA1 := z_lone_drew (cells ⟨0, 0, 0, 0⟩) 26 kz1) | skip); (try (have hA1l := hA1.lt; have hA1o := hA1; obtain ⟨⟨hA10, hA11, hA12, hA13⟩, hA1f0, hA1f1, hA1f2, hA1f3⟩ := hA1o.o4))))
    all_goals go_wp2
    all_goals go_meet
    all_goals (first | ((refine ⟨q1.heap.size, ?_, ?_, ?_⟩); (with_reducible rfl); (refine (KV.out.call kb1).alloc (cells (runF g zs).1) 26 <;> (first | exact size_layC _ _ _ | (simp; done) | (have r0 := kb0.size; have r1 := kb1.size; omega))); (exact row_of_own (hown.alloc _) (runF_wf g zs))) | ((refine ⟨V.heap.size, ?_, ?_, ?_⟩); (with_reducible rfl); (refine KV.out.laid kb1 hA1 ?_ (cells (runF g zs).1) <;> (first | exact size_layC _ _ _ | (simp; done) | (have r0 := kb0.size; have r1 := kb1.size; omega))); (exact row_of_own (own_layC (cells (runF g zs).1) 0 (by first | (simp; done) | omega | (simp; omega)) hown) (runF_wf g zs))) | ((refine ⟨q0.heap.size, ?_, ?_, ?_⟩); (with_reducible rfl); (refine KV.out.laid kb1 hA1 ?_ (cells (runF g zs).1) <;> (first | exact size_layC _ _ _ | (simp; done) | (have r0 := kb0.size; have r1 := kb1.size; omega))); (exact row_of_own (own_layC (cells (runF g zs).1) 0 (by first | (simp; done) | omega | (simp; omega)) hown) (runF_wf g zs))))
  case rest =>
    obtain ⟨W3, hW3⟩ : ∃ W3, W3 = wc := ⟨_, rfl⟩
    subst hW3
    obtain ⟨q, rfl, hk3, A3, c3, rfl, hr3⟩ := hcut
    have K3 := Lib.hid hk3
    have R3 := Lib.hid hr3
    clear hk3 hr3
    obtain ⟨pl, ph⟩ := K3.out.at_ 3 rfl
    obtain ⟨⟨pc0, pc1, pc2, pc3⟩, pf0, pf1, pf2, pf3⟩ := ph.o4
    clear ph
    go_wp2_with fail
    refine (run_ref g A len cap zs _ (HR.out.below (Nat.le_refl _) K3.out.1) (by omega)).mono ?_
    rintro e w4 ⟨v4, rfl, hown4, k4⟩
    have K4 := Lib.hid (K3.out.call k4)
    have R3_4 := Lib.hid (R3.out.below (Nat.le_refl _) k4)
    clear R3
    clear pl pc0 pc1 pc2 pc3 pf0 pf1 pf2 pf3
    clear k4
    obtain ⟨A4, c4, rfl, hr4⟩ := row_of_own hown4 (runF_wf g zs)
    have R4 := Lib.hid hr4
    clear hown4 hr4
    go_upto_region 7 with fail
    obtain ⟨V2, hV2⟩ : ∃ V2, V2 = w4.alloc (.cells #[.int .i64 (runF g zs).1.w, .int .i64 (runF g zs).1.l, .int .i64 (runF g zs).1.u, .int .i64 (runF g zs).1.r] 23) := ⟨_, rfl⟩
    have KV2 : Hid (Keep w V2 [(w4.heap.size, cells (runF g zs).1), (q, cells (runF g zs).1), (w2.heap.size, cells na.1), (w1.heap.size, cells na.1), (w.heap.size, cells g)]) := Lib.hid (by rw [hV2]; exact (K4.out.allocAt (w4.heap.size) (by simp) [.int .i64 (runF g zs).1.w, .int .i64 (runF g zs).1.l, .int .i64 (runF g zs).1.u, .int .i64 (runF g zs).1.r] 23))
    have R3v : Hid (IsRow .i64 V2 A3 len c3 (runF g zs).2) := Lib.hid (by rw [hV2]; exact ((R3_4.out.alloc _)))
    have R4v : Hid (IsRow .i64 V2 A4 len c4 (runF g zs).2) := Lib.hid (by rw [hV2]; exact ((R4.out.alloc _)))
    rw [← hV2]
    clear hV2 K4
    go_cut [88] (fun r wx => r = .bool false ∧ Below V2.heap.size V2 wx)
    case first =>
      go_region_held3 (fun w' => Below V2.heap.size V2 w' ∧ (w'.cell? ⟨w4.heap.size, 0, none⟩ = some (.int .i64 (runF g zs).1.w) ∧ w'.cell? ⟨w4.heap.size, 1, none⟩ = some (.int .i64 (runF g zs).1.l) ∧ w'.cell? ⟨w4.heap.size, 2, none⟩ = some (.int .i64 (runF g zs).1.u) ∧ w'.cell? ⟨w4.heap.size, 3, none⟩ = some (.int .i64 (runF g zs).1.r)) ∧ (w'.cell? ⟨q, 0, none⟩ = some (.int .i64 (runF g zs).1.w) ∧ w'.cell? ⟨q, 1, none⟩ = some (.int .i64 (runF g zs).1.l) ∧ w'.cell? ⟨q, 2, none⟩ = some (.int .i64 (runF g zs).1.u) ∧ w'.cell? ⟨q, 3, none⟩ = some (.int .i64 (runF g zs).1.r)) ∧ (w'.cell? ⟨w2.heap.size, 0, none⟩ = some (.int .i64 na.1.w) ∧ w'.cell? ⟨w2.heap.size, 1, none⟩ = some (.int .i64 na.1.l) ∧ w'.cell? ⟨w2.heap.size, 2, none⟩ = some (.int .i64 na.1.u) ∧ w'.cell? ⟨w2.heap.size, 3, none⟩ = some (.int .i64 na.1.r)) ∧ (w'.cell? ⟨w1.heap.size, 0, none⟩ = some (.int .i64 na.1.w) ∧ w'.cell? ⟨w1.heap.size, 1, none⟩ = some (.int .i64 na.1.l) ∧ w'.cell? ⟨w1.heap.size, 2, none⟩ = some (.int .i64 na.1.u) ∧ w'.cell? ⟨w1.heap.size, 3, none⟩ = some (.int .i64 na.1.r)) ∧ (w'.cell? ⟨w.heap.size, 0, none⟩ = some (.int .i64 g.w) ∧ w'.cell? ⟨w.heap.size, 1, none⟩ = some (.int .i64 g.l) ∧ w'.cell? ⟨w.heap.size, 2, none⟩ = some (.int .i64 g.u) ∧ w'.cell? ⟨w.heap.size, 3, none⟩ = some (.int .i64 g.r)))
        ((refine KV2.out.held ?_; first | (with_reducible assumption) | (with_reducible exact (Below.refl _ _).drew)))
        (first
          | (go_at_call 12; refine (rel_of (w0 := V2) (same_true _ _ len _ _ (runF g zs).2 _ (R3v.out.below (Nat.le_refl _) (And.left (by assumption))) (R4v.out.below (Nat.le_refl _) (And.left (by assumption)))) (And.left (by assumption))).mono ?_; rintro e w' ⟨rfl, kb⟩)
          | (go_at_call 13; refine (rel_of (w0 := V2) (free_own2 (runF g zs).1 _) (And.left (by assumption))).mono ?_; rintro e w' ⟨rfl, kb⟩)
          | (go_at_call 14; refine (rel_of (w0 := V2) (free_ref2 (runF g zs).1 _) (And.left (by assumption))).mono ?_; rintro e w' ⟨rfl, kb⟩)
          | (go_at_call 15; refine (rel_of (w0 := V2) (check_own2 (runF g zs).1 _) (And.left (by assumption))).mono ?_; rintro e w' ⟨rfl, kb⟩)
          | (go_at_call 16; refine (rel_of (w0 := V2) (check_ref2 (runF g zs).1 _) (And.left (by assumption))).mono ?_; rintro e w' ⟨rfl, kb⟩))
      all_goals go_wp2
      all_goals go_meet
      all_goals exact ⟨rfl, And.left (by assumption)⟩
    case rest =>
      obtain ⟨W5, hW5⟩ : ∃ W5, W5 = wc := ⟨_, rfl⟩
      subst hW5
      obtain ⟨rfl, k5⟩ := hcut
      have K5 := Lib.hid (KV2.out.call k5)
      clear k5 KV2 R3v R4v
      obtain ⟨x, hx⟩ : ∃ x, x = (runF g zs).1 := ⟨_, rfl⟩
      rw [← hx] at K5
      have HX := Lib.hid hx
      clear hx
      obtain ⟨ql, qh⟩ := K5.out.at_ 1 rfl
      obtain ⟨⟨qc0, qc1, qc2, qc3⟩, qf0, qf1, qf2, qf3⟩ := qh.o4
      clear qh
      go_wp2_with fail
      refine (spend_own x n _).mono ?_
      rintro e w6 ⟨rfl, k6⟩
      have K6 := Lib.hid (K5.out.call k6)
      clear ql qc0 qc1 qc2 qc3 qf0 qf1 qf2 qf3
      clear k6
      obtain ⟨rl, rh⟩ := K6.out.at_ 0 rfl
      obtain ⟨⟨rc0, rc1, rc2, rc3⟩, rf0, rf1, rf2, rf3⟩ := rh.o4
      clear rh
      go_wp2_with fail
      refine (spend_ref x n _).mono ?_
      rintro e w7 ⟨rfl, k7⟩
      have K7 := Lib.hid ((K6.out.allocAt (w6.heap.size) (by simp) [.int .i64 (spend x n).1.w, .int .i64 (spend x n).1.l, .int .i64 (spend x n).1.u, .int .i64 (spend x n).1.r] 26).call k7)
      clear rl rc0 rc1 rc2 rc3 rf0 rf1 rf2 rf3
      clear k7
      obtain ⟨ql, qh⟩ := K7.out.at_ 2 rfl
      obtain ⟨⟨qc0, qc1, qc2, qc3⟩, qf0, qf1, qf2, qf3⟩ := qh.o4
      clear qh
      go_wp2_with fail
      refine (reach_own x n _).mono ?_
      rintro e w8 ⟨rfl, k8⟩
      have K8 := Lib.hid ((K7.out.allocAt (w7.heap.size) (by simp) [.int .i64 (spend x n).1.w, .int .i64 (spend x n).1.l, .int .i64 (spend x n).1.u, .int .i64 (spend x n).1.r] 23).call k8)
      clear ql qc0 qc1 qc2 qc3 qf0 qf1 qf2 qf3
      clear k8
      obtain ⟨rl, rh⟩ := K8.out.at_ 2 rfl
      obtain ⟨⟨rc0, rc1, rc2, rc3⟩, rf0, rf1, rf2, rf3⟩ := rh.o4
      clear rh
      go_wp2_with fail
      refine (reach_ref x n _).mono ?_
      rintro e w9 ⟨rfl, k9⟩
      have K9 := Lib.hid ((K8.out.allocAt (w8.heap.size) (by simp) [.int .i64 (reach x n).1.w, .int .i64 (reach x n).1.l, .int .i64 (reach x n).1.u, .int .i64 (reach x n).1.r] 26).call k9)
      clear rl rc0 rc1 rc2 rc3 rf0 rf1 rf2 rf3
      clear k9
      obtain ⟨ql, qh⟩ := K9.out.at_ 4 rfl
      obtain ⟨⟨qc0, qc1, qc2, qc3⟩, qf0, qf1, qf2, qf3⟩ := qh.o4
      clear qh
      go_wp2_with fail
      refine (eat_own x n _ HN.out).mono ?_
      rintro e w10 ⟨rfl, k10⟩
      have K10 := Lib.hid ((K9.out.allocAt (w9.heap.size) (by simp) [.int .i64 (reach x n).1.w, .int .i64 (reach x n).1.l, .int .i64 (reach x n).1.u, .int .i64 (reach x n).1.r] 23).call k10)
      clear ql qc0 qc1 qc2 qc3 qf0 qf1 qf2 qf3
      clear k10
      go_wp2_with fail
      refine (grant_own (eat x n) _).mono ?_
      rintro e w11 ⟨rfl, k11⟩
      have K11 := Lib.hid (K10.out.call k11)
      clear k11
      obtain ⟨rl, rh⟩ := K11.out.at_ 4 rfl
      obtain ⟨⟨rc0, rc1, rc2, rc3⟩, rf0, rf1, rf2, rf3⟩ := rh.o4
      clear rh
      go_wp2_with fail
      refine (eat_ref x n _ HN.out).mono ?_
      rintro e w12 ⟨rfl, k12⟩
      have K12 := Lib.hid ((K11.out.allocAt (w11.heap.size) (by simp) [.int .i64 (grant (eat x n)).1.w, .int .i64 (grant (eat x n)).1.l, .int .i64 (grant (eat x n)).1.u, .int .i64 (grant (eat x n)).1.r] 26).call k12)
      clear rl rc0 rc1 rc2 rc3 rf0 rf1 rf2 rf3
      clear k12
      go_wp2_with fail
      refine (grant_ref (eat x n) _).mono ?_
      rintro e w13 ⟨rfl, k13⟩
      have K13 := Lib.hid (K12.out.call k13)
      clear k13
      obtain ⟨cl, ch⟩ := K13.out.at_ 4 rfl
      obtain ⟨⟨cc0, cc1, cc2, cc3⟩, cf0, cf1, cf2, cf3⟩ := ch.o4
      clear ch
      obtain ⟨dl, dh⟩ := K13.out.at_ 3 rfl
      obtain ⟨⟨dc0, dc1, dc2, dc3⟩, df0, df1, df2, df3⟩ := dh.o4
      clear dh
      obtain ⟨el, eh⟩ := K13.out.at_ 2 rfl
      obtain ⟨⟨ec0, ec1, ec2, ec3⟩, ef0, ef1, ef2, ef3⟩ := eh.o4
      clear eh
      obtain ⟨fl, fh⟩ := K13.out.at_ 1 rfl
      obtain ⟨⟨fc0, fc1, fc2, fc3⟩, ff0, ff1, ff2, ff3⟩ := fh.o4
      clear fh
      obtain ⟨il, ih⟩ := K13.out.at_ 0 rfl
      obtain ⟨⟨ic0, ic1, ic2, ic3⟩, if0, if1, if2, if3⟩ := ih.o4
      clear ih
      go_wp2_with fail
      refine (awake_true _).mono ?_
      rintro e w14 ⟨rfl, k14⟩
      have K14 := Lib.hid ((K13.out.allocAt (w13.heap.size) (by simp) [.int .i64 (grant (eat x n)).1.w, .int .i64 (grant (eat x n)).1.l, .int .i64 (grant (eat x n)).1.u, .int .i64 (grant (eat x n)).1.r] 23).call k14)
      clear cl cc0 cc1 cc2 cc3 cf0 cf1 cf2 cf3 dl dc0 dc1 dc2 dc3 df0 df1 df2 df3 el ec0 ec1 ec2 ec3 ef0 ef1 ef2 ef3 fl fc0 fc1 fc2 fc3 ff0 ff1 ff2 ff3 il ic0 ic1 ic2 ic3 if0 if1 if2 if3
      clear k14
      go_wp2
      go_ret
      exact ⟨rfl, K14.out.1⟩
theorem runs_all (a b c d : Int) (A : Option Addr) (len cap : Nat) (zs : List (Int × Int)) (n : Int) (w : World) (_ : (Lit.int .i64 a).wf = true) (_ : (Lit.int .i64 b).wf = true) (_ : (Lit.int .i64 c).wf = true) (_ : (Lit.int .i64 d).wf = true) (hr : IsRecs .u8 .i64 w A len cap zs) (hn : (Lit.int .i64 n).wf = true) :
    Calls Try.prog 3 #[.agg #[.int .i64 a, .int .i64 b, .int .i64 c, .int .i64 d], .slice A len cap, .int .i64 n] w fun e w' => e = .returned (.bool true) ∧ Below w.heap.size w w' := runs_walk ⟨a, b, c, d⟩ A len cap zs n w hr hn
end Go.Proofs.Ytdonkkcdjbjkeaa
