/-
  The walks of layer 21's functions: an act.
-/
import Derived.Test.YtdonkkcdjbjkeaaW3
namespace Go.Proofs.Ytdonkkcdjbjkeaa
open Go.RowKit

/-- An act, and what it told. -/
def one (g : G) (z : Int × Int) : G × Int :=
  if z.1 % 5 = 0 then ((spend g z.2).1, if (spend g z.2).2 = true then 1 else 0)
  else if z.1 % 5 = 1 then ((given g z.2).1, if (given g z.2).2 = true then 1 else 0)
  else if z.1 % 5 = 2 then ((reach g z.2).1, if (reach g z.2).2.2 = true then (reach g z.2).2.1 else -1)
  else if z.1 % 5 = 3 then (eat g z.2, 0)
  else grant g
set_option maxHeartbeats 1000000 in
theorem send_spend (g : G) (k n : Int) (hk : 0 ≤ k) (hk' : k < 256) (h : (k % 5 == 0) = true) (w : World) :
    Calls Try.prog 28 #[.agg #[.int .i64 g.w, .int .i64 g.l, .int .i64 g.u, .int .i64 g.r], .agg #[.int .u8 k, .int .i64 n]] w fun e w' => e = .returned (.tuple #[.agg #[.int .i64 (spend g n).1.w, .int .i64 (spend g n).1.l, .int .i64 (spend g n).1.u, .int .i64 (spend g n).1.r], .bool (spend g n).2]) ∧ Below w.heap.size w w' := by
  obtain ⟨a, b, c, d⟩ := g
  have h0 := fun W : World => spend_own ⟨a, b, c, d⟩ n W
  generalize spend ⟨a, b, c, d⟩ n = y at *
  obtain ⟨⟨ya, yb, yc, yd⟩, yt⟩ := y
  have H := Lib.hid h0
  clear h0
  go_enter Try.func28, Try.ntmps28
  go_wp2_with fail
  refine (H.out _).mono ?_
  rintro e w1 ⟨rfl, hb⟩
  have hK := ((((Keep.start w).alloc [.int .i64 a, .int .i64 b, .int .i64 c, .int .i64 d] 26).allocAt (w.heap.size + 1) (by simp) [.int .u8 k, .int .i64 n] 64).allocAt (w.heap.size + 1 + 1) (by simp) [.int .i64 0, .int .i64 0, .int .i64 0, .int .i64 0] 26).call hb
  obtain ⟨lc, hc⟩ := hK.at_ 2 rfl
  obtain ⟨ld, hd⟩ := hK.at_ 1 rfl
  obtain ⟨le, he⟩ := hK.at_ 0 rfl
  obtain ⟨⟨c0, c1, c2, c3⟩, cf0, cf1, cf2, cf3⟩ := hc.o4
  obtain ⟨⟨d0, d1⟩, -⟩ := hd.o2
  obtain ⟨⟨e0', e1', e2', e3'⟩, ef0, ef1, ef2, ef3⟩ := he.o4
  clear hK hc hd he
  have HB : Hid (Below w.heap.size w w1) := Lib.hid ((((Below.refl _ w).alloc (Nat.le_refl _) _).alloc (by simp) _ |>.alloc (by simp; omega) _).trans (hb.mono (by simp; omega)))
  clear hb
  go_wp2
  all_goals
    refine bodyPost_ret ?_ rfl ⟨rfl, ?_⟩
    · simp [results, Try.results28, go_sem, e0', e1', e2', e3']
    · (repeat (first | (with_reducible exact HB.out) | (with_reducible refine Below.drew ?_) | ((with_reducible refine Below.alloc ?_ ?_ _); rotate_left; focus (have q := HB.out.size; first | omega | (simp; omega))) | ((with_reducible refine Below.setCell ?_ ?_ _); rotate_left; focus (first | (simp; done) | (simp; omega) | (have q := HB.out.size; simp; omega)))))
set_option maxHeartbeats 1000000 in
theorem send_given (g : G) (k n : Int) (hk : 0 ≤ k) (hk' : k < 256) (h : (k % 5 == 0) = false) (w : World) :
    Calls Try.prog 28 #[.agg #[.int .i64 g.w, .int .i64 g.l, .int .i64 g.u, .int .i64 g.r], .agg #[.int .u8 k, .int .i64 n]] w fun e w' => e = .returned (.tuple #[.agg #[.int .i64 (given g n).1.w, .int .i64 (given g n).1.l, .int .i64 (given g n).1.u, .int .i64 (given g n).1.r], .bool (given g n).2]) ∧ Below w.heap.size w w' := by
  obtain ⟨a, b, c, d⟩ := g
  have h0 := fun W : World => given_own ⟨a, b, c, d⟩ n W
  generalize given ⟨a, b, c, d⟩ n = y at *
  obtain ⟨⟨ya, yb, yc, yd⟩, yt⟩ := y
  have H := Lib.hid h0
  clear h0
  go_enter Try.func28, Try.ntmps28
  go_wp2_with fail
  refine (H.out _).mono ?_
  rintro e w1 ⟨rfl, hb⟩
  have hK := ((((Keep.start w).alloc [.int .i64 a, .int .i64 b, .int .i64 c, .int .i64 d] 26).allocAt (w.heap.size + 1) (by simp) [.int .u8 k, .int .i64 n] 64).allocAt (w.heap.size + 1 + 1) (by simp) [.int .i64 0, .int .i64 0, .int .i64 0, .int .i64 0] 26).call hb
  obtain ⟨lc, hc⟩ := hK.at_ 2 rfl
  obtain ⟨ld, hd⟩ := hK.at_ 1 rfl
  obtain ⟨le, he⟩ := hK.at_ 0 rfl
  obtain ⟨⟨c0, c1, c2, c3⟩, cf0, cf1, cf2, cf3⟩ := hc.o4
  obtain ⟨⟨d0, d1⟩, -⟩ := hd.o2
  obtain ⟨⟨e0', e1', e2', e3'⟩, ef0, ef1, ef2, ef3⟩ := he.o4
  clear hK hc hd he
  have HB : Hid (Below w.heap.size w w1) := Lib.hid ((((Below.refl _ w).alloc (Nat.le_refl _) _).alloc (by simp) _ |>.alloc (by simp; omega) _).trans (hb.mono (by simp; omega)))
  clear hb
  go_wp2
  all_goals
    refine bodyPost_ret ?_ rfl ⟨rfl, ?_⟩
    · simp [results, Try.results28, go_sem, e0', e1', e2', e3']
    · (repeat (first | (with_reducible exact HB.out) | (with_reducible refine Below.drew ?_) | ((with_reducible refine Below.alloc ?_ ?_ _); rotate_left; focus (have q := HB.out.size; first | omega | (simp; omega))) | ((with_reducible refine Below.setCell ?_ ?_ _); rotate_left; focus (first | (simp; done) | (simp; omega) | (have q := HB.out.size; simp; omega)))))
set_option maxHeartbeats 2000000 in
theorem act_own (g : G) (k n : Int) (w : World) (hk : 0 ≤ k) (hk' : k < 256) (hn : (Lit.int .i64 n).wf = true) :
    Calls Try.prog 26 #[.agg #[.int .i64 g.w, .int .i64 g.l, .int .i64 g.u, .int .i64 g.r], .agg #[.int .u8 k, .int .i64 n]] w fun e w' => e = .returned (.tuple #[.agg #[.int .i64 (one g (k, n)).1.w, .int .i64 (one g (k, n)).1.l, .int .i64 (one g (k, n)).1.u, .int .i64 (one g (k, n)).1.r], .int .i64 (one g (k, n)).2]) ∧ Below w.heap.size w w' := by
  have HN := Lib.hid hn
  clear hn
  obtain ⟨a, b, c, d⟩ := g
  have hC : k % 5 = 0 ∨ k % 5 = 1 ∨ k % 5 = 2 ∨ k % 5 = 3 ∨ k % 5 = 4 := by omega
  rcases hC with hC | hC | hC | hC | hC
  · have e0 : (k % 5 == 0) = true := by simp [hC]
    rw [show one ⟨a, b, c, d⟩ (k, n) = ((spend ⟨a, b, c, d⟩ n).1, if (spend ⟨a, b, c, d⟩ n).2 = true then 1 else 0) from if_pos hC]
    have h0 := fun W : World => send_spend ⟨a, b, c, d⟩ k n hk hk' (by simp [hC]) W
    generalize spend ⟨a, b, c, d⟩ n = y at *
    obtain ⟨⟨ya, yb, yc, yd⟩, yt⟩ := y
    have H := Lib.hid h0
    clear h0
    go_enter Try.func26, Try.ntmps26
    go_wp2_with fail
    refine (H.out _).mono ?_
    rintro e w1 ⟨rfl, hb⟩
    have hK := ((((Keep.start w).alloc [.int .i64 a, .int .i64 b, .int .i64 c, .int .i64 d] 26).allocAt (w.heap.size + 1) (by simp) [.int .u8 k, .int .i64 n] 64).allocAt (w.heap.size + 1 + 1) (by simp) [.int .i64 0, .int .i64 0, .int .i64 0, .int .i64 0] 26).call hb
    obtain ⟨lc, hc⟩ := hK.at_ 2 rfl
    obtain ⟨ld, hd⟩ := hK.at_ 1 rfl
    obtain ⟨le, he⟩ := hK.at_ 0 rfl
    obtain ⟨⟨c0, c1, c2, c3⟩, cf0, cf1, cf2, cf3⟩ := hc.o4
    obtain ⟨⟨d0, d1⟩, -⟩ := hd.o2
    obtain ⟨⟨e0', e1', e2', e3'⟩, ef0, ef1, ef2, ef3⟩ := he.o4
    clear hK hc hd he
    have HB : Hid (Below w.heap.size w w1) := Lib.hid ((((Below.refl _ w).alloc (Nat.le_refl _) _).alloc (by simp) _ |>.alloc (by simp; omega) _).trans (hb.mono (by simp; omega)))
    clear hb
    cases yt
    all_goals go_wp2
    all_goals
      refine bodyPost_ret ?_ rfl ⟨rfl, ?_⟩
      · simp [results, Try.results26, go_sem, e0', e1', e2', e3']
      · (repeat (first | (with_reducible exact HB.out) | (with_reducible refine Below.drew ?_) | ((with_reducible refine Below.alloc ?_ ?_ _); rotate_left; focus (have q := HB.out.size; first | omega | (simp; omega))) | ((with_reducible refine Below.setCell ?_ ?_ _); rotate_left; focus (first | (simp; done) | (simp; omega) | (have q := HB.out.size; simp; omega)))))
  · have e0 : (k % 5 == 0) = false := by simp [hC]
    have e1 : (k % 5 == 1) = true := by simp [hC]
    rw [show one ⟨a, b, c, d⟩ (k, n) = ((given ⟨a, b, c, d⟩ n).1, if (given ⟨a, b, c, d⟩ n).2 = true then 1 else 0) from (if_neg (by omega)).trans (if_pos hC)]
    have h0 := fun W : World => send_given ⟨a, b, c, d⟩ k n hk hk' (by simp [hC]) W
    generalize given ⟨a, b, c, d⟩ n = y at *
    obtain ⟨⟨ya, yb, yc, yd⟩, yt⟩ := y
    have H := Lib.hid h0
    clear h0
    go_enter Try.func26, Try.ntmps26
    go_wp2_with fail
    refine (H.out _).mono ?_
    rintro e w1 ⟨rfl, hb⟩
    have hK := ((((Keep.start w).alloc [.int .i64 a, .int .i64 b, .int .i64 c, .int .i64 d] 26).allocAt (w.heap.size + 1) (by simp) [.int .u8 k, .int .i64 n] 64).allocAt (w.heap.size + 1 + 1) (by simp) [.int .i64 0, .int .i64 0, .int .i64 0, .int .i64 0] 26).call hb
    obtain ⟨lc, hc⟩ := hK.at_ 2 rfl
    obtain ⟨ld, hd⟩ := hK.at_ 1 rfl
    obtain ⟨le, he⟩ := hK.at_ 0 rfl
    obtain ⟨⟨c0, c1, c2, c3⟩, cf0, cf1, cf2, cf3⟩ := hc.o4
    obtain ⟨⟨d0, d1⟩, -⟩ := hd.o2
    obtain ⟨⟨e0', e1', e2', e3'⟩, ef0, ef1, ef2, ef3⟩ := he.o4
    clear hK hc hd he
    have HB : Hid (Below w.heap.size w w1) := Lib.hid ((((Below.refl _ w).alloc (Nat.le_refl _) _).alloc (by simp) _ |>.alloc (by simp; omega) _).trans (hb.mono (by simp; omega)))
    clear hb
    cases yt
    all_goals go_wp2
    all_goals
      refine bodyPost_ret ?_ rfl ⟨rfl, ?_⟩
      · simp [results, Try.results26, go_sem, e0', e1', e2', e3']
      · (repeat (first | (with_reducible exact HB.out) | (with_reducible refine Below.drew ?_) | ((with_reducible refine Below.alloc ?_ ?_ _); rotate_left; focus (have q := HB.out.size; first | omega | (simp; omega))) | ((with_reducible refine Below.setCell ?_ ?_ _); rotate_left; focus (first | (simp; done) | (simp; omega) | (have q := HB.out.size; simp; omega)))))
  · have e0 : (k % 5 == 0) = false := by simp [hC]
    have e1 : (k % 5 == 1) = false := by simp [hC]
    have e2 : (k % 5 == 2) = true := by simp [hC]
    rw [show one ⟨a, b, c, d⟩ (k, n) = ((reach ⟨a, b, c, d⟩ n).1, if (reach ⟨a, b, c, d⟩ n).2.2 = true then (reach ⟨a, b, c, d⟩ n).2.1 else -1) from (if_neg (by omega)).trans ((if_neg (by omega)).trans (if_pos hC))]
    have h0 := fun W : World => reach_own ⟨a, b, c, d⟩ n W
    generalize reach ⟨a, b, c, d⟩ n = y at *
    obtain ⟨⟨ya, yb, yc, yd⟩, ym, yt⟩ := y
    have H := Lib.hid h0
    clear h0
    go_enter Try.func26, Try.ntmps26
    go_wp2_with fail
    refine (H.out _).mono ?_
    rintro e w1 ⟨rfl, hb⟩
    have hK := ((((Keep.start w).alloc [.int .i64 a, .int .i64 b, .int .i64 c, .int .i64 d] 26).allocAt (w.heap.size + 1) (by simp) [.int .u8 k, .int .i64 n] 64).allocAt (w.heap.size + 1 + 1) (by simp) [.int .i64 0, .int .i64 0, .int .i64 0, .int .i64 0] 26).call hb
    obtain ⟨lc, hc⟩ := hK.at_ 2 rfl
    obtain ⟨ld, hd⟩ := hK.at_ 1 rfl
    obtain ⟨le, he⟩ := hK.at_ 0 rfl
    obtain ⟨⟨c0, c1, c2, c3⟩, cf0, cf1, cf2, cf3⟩ := hc.o4
    obtain ⟨⟨d0, d1⟩, -⟩ := hd.o2
    obtain ⟨⟨e0', e1', e2', e3'⟩, ef0, ef1, ef2, ef3⟩ := he.o4
    clear hK hc hd he
    have HB : Hid (Below w.heap.size w w1) := Lib.hid ((((Below.refl _ w).alloc (Nat.le_refl _) _).alloc (by simp) _ |>.alloc (by simp; omega) _).trans (hb.mono (by simp; omega)))
    clear hb
    cases yt
    all_goals go_wp2
    all_goals
      refine bodyPost_ret ?_ rfl ⟨rfl, ?_⟩
      · simp [results, Try.results26, go_sem, e0', e1', e2', e3']
      · (repeat (first | (with_reducible exact HB.out) | (with_reducible refine Below.drew ?_) | ((with_reducible refine Below.alloc ?_ ?_ _); rotate_left; focus (have q := HB.out.size; first | omega | (simp; omega))) | ((with_reducible refine Below.setCell ?_ ?_ _); rotate_left; focus (first | (simp; done) | (simp; omega) | (have q := HB.out.size; simp; omega)))))
  · have e0 : (k % 5 == 0) = false := by simp [hC]
    have e1 : (k % 5 == 1) = false := by simp [hC]
    have e2 : (k % 5 == 2) = false := by simp [hC]
    have e3 : (k % 5 == 3) = true := by simp [hC]
    rw [show one ⟨a, b, c, d⟩ (k, n) = (eat ⟨a, b, c, d⟩ n, 0) from (if_neg (by omega)).trans ((if_neg (by omega)).trans ((if_neg (by omega)).trans (if_pos hC)))]
    have h0 := fun W : World => eat_own ⟨a, b, c, d⟩ n W HN.out
    generalize eat ⟨a, b, c, d⟩ n = y at *
    obtain ⟨ya, yb, yc, yd⟩ := y
    have H := Lib.hid h0
    clear h0
    go_enter Try.func26, Try.ntmps26
    go_wp2_with fail
    refine (H.out _).mono ?_
    rintro e w1 ⟨rfl, hb⟩
    have hK := ((((Keep.start w).alloc [.int .i64 a, .int .i64 b, .int .i64 c, .int .i64 d] 26).allocAt (w.heap.size + 1) (by simp) [.int .u8 k, .int .i64 n] 64).allocAt (w.heap.size + 1 + 1) (by simp) [.int .i64 0, .int .i64 0, .int .i64 0, .int .i64 0] 26).call hb
    obtain ⟨lc, hc⟩ := hK.at_ 2 rfl
    obtain ⟨ld, hd⟩ := hK.at_ 1 rfl
    obtain ⟨le, he⟩ := hK.at_ 0 rfl
    obtain ⟨⟨c0, c1, c2, c3⟩, cf0, cf1, cf2, cf3⟩ := hc.o4
    obtain ⟨⟨d0, d1⟩, -⟩ := hd.o2
    obtain ⟨⟨e0', e1', e2', e3'⟩, ef0, ef1, ef2, ef3⟩ := he.o4
    clear hK hc hd he
    have HB : Hid (Below w.heap.size w w1) := Lib.hid ((((Below.refl _ w).alloc (Nat.le_refl _) _).alloc (by simp) _ |>.alloc (by simp; omega) _).trans (hb.mono (by simp; omega)))
    clear hb
    go_wp2
    all_goals
      refine bodyPost_ret ?_ rfl ⟨rfl, ?_⟩
      · simp [results, Try.results26, go_sem, e0', e1', e2', e3']
      · (repeat (first | (with_reducible exact HB.out) | (with_reducible refine Below.drew ?_) | ((with_reducible refine Below.alloc ?_ ?_ _); rotate_left; focus (have q := HB.out.size; first | omega | (simp; omega))) | ((with_reducible refine Below.setCell ?_ ?_ _); rotate_left; focus (first | (simp; done) | (simp; omega) | (have q := HB.out.size; simp; omega)))))
  · have e0 : (k % 5 == 0) = false := by simp [hC]
    have e1 : (k % 5 == 1) = false := by simp [hC]
    have e2 : (k % 5 == 2) = false := by simp [hC]
    have e3 : (k % 5 == 3) = false := by simp [hC]
    have e4 : (k % 5 == 4) = true := by simp [hC]
    rw [show one ⟨a, b, c, d⟩ (k, n) = grant ⟨a, b, c, d⟩ from (if_neg (by omega)).trans ((if_neg (by omega)).trans ((if_neg (by omega)).trans (if_neg (by omega))))]
    have h0 := fun W : World => grant_own ⟨a, b, c, d⟩ W
    generalize grant ⟨a, b, c, d⟩ = y at *
    obtain ⟨⟨ya, yb, yc, yd⟩, ym⟩ := y
    have H := Lib.hid h0
    clear h0
    go_enter Try.func26, Try.ntmps26
    go_wp2_with fail
    refine (H.out _).mono ?_
    rintro e w1 ⟨rfl, hb⟩
    have hK := ((((Keep.start w).alloc [.int .i64 a, .int .i64 b, .int .i64 c, .int .i64 d] 26).allocAt (w.heap.size + 1) (by simp) [.int .u8 k, .int .i64 n] 64).allocAt (w.heap.size + 1 + 1) (by simp) [.int .i64 0, .int .i64 0, .int .i64 0, .int .i64 0] 26).call hb
    obtain ⟨lc, hc⟩ := hK.at_ 2 rfl
    obtain ⟨ld, hd⟩ := hK.at_ 1 rfl
    obtain ⟨le, he⟩ := hK.at_ 0 rfl
    obtain ⟨⟨c0, c1, c2, c3⟩, cf0, cf1, cf2, cf3⟩ := hc.o4
    obtain ⟨⟨d0, d1⟩, -⟩ := hd.o2
    obtain ⟨⟨e0', e1', e2', e3'⟩, ef0, ef1, ef2, ef3⟩ := he.o4
    clear hK hc hd he
    have HB : Hid (Below w.heap.size w w1) := Lib.hid ((((Below.refl _ w).alloc (Nat.le_refl _) _).alloc (by simp) _ |>.alloc (by simp; omega) _).trans (hb.mono (by simp; omega)))
    clear hb
    go_wp2
    all_goals
      refine bodyPost_ret ?_ rfl ⟨rfl, ?_⟩
      · simp [results, Try.results26, go_sem, e0', e1', e2', e3']
      · (repeat (first | (with_reducible exact HB.out) | (with_reducible refine Below.drew ?_) | ((with_reducible refine Below.alloc ?_ ?_ _); rotate_left; focus (have q := HB.out.size; first | omega | (simp; omega))) | ((with_reducible refine Below.setCell ?_ ?_ _); rotate_left; focus (first | (simp; done) | (simp; omega) | (have q := HB.out.size; simp; omega)))))
set_option maxHeartbeats 2000000 in
theorem act_ref (g : G) (k n : Int) (w : World) (hk : 0 ≤ k) (hk' : k < 256) (hn : (Lit.int .i64 n).wf = true) :
    Calls Try.prog 27 #[.agg #[.int .i64 g.w, .int .i64 g.l, .int .i64 g.u, .int .i64 g.r], .agg #[.int .u8 k, .int .i64 n]] w fun e w' => e = .returned (.tuple #[.agg #[.int .i64 (one g (k, n)).1.w, .int .i64 (one g (k, n)).1.l, .int .i64 (one g (k, n)).1.u, .int .i64 (one g (k, n)).1.r], .int .i64 (one g (k, n)).2]) ∧ Below w.heap.size w w' := by
  have HN := Lib.hid hn
  clear hn
  obtain ⟨a, b, c, d⟩ := g
  have hC : k % 5 = 0 ∨ k % 5 = 1 ∨ k % 5 = 2 ∨ k % 5 = 3 ∨ k % 5 = 4 := by omega
  rcases hC with hC | hC | hC | hC | hC
  · have e0 : (k % 5 == 0) = true := by simp [hC]
    rw [show one ⟨a, b, c, d⟩ (k, n) = ((spend ⟨a, b, c, d⟩ n).1, if (spend ⟨a, b, c, d⟩ n).2 = true then 1 else 0) from if_pos hC]
    have h0 := fun W : World => spend_ref ⟨a, b, c, d⟩ n W
    generalize spend ⟨a, b, c, d⟩ n = y at *
    obtain ⟨⟨ya, yb, yc, yd⟩, yt⟩ := y
    have H := Lib.hid h0
    clear h0
    go_enter Try.func27, Try.ntmps27
    go_wp2_with fail
    refine (H.out _).mono ?_
    rintro e w1 ⟨rfl, hb⟩
    have hK := ((((Keep.start w).alloc [.int .i64 a, .int .i64 b, .int .i64 c, .int .i64 d] 23).allocAt (w.heap.size + 1) (by simp) [.int .u8 k, .int .i64 n] 66).allocAt (w.heap.size + 1 + 1) (by simp) [.int .i64 0, .int .i64 0, .int .i64 0, .int .i64 0] 23).call hb
    obtain ⟨lc, hc⟩ := hK.at_ 2 rfl
    obtain ⟨ld, hd⟩ := hK.at_ 1 rfl
    obtain ⟨le, he⟩ := hK.at_ 0 rfl
    obtain ⟨⟨c0, c1, c2, c3⟩, cf0, cf1, cf2, cf3⟩ := hc.o4
    obtain ⟨⟨d0, d1⟩, -⟩ := hd.o2
    obtain ⟨⟨e0', e1', e2', e3'⟩, ef0, ef1, ef2, ef3⟩ := he.o4
    clear hK hc hd he
    have HB : Hid (Below w.heap.size w w1) := Lib.hid ((((Below.refl _ w).alloc (Nat.le_refl _) _).alloc (by simp) _ |>.alloc (by simp; omega) _).trans (hb.mono (by simp; omega)))
    clear hb
    cases yt
    all_goals go_wp2
    all_goals
      refine bodyPost_ret ?_ rfl ⟨rfl, ?_⟩
      · simp [results, Try.results27, go_sem, e0', e1', e2', e3', le]
      · (repeat (first | (with_reducible exact HB.out) | (with_reducible refine Below.drew ?_) | ((with_reducible refine Below.alloc ?_ ?_ _); rotate_left; focus (have q := HB.out.size; first | omega | (simp; omega))) | ((with_reducible refine Below.setCell ?_ ?_ _); rotate_left; focus (first | (simp; done) | (simp; omega) | (have q := HB.out.size; simp; omega)))))
  · have e0 : (k % 5 == 0) = false := by simp [hC]
    have e1 : (k % 5 == 1) = true := by simp [hC]
    rw [show one ⟨a, b, c, d⟩ (k, n) = ((given ⟨a, b, c, d⟩ n).1, if (given ⟨a, b, c, d⟩ n).2 = true then 1 else 0) from (if_neg (by omega)).trans (if_pos hC)]
    have h0 := fun W : World => given_ref ⟨a, b, c, d⟩ n W
    generalize given ⟨a, b, c, d⟩ n = y at *
    obtain ⟨⟨ya, yb, yc, yd⟩, yt⟩ := y
    have H := Lib.hid h0
    clear h0
    go_enter Try.func27, Try.ntmps27
    go_wp2_with fail
    refine (H.out _).mono ?_
    rintro e w1 ⟨rfl, hb⟩
    have hK := ((((Keep.start w).alloc [.int .i64 a, .int .i64 b, .int .i64 c, .int .i64 d] 23).allocAt (w.heap.size + 1) (by simp) [.int .u8 k, .int .i64 n] 66).allocAt (w.heap.size + 1 + 1) (by simp) [.int .i64 0, .int .i64 0, .int .i64 0, .int .i64 0] 23).call hb
    obtain ⟨lc, hc⟩ := hK.at_ 2 rfl
    obtain ⟨ld, hd⟩ := hK.at_ 1 rfl
    obtain ⟨le, he⟩ := hK.at_ 0 rfl
    obtain ⟨⟨c0, c1, c2, c3⟩, cf0, cf1, cf2, cf3⟩ := hc.o4
    obtain ⟨⟨d0, d1⟩, -⟩ := hd.o2
    obtain ⟨⟨e0', e1', e2', e3'⟩, ef0, ef1, ef2, ef3⟩ := he.o4
    clear hK hc hd he
    have HB : Hid (Below w.heap.size w w1) := Lib.hid ((((Below.refl _ w).alloc (Nat.le_refl _) _).alloc (by simp) _ |>.alloc (by simp; omega) _).trans (hb.mono (by simp; omega)))
    clear hb
    cases yt
    all_goals go_wp2
    all_goals
      refine bodyPost_ret ?_ rfl ⟨rfl, ?_⟩
      · simp [results, Try.results27, go_sem, e0', e1', e2', e3', le]
      · (repeat (first | (with_reducible exact HB.out) | (with_reducible refine Below.drew ?_) | ((with_reducible refine Below.alloc ?_ ?_ _); rotate_left; focus (have q := HB.out.size; first | omega | (simp; omega))) | ((with_reducible refine Below.setCell ?_ ?_ _); rotate_left; focus (first | (simp; done) | (simp; omega) | (have q := HB.out.size; simp; omega)))))
  · have e0 : (k % 5 == 0) = false := by simp [hC]
    have e1 : (k % 5 == 1) = false := by simp [hC]
    have e2 : (k % 5 == 2) = true := by simp [hC]
    rw [show one ⟨a, b, c, d⟩ (k, n) = ((reach ⟨a, b, c, d⟩ n).1, if (reach ⟨a, b, c, d⟩ n).2.2 = true then (reach ⟨a, b, c, d⟩ n).2.1 else -1) from (if_neg (by omega)).trans ((if_neg (by omega)).trans (if_pos hC))]
    have h0 := fun W : World => reach_ref ⟨a, b, c, d⟩ n W
    generalize reach ⟨a, b, c, d⟩ n = y at *
    obtain ⟨⟨ya, yb, yc, yd⟩, ym, yt⟩ := y
    have H := Lib.hid h0
    clear h0
    go_enter Try.func27, Try.ntmps27
    go_wp2_with fail
    refine (H.out _).mono ?_
    rintro e w1 ⟨rfl, hb⟩
    have hK := ((((Keep.start w).alloc [.int .i64 a, .int .i64 b, .int .i64 c, .int .i64 d] 23).allocAt (w.heap.size + 1) (by simp) [.int .u8 k, .int .i64 n] 66).allocAt (w.heap.size + 1 + 1) (by simp) [.int .i64 0, .int .i64 0, .int .i64 0, .int .i64 0] 23).call hb
    obtain ⟨lc, hc⟩ := hK.at_ 2 rfl
    obtain ⟨ld, hd⟩ := hK.at_ 1 rfl
    obtain ⟨le, he⟩ := hK.at_ 0 rfl
    obtain ⟨⟨c0, c1, c2, c3⟩, cf0, cf1, cf2, cf3⟩ := hc.o4
    obtain ⟨⟨d0, d1⟩, -⟩ := hd.o2
    obtain ⟨⟨e0', e1', e2', e3'⟩, ef0, ef1, ef2, ef3⟩ := he.o4
    clear hK hc hd he
    have HB : Hid (Below w.heap.size w w1) := Lib.hid ((((Below.refl _ w).alloc (Nat.le_refl _) _).alloc (by simp) _ |>.alloc (by simp; omega) _).trans (hb.mono (by simp; omega)))
    clear hb
    cases yt
    all_goals go_wp2
    all_goals
      refine bodyPost_ret ?_ rfl ⟨rfl, ?_⟩
      · simp [results, Try.results27, go_sem, e0', e1', e2', e3', le]
      · (repeat (first | (with_reducible exact HB.out) | (with_reducible refine Below.drew ?_) | ((with_reducible refine Below.alloc ?_ ?_ _); rotate_left; focus (have q := HB.out.size; first | omega | (simp; omega))) | ((with_reducible refine Below.setCell ?_ ?_ _); rotate_left; focus (first | (simp; done) | (simp; omega) | (have q := HB.out.size; simp; omega)))))
  · have e0 : (k % 5 == 0) = false := by simp [hC]
    have e1 : (k % 5 == 1) = false := by simp [hC]
    have e2 : (k % 5 == 2) = false := by simp [hC]
    have e3 : (k % 5 == 3) = true := by simp [hC]
    rw [show one ⟨a, b, c, d⟩ (k, n) = (eat ⟨a, b, c, d⟩ n, 0) from (if_neg (by omega)).trans ((if_neg (by omega)).trans ((if_neg (by omega)).trans (if_pos hC)))]
    have h0 := fun W : World => eat_ref ⟨a, b, c, d⟩ n W HN.out
    generalize eat ⟨a, b, c, d⟩ n = y at *
    obtain ⟨ya, yb, yc, yd⟩ := y
    have H := Lib.hid h0
    clear h0
    go_enter Try.func27, Try.ntmps27
    go_wp2_with fail
    refine (H.out _).mono ?_
    rintro e w1 ⟨rfl, hb⟩
    have hK := ((((Keep.start w).alloc [.int .i64 a, .int .i64 b, .int .i64 c, .int .i64 d] 23).allocAt (w.heap.size + 1) (by simp) [.int .u8 k, .int .i64 n] 66).allocAt (w.heap.size + 1 + 1) (by simp) [.int .i64 0, .int .i64 0, .int .i64 0, .int .i64 0] 23).call hb
    obtain ⟨lc, hc⟩ := hK.at_ 2 rfl
    obtain ⟨ld, hd⟩ := hK.at_ 1 rfl
    obtain ⟨le, he⟩ := hK.at_ 0 rfl
    obtain ⟨⟨c0, c1, c2, c3⟩, cf0, cf1, cf2, cf3⟩ := hc.o4
    obtain ⟨⟨d0, d1⟩, -⟩ := hd.o2
    obtain ⟨⟨e0', e1', e2', e3'⟩, ef0, ef1, ef2, ef3⟩ := he.o4
    clear hK hc hd he
    have HB : Hid (Below w.heap.size w w1) := Lib.hid ((((Below.refl _ w).alloc (Nat.le_refl _) _).alloc (by simp) _ |>.alloc (by simp; omega) _).trans (hb.mono (by simp; omega)))
    clear hb
    go_wp2
    all_goals
      refine bodyPost_ret ?_ rfl ⟨rfl, ?_⟩
      · simp [results, Try.results27, go_sem, e0', e1', e2', e3']
      · (repeat (first | (with_reducible exact HB.out) | (with_reducible refine Below.drew ?_) | ((with_reducible refine Below.alloc ?_ ?_ _); rotate_left; focus (have q := HB.out.size; first | omega | (simp; omega))) | ((with_reducible refine Below.setCell ?_ ?_ _); rotate_left; focus (first | (simp; done) | (simp; omega) | (have q := HB.out.size; simp; omega)))))
  · have e0 : (k % 5 == 0) = false := by simp [hC]
    have e1 : (k % 5 == 1) = false := by simp [hC]
    have e2 : (k % 5 == 2) = false := by simp [hC]
    have e3 : (k % 5 == 3) = false := by simp [hC]
    have e4 : (k % 5 == 4) = true := by simp [hC]
    rw [show one ⟨a, b, c, d⟩ (k, n) = grant ⟨a, b, c, d⟩ from (if_neg (by omega)).trans ((if_neg (by omega)).trans ((if_neg (by omega)).trans (if_neg (by omega))))]
    have h0 := fun W : World => grant_ref ⟨a, b, c, d⟩ W
    generalize grant ⟨a, b, c, d⟩ = y at *
    obtain ⟨⟨ya, yb, yc, yd⟩, ym⟩ := y
    have H := Lib.hid h0
    clear h0
    go_enter Try.func27, Try.ntmps27
    go_wp2_with fail
    refine (H.out _).mono ?_
    rintro e w1 ⟨rfl, hb⟩
    have hK := ((((Keep.start w).alloc [.int .i64 a, .int .i64 b, .int .i64 c, .int .i64 d] 23).allocAt (w.heap.size + 1) (by simp) [.int .u8 k, .int .i64 n] 66).allocAt (w.heap.size + 1 + 1) (by simp) [.int .i64 0, .int .i64 0, .int .i64 0, .int .i64 0] 23).call hb
    obtain ⟨lc, hc⟩ := hK.at_ 2 rfl
    obtain ⟨ld, hd⟩ := hK.at_ 1 rfl
    obtain ⟨le, he⟩ := hK.at_ 0 rfl
    obtain ⟨⟨c0, c1, c2, c3⟩, cf0, cf1, cf2, cf3⟩ := hc.o4
    obtain ⟨⟨d0, d1⟩, -⟩ := hd.o2
    obtain ⟨⟨e0', e1', e2', e3'⟩, ef0, ef1, ef2, ef3⟩ := he.o4
    clear hK hc hd he
    have HB : Hid (Below w.heap.size w w1) := Lib.hid ((((Below.refl _ w).alloc (Nat.le_refl _) _).alloc (by simp) _ |>.alloc (by simp; omega) _).trans (hb.mono (by simp; omega)))
    clear hb
    go_wp2
    all_goals
      refine bodyPost_ret ?_ rfl ⟨rfl, ?_⟩
      · simp [results, Try.results27, go_sem, e0', e1', e2', e3']
      · (repeat (first | (with_reducible exact HB.out) | (with_reducible refine Below.drew ?_) | ((with_reducible refine Below.alloc ?_ ?_ _); rotate_left; focus (have q := HB.out.size; first | omega | (simp; omega))) | ((with_reducible refine Below.setCell ?_ ?_ _); rotate_left; focus (first | (simp; done) | (simp; omega) | (have q := HB.out.size; simp; omega)))))

end Go.Proofs.Ytdonkkcdjbjkeaa
