/-
  The walk of CursorReads.
-/
import Derived.Test.YtomajnngifoiiaaW9
import Derived.Deep.RegionHeld3
import Derived.Deep.DeepCutAuto
namespace Go.Proofs.Ytomajnngifoiiaa
open Go.RowKit

/-- Below the first world's end all is as it was, and these blocks hold these cells. -/
def Keep (w V : World) (l : List (Nat × List Value)) : Prop := Below w.heap.size w V ∧ ∀ x ∈ l, x.1 < V.heap.size ∧ Cs V x.1 x.2
theorem Keep.call {w V V' : World} {l : List (Nat × List Value)} (h : Keep w V l) (hb : Below V.heap.size V V') : Keep w V' l :=
  ⟨bt h.1 hb, fun x hx => ⟨Nat.lt_of_lt_of_le (h.2 x hx).1 hb.size, (h.2 x hx).2.below hb (h.2 x hx).1⟩⟩
theorem Keep.alloc {w V : World} {l : List (Nat × List Value)} (h : Keep w V l) (vs : List Value) (t : TypeId) : Keep w (V.alloc (.cells vs.toArray t)) ((V.heap.size, vs) :: l) := by
  have hb : Below V.heap.size V (V.alloc (.cells vs.toArray t)) := (Below.refl _ _).alloc (Nat.le_refl _) _
  refine ⟨(h.call hb).1, fun x hx => ?_⟩
  rcases List.mem_cons.1 hx with rfl | hx
  · exact ⟨by simp, Cs.new V vs t⟩
  · exact (h.call hb).2 x hx
theorem Keep.at_ {w V : World} {l : List (Nat × List Value)} (h : Keep w V l) (i : Nat) (b : Nat) (x y z : Value) (hi : l[i]? = some (b, [x, y, z])) :
    w.heap.size ≤ V.heap.size ∧ b < V.heap.size ∧ V.cell? ⟨b, 0, none⟩ = some x ∧ V.cell? ⟨b, 1, none⟩ = some y ∧ V.cell? ⟨b, 2, none⟩ = some z := by
  have := h.2 _ (List.mem_of_getElem? hi)
  exact ⟨h.1.size, this.1, (this.2 0 _ rfl).1, (this.2 1 _ rfl).1, (this.2 2 _ rfl).1⟩

/-- Eight cursors read, whatever was made since. -/
theorem held8 {w V w' : World} {b0 b1 b2 b3 b4 b5 b6 b7 : Nat} {ca ct cr : C} {d : ByteArray} {p b : Int} (hK : Keep w V [(b0, [.string cr.d, .int .i64 cr.p, .int .i64 cr.b]), (b1, [.string cr.d, .int .i64 cr.p, .int .i64 cr.b]), (b2, [.string ct.d, .int .i64 ct.p, .int .i64 ct.b]), (b3, [.string ct.d, .int .i64 ct.p, .int .i64 ct.b]), (b4, [.string ca.d, .int .i64 ca.p, .int .i64 ca.b]), (b5, [.string ca.d, .int .i64 ca.p, .int .i64 ca.b]), (b6, [.string d, .int .i64 p, .int .i64 b]), (b7, [.string d, .int .i64 p, .int .i64 b])]) (hb : Below V.heap.size V w') :
    Below V.heap.size V w' ∧ (w'.cell? ⟨b0, 0, none⟩ = some (.string cr.d) ∧ w'.cell? ⟨b0, 1, none⟩ = some (.int .i64 cr.p) ∧ w'.cell? ⟨b0, 2, none⟩ = some (.int .i64 cr.b)) ∧ (w'.cell? ⟨b1, 0, none⟩ = some (.string cr.d) ∧ w'.cell? ⟨b1, 1, none⟩ = some (.int .i64 cr.p) ∧ w'.cell? ⟨b1, 2, none⟩ = some (.int .i64 cr.b)) ∧ (w'.cell? ⟨b2, 0, none⟩ = some (.string ct.d) ∧ w'.cell? ⟨b2, 1, none⟩ = some (.int .i64 ct.p) ∧ w'.cell? ⟨b2, 2, none⟩ = some (.int .i64 ct.b)) ∧ (w'.cell? ⟨b3, 0, none⟩ = some (.string ct.d) ∧ w'.cell? ⟨b3, 1, none⟩ = some (.int .i64 ct.p) ∧ w'.cell? ⟨b3, 2, none⟩ = some (.int .i64 ct.b)) ∧ (w'.cell? ⟨b4, 0, none⟩ = some (.string ca.d) ∧ w'.cell? ⟨b4, 1, none⟩ = some (.int .i64 ca.p) ∧ w'.cell? ⟨b4, 2, none⟩ = some (.int .i64 ca.b)) ∧ (w'.cell? ⟨b5, 0, none⟩ = some (.string ca.d) ∧ w'.cell? ⟨b5, 1, none⟩ = some (.int .i64 ca.p) ∧ w'.cell? ⟨b5, 2, none⟩ = some (.int .i64 ca.b)) ∧ (w'.cell? ⟨b6, 0, none⟩ = some (.string d) ∧ w'.cell? ⟨b6, 1, none⟩ = some (.int .i64 p) ∧ w'.cell? ⟨b6, 2, none⟩ = some (.int .i64 b)) ∧ (w'.cell? ⟨b7, 0, none⟩ = some (.string d) ∧ w'.cell? ⟨b7, 1, none⟩ = some (.int .i64 p) ∧ w'.cell? ⟨b7, 2, none⟩ = some (.int .i64 b)) :=
  ⟨hb, ((hK.call hb).at_ 0 b0 _ _ _ rfl).2.2, ((hK.call hb).at_ 1 b1 _ _ _ rfl).2.2, ((hK.call hb).at_ 2 b2 _ _ _ rfl).2.2, ((hK.call hb).at_ 3 b3 _ _ _ rfl).2.2, ((hK.call hb).at_ 4 b4 _ _ _ rfl).2.2, ((hK.call hb).at_ 5 b5 _ _ _ rfl).2.2, ((hK.call hb).at_ 6 b6 _ _ _ rfl).2.2, ((hK.call hb).at_ 7 b7 _ _ _ rfl).2.2⟩

set_option maxHeartbeats 4000000 in
theorem reads_walk (d : ByteArray) (p b n : Int) (w : World) (hd : d.size ≤ maxLen) :
    Calls Try.prog 3 #[.agg #[.string d, .int .i64 p, .int .i64 b], .int .i64 n] w fun e w' => e = .returned (.bool true) ∧ Below w.heap.size w w' := by
  by_cases hl : 200 < d.size
  · have hl' : (200 : Int) < (d.size : Int) := by omega
    go_enter Try.func3, Try.ntmps3
    go_wp2_with fail
    refine (awake_true _).mono ?_
    rintro e w1 ⟨rfl, hb1⟩
    go_wp2
    go_ret
    exact ⟨rfl, ((Below.refl _ w).alloc (Nat.le_refl _) _).trans (hb1.mono (by simp))⟩
  have hl' : ¬ (200 : Int) < (d.size : Int) := by omega
  obtain ⟨ca, va, Ny1, Ny2⟩ : ∃ (ca : C) (va : Int), (∀ W, Calls Try.prog 9 #[.agg #[.string d, .int .i64 p, .int .i64 b], .int .i64 n] W fun e w' => e = .returned (bothN ca va) ∧ Below W.heap.size W w') ∧ (∀ W, Calls Try.prog 10 #[.agg #[.string d, .int .i64 p, .int .i64 b], .int .i64 n] W fun e w' => e = .returned (bothN ca va) ∧ Below W.heap.size W w') := ⟨_, _, fun W => number_own d p b n hd W, fun W => number_ref d p b n hd W⟩
  obtain ⟨ct, tt, Ty1, Ty2⟩ : ∃ (ct : C) (tt : ByteArray), (∀ W, Calls Try.prog 11 #[.agg #[.string d, .int .i64 p, .int .i64 b], .int .i64 n] W fun e w' => e = .returned (both ct tt) ∧ Below W.heap.size W w') ∧ (∀ W, Calls Try.prog 12 #[.agg #[.string d, .int .i64 p, .int .i64 b], .int .i64 n] W fun e w' => e = .returned (both ct tt) ∧ Below W.heap.size W w') := ⟨_, _, fun W => take_own d p b n hd W, fun W => take_ref d p b n hd W⟩
  obtain ⟨cr, tr, Ry1, Ry2⟩ : ∃ (cr : C) (tr : ByteArray), (∀ W, Calls Try.prog 13 #[.agg #[.string d, .int .i64 p, .int .i64 b]] W fun e w' => e = .returned (both cr tr) ∧ Below W.heap.size W w') ∧ (∀ W, Calls Try.prog 14 #[.agg #[.string d, .int .i64 p, .int .i64 b]] W fun e w' => e = .returned (both cr tr) ∧ Below W.heap.size W w') := ⟨_, _, fun W => rest_own d p b hd W, fun W => rest_ref d p b hd W⟩
  obtain ⟨lv, Ly1, Ly2⟩ : ∃ (lv : Int), (∀ W, Calls Try.prog 16 #[.agg #[.string d, .int .i64 p, .int .i64 b]] W fun e w' => e = .returned (.int .i64 lv) ∧ Below W.heap.size W w') ∧ (∀ W, Calls Try.prog 17 #[.agg #[.string d, .int .i64 p, .int .i64 b]] W fun e w' => e = .returned (.int .i64 lv) ∧ Below W.heap.size W w') := ⟨_, fun W => left_own d p b hd W, fun W => left_ref d p b hd W⟩
  obtain ⟨dv, Dy1, Dy2⟩ : ∃ (dv : Int), (∀ W, Calls Try.prog 18 #[.agg #[.string d, .int .i64 p, .int .i64 b]] W fun e w' => e = .returned (.int .i64 dv) ∧ Below W.heap.size W w') ∧ (∀ W, Calls Try.prog 19 #[.agg #[.string d, .int .i64 p, .int .i64 b]] W fun e w' => e = .returned (.int .i64 dv) ∧ Below W.heap.size W w') := ⟨_, fun W => done_own d p b hd W, fun W => done_ref d p b hd W⟩
  unfold bothN at Ny1 Ny2
  unfold both at Ty1 Ty2 Ry1 Ry2
  have N1 := Lib.hid Ny1
  have N2 := Lib.hid Ny2
  clear Ny1 Ny2
  have T1 := Lib.hid Ty1
  have T2 := Lib.hid Ty2
  clear Ty1 Ty2
  have R1 := Lib.hid Ry1
  have R2 := Lib.hid Ry2
  clear Ry1 Ry2
  have L1 := Lib.hid Ly1
  have L2 := Lib.hid Ly2
  clear Ly1 Ly2
  have D1 := Lib.hid Dy1
  have D2 := Lib.hid Dy2
  clear Dy1 Dy2
  clear hd
  have K0 : Keep w w [] := ⟨Below.refl _ _, fun x hx => by cases hx⟩
  have KA := Lib.hid (K0.alloc [.string d, .int .i64 p, .int .i64 b] 23)
  clear K0
  go_enter Try.func3, Try.ntmps3
  go_wp2_with fail
  refine (own_same d p b _).mono ?_
  rintro e w1 ⟨rfl, k1⟩
  have K1 := Lib.hid (KA.out.call k1)
  clear k1 KA
  obtain ⟨s0, s1, a0, a1, a2⟩ := K1.out.at_ 0 w.heap.size _ _ _ rfl
  go_wp2_with fail
  refine (N1.out _).mono ?_
  rintro e w2 ⟨rfl, k2⟩
  have K2 := Lib.hid ((K1.out.alloc [.string d, .int .i64 p, .int .i64 b] 27).call k2)
  clear k2 K1
  clear s0 s1 a0 a1 a2
  obtain ⟨s0, s1, a0, a1, a2⟩ := K2.out.at_ 1 w.heap.size _ _ _ rfl
  go_wp2_with fail
  refine (N2.out _).mono ?_
  rintro e w3 ⟨rfl, k3⟩
  have K3 := Lib.hid ((K2.out.alloc [.string ca.d, .int .i64 ca.p, .int .i64 ca.b] 27).call k3)
  clear k3 K2
  clear s0 s1 a0 a1 a2
  obtain ⟨s0, s1, a0, a1, a2⟩ := K3.out.at_ 1 w1.heap.size _ _ _ rfl
  go_wp2_with fail
  refine (T1.out _).mono ?_
  rintro e w4 ⟨rfl, k4⟩
  have K4 := Lib.hid ((K3.out.alloc [.string ca.d, .int .i64 ca.p, .int .i64 ca.b] 23).call k4)
  clear k4 K3
  clear s0 s1 a0 a1 a2
  obtain ⟨s0, s1, a0, a1, a2⟩ := K4.out.at_ 3 w.heap.size _ _ _ rfl
  go_wp2_with fail
  refine (T2.out _).mono ?_
  rintro e w5 ⟨rfl, k5⟩
  have K5 := Lib.hid ((K4.out.alloc [.string ct.d, .int .i64 ct.p, .int .i64 ct.b] 27).call k5)
  clear k5 K4
  clear s0 s1 a0 a1 a2
  obtain ⟨s0, s1, a0, a1, a2⟩ := K5.out.at_ 3 w1.heap.size _ _ _ rfl
  go_wp2_with fail
  refine (R1.out _).mono ?_
  rintro e w6 ⟨rfl, k6⟩
  have K6 := Lib.hid ((K5.out.alloc [.string ct.d, .int .i64 ct.p, .int .i64 ct.b] 23).call k6)
  clear k6 K5
  clear s0 s1 a0 a1 a2
  obtain ⟨s0, s1, a0, a1, a2⟩ := K6.out.at_ 5 w.heap.size _ _ _ rfl
  go_wp2_with fail
  refine (R2.out _).mono ?_
  rintro e w7 ⟨rfl, k7⟩
  have K7 := Lib.hid ((K6.out.alloc [.string cr.d, .int .i64 cr.p, .int .i64 cr.b] 27).call k7)
  clear k7 K6
  clear s0 s1 a0 a1 a2
  have K8 := Lib.hid (K7.out.alloc [.string cr.d, .int .i64 cr.p, .int .i64 cr.b] 23)
  clear K7
  go_upto_region 10 with fail
  obtain ⟨V, hV⟩ : ∃ V, V = w7.alloc (.cells #[.string cr.d, .int .i64 cr.p, .int .i64 cr.b] 23) := ⟨_, rfl⟩
  rw [← hV]
  have K9 : Hid (Keep w V [(w7.heap.size, [.string cr.d, .int .i64 cr.p, .int .i64 cr.b]), (w6.heap.size, [.string cr.d, .int .i64 cr.p, .int .i64 cr.b]), (w5.heap.size, [.string ct.d, .int .i64 ct.p, .int .i64 ct.b]), (w4.heap.size, [.string ct.d, .int .i64 ct.p, .int .i64 ct.b]), (w3.heap.size, [.string ca.d, .int .i64 ca.p, .int .i64 ca.b]), (w2.heap.size, [.string ca.d, .int .i64 ca.p, .int .i64 ca.b]), (w1.heap.size, [.string d, .int .i64 p, .int .i64 b]), (w.heap.size, [.string d, .int .i64 p, .int .i64 b])]) := Lib.hid (by rw [hV]; exact K8.out)
  clear K8 hV
  go_region_held3 (fun w' => Below V.heap.size V w' ∧ (w'.cell? ⟨w7.heap.size, 0, none⟩ = some (.string cr.d) ∧ w'.cell? ⟨w7.heap.size, 1, none⟩ = some (.int .i64 cr.p) ∧ w'.cell? ⟨w7.heap.size, 2, none⟩ = some (.int .i64 cr.b)) ∧ (w'.cell? ⟨w6.heap.size, 0, none⟩ = some (.string cr.d) ∧ w'.cell? ⟨w6.heap.size, 1, none⟩ = some (.int .i64 cr.p) ∧ w'.cell? ⟨w6.heap.size, 2, none⟩ = some (.int .i64 cr.b)) ∧ (w'.cell? ⟨w5.heap.size, 0, none⟩ = some (.string ct.d) ∧ w'.cell? ⟨w5.heap.size, 1, none⟩ = some (.int .i64 ct.p) ∧ w'.cell? ⟨w5.heap.size, 2, none⟩ = some (.int .i64 ct.b)) ∧ (w'.cell? ⟨w4.heap.size, 0, none⟩ = some (.string ct.d) ∧ w'.cell? ⟨w4.heap.size, 1, none⟩ = some (.int .i64 ct.p) ∧ w'.cell? ⟨w4.heap.size, 2, none⟩ = some (.int .i64 ct.b)) ∧ (w'.cell? ⟨w3.heap.size, 0, none⟩ = some (.string ca.d) ∧ w'.cell? ⟨w3.heap.size, 1, none⟩ = some (.int .i64 ca.p) ∧ w'.cell? ⟨w3.heap.size, 2, none⟩ = some (.int .i64 ca.b)) ∧ (w'.cell? ⟨w2.heap.size, 0, none⟩ = some (.string ca.d) ∧ w'.cell? ⟨w2.heap.size, 1, none⟩ = some (.int .i64 ca.p) ∧ w'.cell? ⟨w2.heap.size, 2, none⟩ = some (.int .i64 ca.b)) ∧ (w'.cell? ⟨w1.heap.size, 0, none⟩ = some (.string d) ∧ w'.cell? ⟨w1.heap.size, 1, none⟩ = some (.int .i64 p) ∧ w'.cell? ⟨w1.heap.size, 2, none⟩ = some (.int .i64 b)) ∧ (w'.cell? ⟨w.heap.size, 0, none⟩ = some (.string d) ∧ w'.cell? ⟨w.heap.size, 1, none⟩ = some (.int .i64 p) ∧ w'.cell? ⟨w.heap.size, 2, none⟩ = some (.int .i64 b)))
    ((refine held8 K9.out ?_; first | assumption | exact (Below.refl _ _).drew))
    (first
      | (go_at_call 15; refine (rel_of (w0 := V) (back_same _ _ _ _) (And.left (by assumption))).mono ?_; rintro e w' ⟨rfl, kb⟩)
      | (go_at_call 16; refine (rel_of (w0 := V) (L1.out _) (And.left (by assumption))).mono ?_; rintro e w' ⟨rfl, kb⟩)
      | (go_at_call 17; refine (rel_of (w0 := V) (L2.out _) (And.left (by assumption))).mono ?_; rintro e w' ⟨rfl, kb⟩)
      | (go_at_call 18; refine (rel_of (w0 := V) (D1.out _) (And.left (by assumption))).mono ?_; rintro e w' ⟨rfl, kb⟩)
      | (go_at_call 19; refine (rel_of (w0 := V) (D2.out _) (And.left (by assumption))).mono ?_; rintro e w' ⟨rfl, kb⟩)
      | (go_at_call 20; refine (rel_of (w0 := V) (open_own d _) (And.left (by assumption))).mono ?_; rintro e w' ⟨rfl, kb⟩)
      | (go_at_call 21; refine (rel_of (w0 := V) (open_ref d _) (And.left (by assumption))).mono ?_; rintro e w' ⟨rfl, kb⟩)
      | (go_at_call 7; refine (rel_of (w0 := V) (awake_true _) (And.left (by assumption))).mono ?_; rintro e w' ⟨rfl, kb⟩))
  go_wp2
  go_ret
  exact ⟨rfl, bt K9.out.1 (And.left (by assumption))⟩

theorem reads_all (d : ByteArray) (p b n : Int) (w : World) (hd : d.size ≤ maxLen) (_ : (Lit.int .i64 p).wf = true) (_ : (Lit.int .i64 b).wf = true) (_ : (Lit.int .i64 n).wf = true) :
    Calls Try.prog 3 #[.agg #[.string d, .int .i64 p, .int .i64 b], .int .i64 n] w fun e w' => e = .returned (.bool true) ∧ Below w.heap.size w w' := reads_walk d p b n w hd
end Go.Proofs.Ytomajnngifoiiaa
