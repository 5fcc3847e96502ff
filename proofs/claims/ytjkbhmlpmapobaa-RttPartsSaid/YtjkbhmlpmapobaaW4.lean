/-
  The walks of layer 8's functions: many times.
-/
import Derived.Test.YtjkbhmlpmapobaaW2
import Derived.Test.YtjkbhmlpmapobaaW3
import Derived.Deep.RegionWith
import Derived.Laws.EntriesVeiled
namespace Go.Proofs.Ytjkbhmlpmapobaa
open Go.RowKit

/-- A state's own block: its four cells. -/
def Box (w : World) (b : Nat) (x : S) : Prop :=
  (w.cell? ⟨b, 0, none⟩ = some (.int .i64 x.s) ∧ w.cell? ⟨b, 1, none⟩ = some (.int .i64 x.v) ∧ w.cell? ⟨b, 2, none⟩ = some (.bool x.k) ∧ w.cell? ⟨b, 3, none⟩ = some (.int .i64 x.h)) ∧
  w.frozen? ⟨b, 0, none⟩ = false ∧ w.frozen? ⟨b, 1, none⟩ = false ∧ w.frozen? ⟨b, 2, none⟩ = false ∧ w.frozen? ⟨b, 3, none⟩ = false
theorem Box.below {w w' : World} {b B : Nat} {x : S} (h : Box w b x) (hb : Below B w w') (hB : b < B) : Box w' b x := by
  obtain ⟨⟨c0, c1, c2, c3⟩, f0, f1, f2, f3⟩ := h
  exact ⟨⟨(hb.cell (p := ⟨b, 0, none⟩) hB).trans c0, (hb.cell (p := ⟨b, 1, none⟩) hB).trans c1, (hb.cell (p := ⟨b, 2, none⟩) hB).trans c2, (hb.cell (p := ⟨b, 3, none⟩) hB).trans c3⟩,
    (hb.frozen (p := ⟨b, 0, none⟩) hB).trans f0, (hb.frozen (p := ⟨b, 1, none⟩) hB).trans f1, (hb.frozen (p := ⟨b, 2, none⟩) hB).trans f2, (hb.frozen (p := ⟨b, 3, none⟩) hB).trans f3⟩

theorem pick_neg (n : Int) (hn : n < 0) (w : World) : Calls Try.prog 19 #[.int .i64 n] w fun e w' => e = .returned (.func (.func 12) #[] #[]) ∧ w.alloc (.cells #[.int .i64 n] 3) = w' := by
  go_enter Try.func19, Try.ntmps19
  go_wp2
  go_ret
  exact ⟨rfl, rfl⟩
theorem pick_pos (n : Int) (hn : ¬ n < 0) (w : World) : Calls Try.prog 19 #[.int .i64 n] w fun e w' => e = .returned (.func (.func 20) #[] #[.pointer (some ⟨w.heap.size, 0, none⟩)]) ∧ w.alloc (.cells #[.int .i64 n] 3) = w' := by
  go_enter Try.func19, Try.ntmps19
  go_wp2
  go_ret
  exact ⟨rfl, rfl⟩
theorem new_own (w : World) : Calls Try.prog 18 #[] w fun e w' => e = .returned (.agg #[.int .i64 0, .int .i64 0, .bool false, .int .i64 0]) ∧ Below w.heap.size w w' := by
  go_enter Try.func18, Try.ntmps18
  go_wp2
  exact bodyPost_ret (v := .agg #[.int .i64 0, .int .i64 0, .bool false, .int .i64 0]) (by simp [results, Try.results18, go_sem]) rfl ⟨rfl, by repeat (first | exact Below.refl _ _ | refine Below.alloc ?_ (by first | (simp; done) | (simp; omega)) _)⟩

theorem clo_own (x : S) (n : Int) (b : Nat) (w : World) (hb : b < w.heap.size) (hc : w.cell? ⟨b, 0, none⟩ = some (.int .i64 n)) :
    Calls Try.prog 20 #[.agg #[.int .i64 x.s, .int .i64 x.v, .bool x.k, .int .i64 x.h], .pointer (some ⟨b, 0, none⟩)] w fun e w' => e = .returned (.agg #[.int .i64 (smp x n).s, .int .i64 (smp x n).v, .bool (smp x n).k, .int .i64 (smp x n).h]) ∧ Below w.heap.size w w' := by
  have hne : b ≠ w.heap.size := by omega
  have hne' : b ≠ w.heap.size + 1 := by omega
  go_enter Try.func20, Try.ntmps20
  go_wp2_with fail
  refine (sample_own x n _).mono ?_
  rintro e w1 ⟨rfl, hb1⟩
  have hbox : Box w1 (w.heap.size + 1) ⟨0, 0, false, 0⟩ := by
    refine Box.below (w := _) ?_ hb1 (by simp)
    refine ⟨⟨?_, ?_, ?_, ?_⟩, ?_, ?_, ?_, ?_⟩ <;> simp [go_sem]
  obtain ⟨⟨c0, c1, c2, c3⟩, f0, f1, f2, f3⟩ := hbox
  have b1 : Below w.heap.size w w1 := (((Below.refl _ w).alloc (Nat.le_refl _) _).alloc (by simp) _).trans (hb1.mono (by simp; omega))
  have HB := Lib.hid b1
  clear hb1 b1
  go_wp2
  refine bodyPost_ret (v := .agg #[.int .i64 (smp x n).s, .int .i64 (smp x n).v, .bool (smp x n).k, .int .i64 (smp x n).h]) ?_ rfl ⟨rfl, ?_⟩
  · simp [results, Try.results20, go_sem, c0, c1, c2, c3]
  · exact (((HB.out.setCell (by simp) _).setCell (by simp) _).setCell (by simp) _).setCell (by simp) _

/-- Times and doublings. -/
def run1 (x : S) (n : Int) : S := if n < 0 then exps x else smp x n
def runs (x : S) (l : List Int) : S := l.foldl run1 x
theorem runs_snoc (x : S) (l : List Int) (n : Int) : runs x (l ++ [n]) = run1 (runs x l) n := by simp [runs]
theorem take_snoc (l : List Int) (k : Nat) (h : k < l.length) : l.take (k + 1) = l.take k ++ [l.getD k 0] := by
  rw [List.take_succ_eq_append_getElem h]; simp [List.getD_eq_getElem?_getD, h]

/-- The world with a state laid into its block. -/
def lay (w : World) (b : Nat) (y : S) : World :=
  (((w.setCell ⟨b, 0, none⟩ (.int .i64 y.s)).setCell ⟨b, 1, none⟩ (.int .i64 y.v)).setCell ⟨b, 2, none⟩ (.bool y.k)).setCell ⟨b, 3, none⟩ (.int .i64 y.h)
theorem Box.lay {w : World} {b : Nat} {x : S} (h : Box w b x) (y : S) : Box (lay w b y) b y := by
  obtain ⟨⟨c0, c1, c2, c3⟩, f0, f1, f2, f3⟩ := h
  unfold Ytjkbhmlpmapobaa.lay
  refine ⟨⟨?_, ?_, ?_, ?_⟩, ?_, ?_, ?_, ?_⟩ <;> simp [go_sem, c0, c1, c2, c3, f0, f1, f2, f3]
theorem Box.far {w : World} {b g : Nat} {x : S} (h : Box w g x) (hne : b ≠ g) (y : S) : Box (Ytjkbhmlpmapobaa.lay w b y) g x := by
  obtain ⟨⟨c0, c1, c2, c3⟩, f0, f1, f2, f3⟩ := h
  unfold Ytjkbhmlpmapobaa.lay
  refine ⟨⟨?_, ?_, ?_, ?_⟩, ?_, ?_, ?_, ?_⟩ <;> simp [go_sem, c0, c1, c2, c3, f0, f1, f2, f3]
theorem below_lay {w0 w : World} {B b : Nat} (h : Below B w0 w) (hb : B ≤ b) (y : S) : Below B w0 (lay w b y) :=
  (((h.setCell (p := ⟨b, 0, none⟩) hb _).setCell (p := ⟨b, 1, none⟩) hb _).setCell (p := ⟨b, 2, none⟩) hb _).setCell (p := ⟨b, 3, none⟩) hb _
theorem size_lay (w : World) (b : Nat) (y : S) : (lay w b y).heap.size = w.heap.size := by simp [lay, World.setCell]

/-- A contract over what an earlier world had. -/
theorem rel_of {f : FuncId} {args : Array Value} {v : Value} {w0 w : World} (h : Calls Try.prog f args w fun e w' => e = .returned v ∧ Below w.heap.size w w') (hb : Below w0.heap.size w0 w) :
    Calls Try.prog f args w fun e w' => e = .returned v ∧ Below w0.heap.size w0 w' := h.mono fun _ _ ⟨he, hw⟩ => ⟨he, bt hb hw⟩

set_option maxHeartbeats 1000000 in
theorem run_own (x : S) (A : Option Addr) (len cap : Nat) (zs : List Int) (w : World) (hr : IsRow .i64 w A len cap zs) (hl : len ≤ 1000) :
    Calls Try.prog 14 #[.agg #[.int .i64 x.s, .int .i64 x.v, .bool x.k, .int .i64 x.h], .slice A len cap] w fun e w' =>
      e = .returned (.agg #[.int .i64 (runs x zs).s, .int .i64 (runs x zs).v, .bool (runs x zs).k, .int .i64 (runs x zs).h]) ∧ Below w.heap.size w w' := by
  have hlen := hr.1
  go_enter Try.func14, Try.ntmps14
  go_wp2_with fail
  go_loopw [9] (fun i wr => ∃ k : Nat, k ≤ len ∧ i = .int .i64 (k : Int) ∧ Box wr w.heap.size (runs x (zs.take k)) ∧ Box wr (w.heap.size + 1) ⟨0, 0, false, 0⟩ ∧ Below w.heap.size w wr ∧ w.heap.size + 2 ≤ wr.heap.size) (fun i _ => len - (intOf i).toNat)
  case atStart =>
    refine ⟨0, by omega, rfl, ?_, ?_, ((Below.refl _ w).alloc (Nat.le_refl _) _).alloc (by simp) _, by simp⟩
    · refine ⟨⟨?_, ?_, ?_, ?_⟩, ?_, ?_, ?_, ?_⟩ <;> simp [go_sem, runs]
    · refine ⟨⟨?_, ?_, ?_, ?_⟩, ?_, ?_, ?_, ?_⟩ <;> simp [go_sem]
  case round =>
    obtain ⟨k, hk, rfl, hb1, hb2, hbel, hsz⟩ := hrel
    by_cases hlt : k < len
    · have hr' := hr.below (Nat.le_refl _) hbel
      obtain ⟨b, o, rfl, hbl, hck, hwz⟩ := hr'.at_ hlt
      have hsn := runs_snoc x (zs.take k) (zs.getD k 0)
      rw [← take_snoc zs k (by omega)] at hsn
      have HS := Lib.hid hsn
      clear hsn hwz
      generalize zs.getD k 0 = z at *
      generalize runs x (zs.take k) = y at *
      have HB2 := Lib.hid hb2
      clear hb2
      by_cases hz : z < 0
      · have hB := hb1
        have HB1 := Lib.hid hB
        clear hB
        obtain ⟨⟨c0, c1, c2, c3⟩, f0, f1, f2, f3⟩ := hb1
        have hlt1 : w.heap.size < wr.heap.size := by omega
        go_wp2_with fail
        go_region_with (first
          | (go_at_call 19; refine (pick_neg _ hz _).mono ?_; rintro e w1 ⟨rfl, rfl⟩)
          | (go_at_call 12; refine (rel_of (w0 := wr) (expire_own y _) ?_).mono ?_; (repeat (first | exact Below.refl _ _ | refine Below.alloc ?_ (by first | (simp; done) | (simp; omega)) _ | refine Below.drew ?_)); rintro e w2 ⟨rfl, hbe⟩; obtain ⟨⟨d0, d1, d2, d3⟩, g0, g1, g2, g3⟩ := HB1.out.below hbe hlt1))
        all_goals go_wp2
        all_goals go_roundw
        all_goals first
          | (simp [intOf]; omega)
          | (refine ⟨k + 1, by omega, by go_num, ?_⟩
             rw [HS.out, show run1 y z = exps y from if_pos hz]
             refine ⟨(HB1.out.below hbe hlt1).lay (exps y), (HB2.out.below hbe (by omega)).far (by omega) (exps y), below_lay (bt hbel hbe) (Nat.le_refl _) (exps y), ?_⟩
             have e := size_lay w2 w.heap.size (exps y)
             unfold lay at e
             rw [e]
             exact Nat.le_trans hsz hbe.size)
      · have hB := hb1
        have HB1 := Lib.hid hB
        clear hB
        obtain ⟨⟨c0, c1, c2, c3⟩, f0, f1, f2, f3⟩ := hb1
        have hlt1 : w.heap.size < wr.heap.size := by omega
        go_wp2_with fail
        go_region_with (first
          | (go_at_call 19; refine (pick_pos _ (by omega) _).mono ?_; rintro e w1 ⟨rfl, rfl⟩)
          | (go_at_call 20; refine (rel_of (w0 := wr) (clo_own y z _ _ ?_ ?_) ?_).mono ?_; simp; simp [go_sem]; (repeat (first | exact Below.refl _ _ | refine Below.alloc ?_ (by first | (simp; done) | (simp; omega)) _ | refine Below.drew ?_)); rintro e w2 ⟨rfl, hbe⟩; obtain ⟨⟨d0, d1, d2, d3⟩, g0, g1, g2, g3⟩ := HB1.out.below hbe hlt1))
        all_goals go_wp2
        all_goals go_roundw
        all_goals first
          | (simp [intOf]; omega)
          | (refine ⟨k + 1, by omega, by go_num, ?_⟩
             rw [HS.out, show run1 y z = smp y z from if_neg (by omega)]
             refine ⟨(HB1.out.below hbe hlt1).lay (smp y z), (HB2.out.below hbe (by omega)).far (by omega) (smp y z), below_lay (bt hbel hbe) (Nat.le_refl _) (smp y z), ?_⟩
             have e := size_lay w2 w.heap.size (smp y z)
             unfold lay at e
             rw [e]
             exact Nat.le_trans hsz hbe.size)
    · have hz0 : zs.take k = zs := List.take_of_length_le (by omega)
      rw [hz0] at hb1
      obtain ⟨⟨c0, c1, c2, c3⟩, f0, f1, f2, f3⟩ := hb1
      obtain ⟨⟨d0, d1, d2, d3⟩, g0, g1, g2, g3⟩ := hb2
      have HB := Lib.hid hbel
      clear hbel
      go_wp2
      refine bodyPost_ret (v := .agg #[.int .i64 (runs x zs).s, .int .i64 (runs x zs).v, .bool (runs x zs).k, .int .i64 (runs x zs).h]) ?_ rfl ⟨rfl, ?_⟩
      · simp [results, Try.results14, go_sem, d0, d1, d2, d3]
      · exact (((HB.out.setCell (by simp) _).setCell (by simp) _).setCell (by simp) _).setCell (by simp) _
end Go.Proofs.Ytjkbhmlpmapobaa
