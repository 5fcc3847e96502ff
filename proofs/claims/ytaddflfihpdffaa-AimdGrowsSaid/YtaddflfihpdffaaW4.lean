/-
  The walks of layer 10's functions: acts.
-/
import Derived.Test.YtaddflfihpdffaaW3
import Derived.Laws.EntriesVeiled
namespace Go.Proofs.Ytaddflfihpdffaa
open Go.RowKit

def cells (x : S) : List Value := [.int .i64 x.a, .int .i64 x.t, .int .i64 x.p]
/-- Acts. -/
def run1 (x : S) (z : Int × Int) : S := if z.1 % 3 = 0 then ack x z.2 else if z.1 % 3 = 1 then lost x else expd x
def runs (x : S) (l : List (Int × Int)) : S := l.foldl run1 x
theorem runs_snoc (x : S) (l : List (Int × Int)) (n : Int × Int) : runs x (l ++ [n]) = run1 (runs x l) n := by simp [runs]
theorem take_snoc2 (l : List (Int × Int)) (k : Nat) (h : k < l.length) : l.take (k + 1) = l.take k ++ [l.getD k (0, 0)] := by
  rw [List.take_succ_eq_append_getElem h]; simp [List.getD_eq_getElem?_getD, h]

/-- What a round leaves. -/
def Rel (w : World) (x : S) (wr : World) : Prop := Cs wr w.heap.size (cells x) ∧ Cs wr (w.heap.size + 1) (cells ⟨0, 0, 0⟩) ∧ Below w.heap.size w wr ∧ w.heap.size + 2 ≤ wr.heap.size
theorem Rel.step {w wr w2 : World} {y z : S} (h : Rel w y wr) (hb : Below wr.heap.size wr w2) : Rel w z (layC w2 w.heap.size 0 (cells z)) := by
  obtain ⟨h1, h2, h3, h4⟩ := h
  refine ⟨Cs.lay (cells z) 0 (h1.below hb (by omega)), Cs.layFar (by omega) _ 0 (h2.below hb (by omega)), below_layC (Nat.le_refl _) _ 0 (bt h3 hb), ?_⟩
  rw [size_layC]; exact Nat.le_trans h4 hb.size
theorem Rel.call {w wr w2 : World} {y : S} (h : Rel w y wr) (hb : Below wr.heap.size wr w2) : Rel w y w2 := by
  obtain ⟨h1, h2, h3, h4⟩ := h
  exact ⟨h1.below hb (by omega), h2.below hb (by omega), bt h3 hb, Nat.le_trans h4 hb.size⟩

set_option maxHeartbeats 1000000 in
theorem run_own (x : S) (A : Option Addr) (len cap : Nat) (zs : List (Int × Int)) (w : World) (hr : IsRecs .u8 .i64 w A len cap zs) (hl : len ≤ 1000) :
    Calls Try.prog 12 #[.agg #[.int .i64 x.a, .int .i64 x.t, .int .i64 x.p], .slice A len cap] w fun e w' =>
      e = .returned (.agg #[.int .i64 (runs x zs).a, .int .i64 (runs x zs).t, .int .i64 (runs x zs).p]) ∧ Below w.heap.size w w' := by
  have hlen := hr.1
  have h0 : Rel w x ((w.alloc (.cells (cells x).toArray 26)).alloc (.cells (cells ⟨0, 0, 0⟩).toArray 26)) :=
    ⟨(Cs.new w (cells x) 26).alloc (by simp) _, by simpa using Cs.new (w.alloc (.cells (cells x).toArray 26)) (cells ⟨0, 0, 0⟩) 26, ((Below.refl _ w).alloc (Nat.le_refl _) _).alloc (by simp) _, by simp⟩
  have H0 := Lib.hid h0
  have HR := Lib.hid hr
  clear h0 hr
  go_enter Try.func12, Try.ntmps12
  go_wp2_with fail
  go_loopw [9] (fun i wr => ∃ k : Nat, k ≤ len ∧ i = .int .i64 (k : Int) ∧ Rel w (runs x (zs.take k)) wr) (fun i _ => len - (intOf i).toNat)
  case atStart => exact ⟨0, by omega, rfl, H0.out⟩
  case round =>
    clear H0
    obtain ⟨k, hk, rfl, hrel⟩ := hrel
    have HL := Lib.hid hrel
    clear hrel
    by_cases hlt : k < len
    · have hsz := HL.out.2.2.2
      obtain ⟨b, o, rfl, hbl, ⟨hck0, hck1⟩, hw0, hw1⟩ := (HR.out.below (Nat.le_refl _) HL.out.2.2.1).at_ hlt
      have hsn := runs_snoc x (zs.take k) (zs.getD k (0, 0))
      rw [← take_snoc2 zs k (by omega)] at hsn
      have HS := Lib.hid hsn
      obtain ⟨z0, z1⟩ := wf_u8 hw0
      clear hsn hw0 hw1
      generalize zs.getD k (0, 0) = z at *
      generalize runs x (zs.take k) = y at *
      obtain ⟨kd, n⟩ := z
      simp only [] at hck0 hck1 z0 z1
      obtain ⟨⟨c0, c1, c2⟩, f0, f1, f2⟩ := HL.out.1.o3
      have hlt1 : w.heap.size < wr.heap.size := by omega
      have hne : b ≠ wr.heap.size := by omega
      by_cases hz : kd % 3 = 0
      · have e0 : (kd % 3 == 0) = true := by simpa using hz
        go_wp2_with fail
        refine (rel_of (w0 := wr) (acked_own y n _) ?_).mono ?_
        · (repeat (first | exact Below.refl _ _ | refine Below.drew ?_ | refine Below.setCell ?_ (by first | (simp; done) | (simp; omega)) _ | refine Below.alloc ?_ (by first | (simp; done) | (simp; omega)) _))
        rintro e w2 ⟨rfl, hb⟩
        have HB := Lib.hid hb
        clear hb c0 c1 c2 f0 f1 f2
        obtain ⟨⟨c0, c1, c2⟩, f0, f1, f2⟩ := (HL.out.call HB.out).1.o3
        go_wp2
        go_roundw
        case rel =>
          refine ⟨k + 1, by omega, by go_num, ?_⟩
          rw [HS.out, show run1 y (kd, n) = ack y n from if_pos hz]
          exact HL.out.step HB.out
        case measure => simp [intOf]; omega
      · have e0 : (kd % 3 == 0) = false := by simpa using hz
        by_cases hz1 : kd % 3 = 1
        · have e1 : (kd % 3 == 1) = true := by simpa using hz1
          go_wp2_with fail
          refine (rel_of (w0 := wr) (lost_own y _) ?_).mono ?_
          · (repeat (first | exact Below.refl _ _ | refine Below.drew ?_ | refine Below.setCell ?_ (by first | (simp; done) | (simp; omega)) _ | refine Below.alloc ?_ (by first | (simp; done) | (simp; omega)) _))
          rintro e w2 ⟨rfl, hb⟩
          have HB := Lib.hid hb
          clear hb c0 c1 c2 f0 f1 f2
          obtain ⟨⟨c0, c1, c2⟩, f0, f1, f2⟩ := (HL.out.call HB.out).1.o3
          go_wp2
          go_roundw
          case rel =>
            refine ⟨k + 1, by omega, by go_num, ?_⟩
            rw [HS.out, show run1 y (kd, n) = lost y from (if_neg hz).trans (if_pos hz1)]
            exact HL.out.step HB.out
          case measure => simp [intOf]; omega

        · have e1 : (kd % 3 == 1) = false := by simpa using hz1
          have e2 : (kd % 3 == 2) = true := by simp; omega
          go_wp2_with fail
          refine (rel_of (w0 := wr) (expd_own y _) ?_).mono ?_
          · (repeat (first | exact Below.refl _ _ | refine Below.drew ?_ | refine Below.setCell ?_ (by first | (simp; done) | (simp; omega)) _ | refine Below.alloc ?_ (by first | (simp; done) | (simp; omega)) _))
          rintro e w2 ⟨rfl, hb⟩
          have HB := Lib.hid hb
          clear hb c0 c1 c2 f0 f1 f2
          obtain ⟨⟨c0, c1, c2⟩, f0, f1, f2⟩ := (HL.out.call HB.out).1.o3
          go_wp2
          go_roundw
          case rel =>
            refine ⟨k + 1, by omega, by go_num, ?_⟩
            rw [HS.out, show run1 y (kd, n) = expd y from (if_neg hz).trans (if_neg hz1)]
            exact HL.out.step HB.out
          case measure => simp [intOf]; omega

    · have hz0 : zs.take k = zs := List.take_of_length_le (by omega)
      rw [hz0] at HL
      obtain ⟨⟨c0, c1, c2⟩, f0, f1, f2⟩ := HL.out.1.o3
      obtain ⟨⟨d0, d1, d2⟩, g0, g1, g2⟩ := HL.out.2.1.o3
      go_wp2
      refine bodyPost_ret (v := .agg #[.int .i64 (runs x zs).a, .int .i64 (runs x zs).t, .int .i64 (runs x zs).p]) ?_ rfl ⟨rfl, ?_⟩
      · simp [results, Try.results12, go_sem, d0, d1, d2]
      · exact below_layC (by omega) (cells (runs x zs)) 0 HL.out.2.2.1
end Go.Proofs.Ytaddflfihpdffaa
