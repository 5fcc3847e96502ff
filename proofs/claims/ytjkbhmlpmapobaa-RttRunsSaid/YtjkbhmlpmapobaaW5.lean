/-
  The walks of layer 8's functions: many times, by the document's answer.
-/
import Derived.Test.YtjkbhmlpmapobaaW4
namespace Go.Proofs.Ytjkbhmlpmapobaa
open Go.RowKit

set_option maxHeartbeats 1000000 in
theorem run_ref (x : S) (A : Option Addr) (len cap : Nat) (zs : List Int) (w : World) (hr : IsRow .i64 w A len cap zs) (hl : len ≤ 1000) :
    Calls Try.prog 15 #[.agg #[.int .i64 x.s, .int .i64 x.v, .bool x.k, .int .i64 x.h], .slice A len cap] w fun e w' =>
      e = .returned (.agg #[.int .i64 (runs x zs).s, .int .i64 (runs x zs).v, .bool (runs x zs).k, .int .i64 (runs x zs).h]) ∧ Below w.heap.size w w' := by
  have hlen := hr.1
  go_enter Try.func15, Try.ntmps15
  go_wp2_with fail
  go_loopw [5] (fun i wr => ∃ k : Nat, k ≤ len ∧ i = .int .i64 (k : Int) ∧ Box wr w.heap.size (runs x (zs.take k)) ∧ Box wr (w.heap.size + 1) ⟨0, 0, false, 0⟩ ∧ Below w.heap.size w wr ∧ w.heap.size + 2 ≤ wr.heap.size) (fun i _ => len - (intOf i).toNat)
  case atStart =>
    refine ⟨0, by omega, rfl, ?_, ?_, ((Below.refl _ w).alloc (Nat.le_refl _) _).alloc (by simp) _, by simp⟩
    · refine ⟨⟨?_, ?_, ?_, ?_⟩, ?_, ?_, ?_, ?_⟩ <;> simp [go_sem, runs]
    · refine ⟨⟨?_, ?_, ?_, ?_⟩, ?_, ?_, ?_, ?_⟩ <;> simp [go_sem]
  case round =>
    obtain ⟨k, hk, rfl, hb1, hb2, hbel, hsz⟩ := hrel
    by_cases hlt : k < len
    · have hr' := hr.below (Nat.le_refl _) hbel
      obtain ⟨b, o, rfl, hbl, hck, hwz⟩ := hr'.at_ hlt
      have hsn := runs_snoc x (zs.take k) (zs.getD k 0)
      rw [← take_snoc zs k (by omega)] at hsn
      have HS := Lib.hid hsn
      clear hsn hwz
      generalize zs.getD k 0 = z at *
      generalize runs x (zs.take k) = y at *
      have HB2 := Lib.hid hb2
      clear hb2
      have hB := hb1
      have HB1 := Lib.hid hB
      clear hB
      obtain ⟨⟨c0, c1, c2, c3⟩, f0, f1, f2, f3⟩ := hb1
      have hlt1 : w.heap.size < wr.heap.size := by omega
      by_cases hz : z < 0
      · go_wp2_with fail
        refine (rel_of (w0 := wr) (expire_ref y _) (Below.refl _ _)).mono ?_
        rintro e w2 ⟨rfl, hbe⟩
        obtain ⟨⟨d0, d1, d2, d3⟩, g0, g1, g2, g3⟩ := HB1.out.below hbe hlt1
        go_wp2
        go_roundw
        case rel =>
          refine ⟨k + 1, by omega, by go_num, ?_⟩
          rw [HS.out, show run1 y z = exps y from if_pos hz]
          refine ⟨(HB1.out.below hbe hlt1).lay (exps y), (HB2.out.below hbe (by omega)).far (by omega) (exps y), below_lay (bt hbel hbe) (Nat.le_refl _) (exps y), ?_⟩
          have e := size_lay w2 w.heap.size (exps y)
          unfold lay at e
          rw [e]
          exact Nat.le_trans hsz hbe.size
        case measure => simp [intOf]; omega
      · go_wp2_with fail
        go_region_with (first
          | (go_at_call 17; refine (rel_of (w0 := wr) (sample_ref y z _) ?_).mono ?_; (repeat (first | exact Below.refl _ _ | refine Below.alloc ?_ (by first | (simp; done) | (simp; omega)) _ | refine Below.drew ?_)); rintro e w2 ⟨rfl, hbe⟩; obtain ⟨⟨d0, d1, d2, d3⟩, g0, g1, g2, g3⟩ := HB1.out.below hbe hlt1))
        all_goals go_wp2
        all_goals go_roundw
        all_goals first
          | (simp [intOf]; omega)
          | (refine ⟨k + 1, by omega, by go_num, ?_⟩
             rw [HS.out, show run1 y z = smp y z from if_neg (by omega)]
             refine ⟨(HB1.out.below hbe hlt1).lay (smp y z), (HB2.out.below hbe (by omega)).far (by omega) (smp y z), below_lay (bt hbel hbe) (Nat.le_refl _) (smp y z), ?_⟩
             have e := size_lay w2 w.heap.size (smp y z)
             unfold lay at e
             rw [e]
             exact Nat.le_trans hsz hbe.size)
    · have hz0 : zs.take k = zs := List.take_of_length_le (by omega)
      rw [hz0] at hb1
      obtain ⟨⟨c0, c1, c2, c3⟩, f0, f1, f2, f3⟩ := hb1
      obtain ⟨⟨d0, d1, d2, d3⟩, g0, g1, g2, g3⟩ := hb2
      have HB := Lib.hid hbel
      clear hbel
      go_wp2
      refine bodyPost_ret (v := .agg #[.int .i64 (runs x zs).s, .int .i64 (runs x zs).v, .bool (runs x zs).k, .int .i64 (runs x zs).h]) ?_ rfl ⟨rfl, ?_⟩
      · simp [results, Try.results15, go_sem, d0, d1, d2, d3]
      · exact (((HB.out.setCell (by simp) _).setCell (by simp) _).setCell (by simp) _).setCell (by simp) _
end Go.Proofs.Ytjkbhmlpmapobaa
