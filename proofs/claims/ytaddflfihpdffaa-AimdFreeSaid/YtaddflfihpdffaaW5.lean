/-
  The walks of layer 10's functions: acts by the document's answer; acts made the program's.
-/
import Derived.Test.YtaddflfihpdffaaW4
namespace Go.Proofs.Ytaddflfihpdffaa
open Go.RowKit

set_option maxHeartbeats 1000000 in
theorem run_ref (x : S) (A : Option Addr) (len cap : Nat) (zs : List (Int × Int)) (w : World) (hr : IsRecs .u8 .i64 w A len cap zs) (hl : len ≤ 1000) :
    Calls Try.prog 14 #[.agg #[.int .i64 x.a, .int .i64 x.t, .int .i64 x.p], .slice A len cap] w fun e w' =>
      e = .returned (.agg #[.int .i64 (runs x zs).a, .int .i64 (runs x zs).t, .int .i64 (runs x zs).p]) ∧ Below w.heap.size w w' := by
  have hlen := hr.1
  have h0 : Rel w x ((w.alloc (.cells (cells x).toArray 23)).alloc (.cells (cells ⟨0, 0, 0⟩).toArray 23)) :=
    ⟨(Cs.new w (cells x) 23).alloc (by simp) _, by simpa using Cs.new (w.alloc (.cells (cells x).toArray 23)) (cells ⟨0, 0, 0⟩) 23, ((Below.refl _ w).alloc (Nat.le_refl _) _).alloc (by simp) _, by simp⟩
  have H0 := Lib.hid h0
  have HR := Lib.hid hr
  clear h0 hr
  go_enter Try.func14, Try.ntmps14
  go_wp2_with fail
  go_loopw [5] (fun i wr => ∃ k : Nat, k ≤ len ∧ i = .int .i64 (k : Int) ∧ Rel w (runs x (zs.take k)) wr) (fun i _ => len - (intOf i).toNat)
  case atStart => exact ⟨0, by omega, rfl, H0.out⟩
  case round =>
    clear H0
    obtain ⟨k, hk, rfl, hrel⟩ := hrel
    have HL := Lib.hid hrel
    clear hrel
    by_cases hlt : k < len
    · have hsz := HL.out.2.2.2
      obtain ⟨b, o, rfl, hbl, ⟨hck0, hck1⟩, hw0, hw1⟩ := (HR.out.below (Nat.le_refl _) HL.out.2.2.1).at_ hlt
      have hsn := runs_snoc x (zs.take k) (zs.getD k (0, 0))
      rw [← take_snoc2 zs k (by omega)] at hsn
      have HS := Lib.hid hsn
      obtain ⟨z0, z1⟩ := wf_u8 hw0
      clear hsn hw0 hw1
      generalize zs.getD k (0, 0) = z at *
      generalize runs x (zs.take k) = y at *
      obtain ⟨kd, n⟩ := z
      simp only [] at hck0 hck1 z0 z1
      obtain ⟨⟨c0, c1, c2⟩, f0, f1, f2⟩ := HL.out.1.o3
      have hlt1 : w.heap.size < wr.heap.size := by omega
      have hne : b ≠ wr.heap.size := by omega
      by_cases hz : kd % 3 = 0
      · have e0 : (kd % 3 == 0) = true := by simpa using hz
        have HK0 := Lib.hid hck0
        go_wp2_with fail
        go_region_with ((go_at_call 16; refine (rel_of (w0 := wr) (acked_ref y n _) ?_).mono ?_; (repeat (first | exact Below.refl _ _ | refine Below.drew ?_ | refine Below.alloc ?_ (by first | (simp; done) | (simp; omega)) _)); rintro e w2 ⟨rfl, hb⟩; have HB := Lib.hid hb; obtain ⟨⟨d0, d1, d2⟩, g0, g1, g2⟩ := (HL.out.call hb).1.o3; clear hb))
        all_goals go_wp2
        all_goals go_roundw
        all_goals first
          | (simp [intOf]; omega)
          | (refine ⟨k + 1, by omega, by go_num, ?_⟩
             rw [HS.out, show run1 y (kd, n) = ack y n from if_pos hz]
             exact HL.out.step HB.out)
      · have e0 : (kd % 3 == 0) = false := by simpa using hz
        by_cases hz1 : kd % 3 = 1
        · have e1 : (kd % 3 == 1) = true := by simpa using hz1
          go_wp2_with fail
          refine (rel_of (w0 := wr) (lost_ref y _) ?_).mono ?_
          · (repeat (first | exact Below.refl _ _ | refine Below.drew ?_ | refine Below.setCell ?_ (by first | (simp; done) | (simp; omega)) _ | refine Below.alloc ?_ (by first | (simp; done) | (simp; omega)) _))
          rintro e w2 ⟨rfl, hb⟩
          have HB := Lib.hid hb
          clear hb c0 c1 c2 f0 f1 f2
          obtain ⟨⟨c0, c1, c2⟩, f0, f1, f2⟩ := (HL.out.call HB.out).1.o3
          go_wp2
          go_roundw
          case rel =>
            refine ⟨k + 1, by omega, by go_num, ?_⟩
            rw [HS.out, show run1 y (kd, n) = lost y from (if_neg hz).trans (if_pos hz1)]
            exact HL.out.step HB.out
          case measure => simp [intOf]; omega

        · have e1 : (kd % 3 == 1) = false := by simpa using hz1
          go_wp2_with fail
          refine (rel_of (w0 := wr) (expd_ref y _) ?_).mono ?_
          · (repeat (first | exact Below.refl _ _ | refine Below.drew ?_ | refine Below.setCell ?_ (by first | (simp; done) | (simp; omega)) _ | refine Below.alloc ?_ (by first | (simp; done) | (simp; omega)) _))
          rintro e w2 ⟨rfl, hb⟩
          have HB := Lib.hid hb
          clear hb c0 c1 c2 f0 f1 f2
          obtain ⟨⟨c0, c1, c2⟩, f0, f1, f2⟩ := (HL.out.call HB.out).1.o3
          go_wp2
          go_roundw
          case rel =>
            refine ⟨k + 1, by omega, by go_num, ?_⟩
            rw [HS.out, show run1 y (kd, n) = expd y from (if_neg hz).trans (if_neg hz1)]
            exact HL.out.step HB.out
          case measure => simp [intOf]; omega

    · have hz0 : zs.take k = zs := List.take_of_length_le (by omega)
      rw [hz0] at HL
      obtain ⟨⟨c0, c1, c2⟩, f0, f1, f2⟩ := HL.out.1.o3
      obtain ⟨⟨d0, d1, d2⟩, g0, g1, g2⟩ := HL.out.2.1.o3
      go_wp2
      refine bodyPost_ret (v := .agg #[.int .i64 (runs x zs).a, .int .i64 (runs x zs).t, .int .i64 (runs x zs).p]) ?_ rfl ⟨rfl, ?_⟩
      · simp [results, Try.results14, go_sem, d0, d1, d2]
      · exact below_layC (by omega) (cells (runs x zs)) 0 HL.out.2.2.1

theorem info46 : (Try.prog.info? 46).map (fun i => (i.zero, i.size, i.bytes)) = some (some (.agg #[.int .u8 0, .int .i64 0]), 2, 16) := by kernel_rfl
def SomeRecs (zs : List (Int × Int)) (len : Nat) (w : World) (e : Ending) (w' : World) : Prop := ∃ A c, e = .returned (.slice A len c) ∧ IsRecs .u8 .i64 w' A len c zs ∧ Below w.heap.size w w'

set_option maxHeartbeats 1000000 in
theorem own_own (A : Option Addr) (len cap : Nat) (zs : List (Int × Int)) (w : World) (hr : IsRecs .u8 .i64 w A len cap zs) (hl : len ≤ 1000) :
    Calls Try.prog 13 #[.slice A len cap] w (SomeRecs zs len w) := by
  have hlen := hr.1
  obtain ⟨i0, hi, hz0, hz1, hz2⟩ := info_parts info46
  have HR := Lib.hid hr
  have HI := Lib.hid hi
  have HZ0 := Lib.hid hz0
  have HZ1 := Lib.hid hz1
  have HZ2 := Lib.hid hz2
  clear hr hi hz0 hz1 hz2
  go_enter Try.func13, Try.ntmps13
  go_wp2_with fail
  go_loopw [3, 4] (fun v i wr => ∃ k : Nat, k ≤ len ∧ i = .int .i64 (k : Int) ∧ wr.ownsRow w.heap.size 46 2 v (zs.take k).length (flat2 .u8 .i64 (zs.take k)) ∧ Below w.heap.size w wr) (fun _ i _ => len - (intOf i).toNat)
  case atStart => exact ⟨0, Nat.zero_le _, rfl, by simpa [flat2] using World.ownsRow_nil w w.heap.size 46 2, Below.refl _ _⟩
  case round =>
    obtain ⟨k, hk, rfl, hown, hbel⟩ := hrel
    have HW := Lib.hid hown
    have HB := Lib.hid hbel
    clear hown hbel
    by_cases hlt : k < len
    · have hsize : w.heap.size ≤ wr.heap.size := HB.out.size
      have htk : (zs.take k).length = k := by rw [List.length_take]; omega
      have hsn := take_snoc2 zs k (by omega)
      have HS := Lib.hid hsn
      clear hsn
      obtain ⟨b, o, rfl, hbl, ⟨hck0, hck1⟩, hw0, hw1⟩ := (HR.out.below (Nat.le_refl _) HB.out).at_ hlt
      clear hw0 hw1
      generalize zs.getD k (0, 0) = z at *
      generalize zs.take k = zk at *
      obtain ⟨kd, n⟩ := z
      simp only [] at hck0 hck1
      have hrow := rw_new 2 1 wr [.int .u8 kd, .int .i64 n] 46 rfl (by simp [maxLen])
      have HO := Lib.hid hrow
      clear hrow
      go_wp2_with (at_builtin; refine wpList_append_rw rfl (.tmp 11) (.tmp 16) 35 rfl w.heap.size 46 i0 (.agg #[.int .u8 0, .int .i64 0]) 2 16 Try.underlying35 HI.out HZ0.out HZ1.out HZ2.out rfl (by decide) _ _ _ rfl (HW.out.alloc _) _ _ _ _ rfl HO.out (flat2_one .u8 .i64 [(kd, n)]) (by unfold maxLen; omega) (by omega) (by simp; omega) ?_; intro v2 w2 hown2 hgrow2; have HO2 := Lib.hid hown2; have HG2 := Lib.hid hgrow2; clear hown2 hgrow2)
      have hb2 : Below w.heap.size w w2 := Below.grown (HB.out.alloc hsize _) HG2.out (by simp; omega) (fun q hq => (HW.out.lt q hq).1)
      have ho2 : w2.ownsRow w.heap.size 46 2 v2 (zs.take (k + 1)).length (flat2 .u8 .i64 (zs.take (k + 1))) := by
        rw [HS.out, flat2_append, List.length_append]
        exact HO2.out
      have B2 := Lib.hid hb2
      have O2 := Lib.hid ho2
      clear hb2 ho2
      go_wp2
      go_roundw
      case rel => exact ⟨k + 1, by omega, by go_num, O2.out, B2.out⟩
      case measure => simp [intOf]; omega
    · have htk : zs.take k = zs := List.take_of_length_le (by omega)
      rw [htk] at HW
      clear htk
      have hown := HW.out
      rw [hlen] at hown
      obtain ⟨A3, c3, rfl, hrow⟩ := rw_own hown
      have R3 := Lib.hid (recs_rw hrow HR.out.2.2.2.1)
      clear hown hrow HW
      go_wp2
      go_ret
      exact ⟨A3, c3, rfl, R3.out, HB.out⟩
end Go.Proofs.Ytaddflfihpdffaa
