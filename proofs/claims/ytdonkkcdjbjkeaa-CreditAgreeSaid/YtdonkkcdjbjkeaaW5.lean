/-
  The walks of layer 21's functions: a new ledger, numbers that are the same, acts made the program's.
-/
import Derived.Test.YtdonkkcdjbjkeaaW4
import Derived.Deep.QuietTactic
import Derived.BigQuiet
namespace Go.Proofs.Ytdonkkcdjbjkeaa
open Go.RowKit

/-- A new ledger. -/
def newG (n : Int) : G × Int := if 1 ≤ n ∧ n ≤ 1048576 then (⟨n, n, 0, 0⟩, 0) else (⟨0, 0, 0, 0⟩, 8)
theorem chk_new (n : Int) : chk ⟨n, n, 0, 0⟩ = if 1 ≤ n ∧ n ≤ 1048576 then 0 else 8 := by
  unfold chk
  simp only []
  by_cases h : 1 ≤ n ∧ n ≤ 1048576
  · rw [if_neg (by omega), if_pos h]
  · rw [if_pos (by omega), if_neg h]

theorem new_own (n : Int) (w : World) : Calls Try.prog 7 #[.int .i64 n] w fun e w' => e = .returned (.tuple #[.agg #[.int .i64 (newG n).1.w, .int .i64 (newG n).1.l, .int .i64 (newG n).1.u, .int .i64 (newG n).1.r], .int .i64 (newG n).2]) ∧ Below w.heap.size w w' := by
  have hq := chk_new n
  by_cases h : 1 ≤ n ∧ n ≤ 1048576
  · rw [show newG n = (⟨n, n, 0, 0⟩, 0) from if_pos h]
    rw [if_pos h] at hq
    have HQ := Lib.hid hq
    clear hq
    go_enter Try.func7, Try.ntmps7
    go_wp2_with (go_at_call 15; refine (check_own _ _ _ _ _).mono ?_; rw [HQ.out]; rintro e w1 ⟨rfl, rfl⟩)
    refine bodyPost_ret ?_ rfl ⟨rfl, by repeat (first | exact Below.refl _ _ | refine Below.setCell ?_ (by first | (simp; done) | (simp; omega)) _ | refine Below.alloc ?_ (by first | (simp; done) | (simp; omega)) _)⟩
    simp [results, Try.results7, go_sem]
  · rw [show newG n = (⟨0, 0, 0, 0⟩, 8) from if_neg h]
    rw [if_neg h] at hq
    have HQ := Lib.hid hq
    clear hq
    go_enter Try.func7, Try.ntmps7
    go_wp2_with (go_at_call 15; refine (check_own _ _ _ _ _).mono ?_; rw [HQ.out]; rintro e w1 ⟨rfl, rfl⟩)
    refine bodyPost_ret ?_ rfl ⟨rfl, by repeat (first | exact Below.refl _ _ | refine Below.setCell ?_ (by first | (simp; done) | (simp; omega)) _ | refine Below.alloc ?_ (by first | (simp; done) | (simp; omega)) _)⟩
    simp [results, Try.results7, go_sem]
theorem new_ref (n : Int) (w : World) : Calls Try.prog 8 #[.int .i64 n] w fun e w' => e = .returned (.tuple #[.agg #[.int .i64 (newG n).1.w, .int .i64 (newG n).1.l, .int .i64 (newG n).1.u, .int .i64 (newG n).1.r], .int .i64 (newG n).2]) ∧ Below w.heap.size w w' := by
  have hq := chk_new n
  by_cases h : 1 ≤ n ∧ n ≤ 1048576
  · rw [show newG n = (⟨n, n, 0, 0⟩, 0) from if_pos h]
    rw [if_pos h] at hq
    have HQ := Lib.hid hq
    clear hq
    go_enter Try.func8, Try.ntmps8
    go_wp2_with (go_at_call 16; refine (check_ref _ _ _ _ _).mono ?_; rw [HQ.out]; rintro e w1 ⟨rfl, rfl⟩)
    refine bodyPost_ret ?_ rfl ⟨rfl, by repeat (first | exact Below.refl _ _ | refine Below.setCell ?_ (by first | (simp; done) | (simp; omega)) _ | refine Below.alloc ?_ (by first | (simp; done) | (simp; omega)) _)⟩
    simp [results, Try.results8, go_sem]
  · rw [show newG n = (⟨0, 0, 0, 0⟩, 8) from if_neg h]
    rw [if_neg h] at hq
    have HQ := Lib.hid hq
    clear hq
    go_enter Try.func8, Try.ntmps8
    go_wp2_with (go_at_call 16; refine (check_ref _ _ _ _ _).mono ?_; rw [HQ.out]; rintro e w1 ⟨rfl, rfl⟩)
    refine bodyPost_ret ?_ rfl ⟨rfl, by repeat (first | exact Below.refl _ _ | refine Below.setCell ?_ (by first | (simp; done) | (simp; omega)) _ | refine Below.alloc ?_ (by first | (simp; done) | (simp; omega)) _)⟩
    simp [results, Try.results8, go_sem]

/-- Numbers that are the same are told so. -/
theorem same_true (A B : Option Addr) (len c d : Nat) (zs : List Int) (w : World) (ha : IsRow .i64 w A len c zs) (hb : IsRow .i64 w B len d zs) :
    Calls Try.prog 12 #[.slice A len c, .slice B len d] w fun e w' => e = .returned (.bool true) ∧ Below w.heap.size w w' := by
  have hm : len ≤ 9223372036854775807 := by have := ha.2.1; have := ha.2.2.1; unfold maxLen at this; omega
  have HA := Lib.hid ha
  have HB := Lib.hid hb
  clear ha hb
  go_enter Try.func12, Try.ntmps12
  go_wp2_with fail
  go_loopw [5] (fun i wr => ∃ k : Nat, k ≤ len ∧ i = .int .i64 (k : Int) ∧ Below w.heap.size w wr) (fun i _ => len - (intOf i).toNat)
  case atStart => exact ⟨0, Nat.zero_le _, rfl, Below.refl _ _⟩
  case round =>
    obtain ⟨k, hk, rfl, hbel⟩ := hrel
    have HL := Lib.hid hbel
    by_cases hlt : k < len
    · obtain ⟨b, o, rfl, hbw, hcb, -⟩ := (HA.out.below (Nat.le_refl _) hbel).at_ hlt
      obtain ⟨b2, o2, rfl, hbw2, hcb2, -⟩ := (HB.out.below (Nat.le_refl _) hbel).at_ hlt
      clear hbel
      generalize zs.getD k 0 = z at *
      have i1 : (0 : Int) ≤ (k : Int) := by omega
      have i2 : (k : Int) < (len : Int) := by omega
      go_wp2_with fail
      go_quiet (fail)
      go_wp2
      go_roundw
      case rel => exact ⟨k + 1, by omega, by go_num, by first | exact HL.out | exact HL.out.drew | exact ⟨HL.out.os, HL.out.tape, HL.out.output, HL.out.size, HL.out.block⟩⟩
      case measure => simp [intOf]; omega
    · clear hbel
      go_wp2
      go_ret
      exact ⟨rfl, HL.out⟩

theorem info64 : (Try.prog.info? 64).map (fun i => (i.zero, i.size, i.bytes)) = some (some (.agg #[.int .u8 0, .int .i64 0]), 2, 16) := by kernel_rfl
theorem info3 : (Try.prog.info? 3).map (fun i => (i.zero, i.size, i.bytes)) = some (some (.int .i64 0), 1, 8) := by kernel_rfl
theorem take_snoc2 (l : List (Int × Int)) (k : Nat) (h : k < l.length) : l.take (k + 1) = l.take k ++ [l.getD k (0, 0)] := by
  rw [List.take_succ_eq_append_getElem h]; simp [List.getD_eq_getElem?_getD, h]
def SomeRecs (zs : List (Int × Int)) (len : Nat) (w : World) (e : Ending) (w' : World) : Prop := ∃ A c, e = .returned (.slice A len c) ∧ IsRecs .u8 .i64 w' A len c zs ∧ Below w.heap.size w w'

set_option maxHeartbeats 1000000 in
theorem own_own (A : Option Addr) (len cap : Nat) (zs : List (Int × Int)) (w : World) (hr : IsRecs .u8 .i64 w A len cap zs) (hl : len ≤ 1000) :
    Calls Try.prog 10 #[.slice A len cap] w (SomeRecs zs len w) := by
  have hlen := hr.1
  obtain ⟨i0, hi, hz0, hz1, hz2⟩ := info_parts info64
  have HR := Lib.hid hr
  have HI := Lib.hid hi
  have HZ0 := Lib.hid hz0
  have HZ1 := Lib.hid hz1
  have HZ2 := Lib.hid hz2
  clear hr hi hz0 hz1 hz2
  go_enter Try.func10, Try.ntmps10
  go_wp2_with fail
  go_loopw [3, 4] (fun v i wr => ∃ k : Nat, k ≤ len ∧ i = .int .i64 (k : Int) ∧ wr.ownsRow w.heap.size 64 2 v (zs.take k).length (flat2 .u8 .i64 (zs.take k)) ∧ Below w.heap.size w wr) (fun _ i _ => len - (intOf i).toNat)
  case atStart => exact ⟨0, Nat.zero_le _, rfl, by simpa [flat2] using World.ownsRow_nil w w.heap.size 64 2, Below.refl _ _⟩
  case round =>
    obtain ⟨k, hk, rfl, hown, hbel⟩ := hrel
    have HW := Lib.hid hown
    have HB := Lib.hid hbel
    clear hown hbel
    by_cases hlt : k < len
    · have hsize : w.heap.size ≤ wr.heap.size := HB.out.size
      have htk : (zs.take k).length = k := by rw [List.length_take]; omega
      have hsn := take_snoc2 zs k (by omega)
      have HS := Lib.hid hsn
      clear hsn
      obtain ⟨b, o, rfl, hbl, ⟨hck0, hck1⟩, hw0, hw1⟩ := (HR.out.below (Nat.le_refl _) HB.out).at_ hlt
      clear hw0 hw1
      generalize zs.getD k (0, 0) = z at *
      generalize zs.take k = zk at *
      obtain ⟨kd, n⟩ := z
      simp only [] at hck0 hck1
      have hrow := rw_new 2 1 wr [.int .u8 kd, .int .i64 n] 64 rfl (by simp [maxLen])
      have HO := Lib.hid hrow
      clear hrow
      go_wp2_with (at_builtin; refine wpList_append_rw rfl (.tmp 11) (.tmp 16) 35 rfl w.heap.size 64 i0 (.agg #[.int .u8 0, .int .i64 0]) 2 16 Try.underlying35 HI.out HZ0.out HZ1.out HZ2.out rfl (by decide) _ _ _ rfl (HW.out.alloc _) _ _ _ _ rfl HO.out (flat2_one .u8 .i64 [(kd, n)]) (by unfold maxLen; omega) (by omega) (by simp; omega) ?_; intro v2 w2 hown2 hgrow2; have HO2 := Lib.hid hown2; have HG2 := Lib.hid hgrow2; clear hown2 hgrow2)
      have hb2 : Below w.heap.size w w2 := Below.grown (HB.out.alloc hsize _) HG2.out (by simp; omega) (fun q hq => (HW.out.lt q hq).1)
      have ho2 : w2.ownsRow w.heap.size 64 2 v2 (zs.take (k + 1)).length (flat2 .u8 .i64 (zs.take (k + 1))) := by
        rw [HS.out, flat2_append, List.length_append]
        exact HO2.out
      have B2 := Lib.hid hb2
      have O2 := Lib.hid ho2
      clear hb2 ho2
      go_wp2
      go_roundw
      case rel => exact ⟨k + 1, by omega, by go_num, O2.out, B2.out⟩
      case measure => simp [intOf]; omega
    · have htk : zs.take k = zs := List.take_of_length_le (by omega)
      rw [htk] at HW
      clear htk
      have hown := HW.out
      rw [hlen] at hown
      obtain ⟨A3, c3, rfl, hrow⟩ := rw_own hown
      have R3 := Lib.hid (recs_rw hrow HR.out.2.2.2.1)
      clear hown hrow HW
      go_wp2
      go_ret
      exact ⟨A3, c3, rfl, R3.out, HB.out⟩
end Go.Proofs.Ytdonkkcdjbjkeaa
