/-
  The walk of CursorLays.
-/
import Derived.Test.YtomajnngifoiiaaW9
import Derived.Deep.RegionWith
namespace Go.Proofs.Ytomajnngifoiiaa
open Go.RowKit

set_option maxHeartbeats 2000000 in
theorem lays_walk (A : Option Addr) (len cap : Nat) (zs : List Int) (n k : Int) (w : World) (hr : IsRow .u8 w A len cap zs) (hn : (Lit.int .i64 n).wf = true) (_ : (Lit.int .i64 k).wf = true) :
    Calls Try.prog 4 #[.slice A len cap, .int .i64 n, .int .i64 k] w fun e w' => e = .returned (.bool true) ∧ Below w.heap.size w w' := by
  by_cases hl : 200 < len
  · have hl' : (200 : Int) < (len : Int) := by omega
    go_enter Try.func4, Try.ntmps4
    go_wp2_with fail
    refine (awake_true _).mono ?_
    rintro e w1 ⟨rfl, hb1⟩
    go_wp2
    go_ret
    exact ⟨rfl, hb1⟩
  have hl' : ¬ (200 : Int) < (len : Int) := by omega
  have hA : A = none → cap = 0 := fun e => by
    rcases hr.2.2.2.2 with h | ⟨b, o, h, _⟩
    · exact h
    · rw [e] at h; cases h
  have hrd := Rd.row hr hA
  have hzl := hr.1
  generalize hbs : (zs.map fun z => UInt8.ofNat z.toNat) = bs at *
  have hbl : bs.length = len := by rw [← hbs]; simpa using hzl
  clear hr hA hbs hzl
  have hs0 := run_string_rd (P := Try.prog) 46 9 5 Try.underlying46 Try.underlying5 Try.underlying9 hrd
  have HR := Lib.hid hrd
  clear hrd
  go_enter Try.func4, Try.ntmps4
  go_wp2_with fail
  refine (lay_own _ bs n k _ HR.out (by omega) hn).mono ?_
  rintro e w1 ⟨⟨v1, rfl, hr1⟩, kb1⟩
  have R1 := Lib.hid hr1
  have K1 := Lib.hid kb1
  clear hs0 hr1 kb1
  have kd : Below w1.heap.size w1 w1.drew := (Below.refl _ _).drew
  have KD := Lib.hid kd
  have e1 := run_string_rd (P := Try.prog) 46 9 5 Try.underlying46 Try.underlying5 Try.underlying9 (R1.out.below (Nat.le_refl _) KD.out)
  clear kd
  go_wp2_with fail
  go_region_with (first
    | (go_at_call 23; refine (lay_ref _ bs n k _ ((HR.out.below (Nat.le_refl _) K1.out).below (Nat.le_refl _) KD.out) (by omega) hn).mono ?_; rintro e w2 ⟨⟨v2, rfl, hr2⟩, kb2⟩; have e2 := run_string_rd (P := Try.prog) 46 9 5 Try.underlying46 Try.underlying5 Try.underlying9 hr2; have e3 := run_string_rd (P := Try.prog) 46 9 5 Try.underlying46 Try.underlying5 Try.underlying9 ((R1.out.below (Nat.le_refl _) KD.out).below (Nat.le_refl _) kb2); have e4 := run_string_rd (P := Try.prog) 46 9 5 Try.underlying46 Try.underlying5 Try.underlying9 (((HR.out.below (Nat.le_refl _) K1.out).below (Nat.le_refl _) KD.out).below (Nat.le_refl _) kb2))
    | (go_at_call 24; refine (fits_own n k _ hn).mono ?_; rintro e w3 ⟨rfl, rfl⟩)
    | (go_at_call 25; refine (fits_ref n k _ hn).mono ?_; rintro e w3 ⟨rfl, rfl⟩)
    | (go_at_call 7; refine (awake_true _).mono ?_; rintro e w4 ⟨rfl, kb4⟩))
  all_goals go_wp2
  all_goals go_ret
  all_goals exact ⟨rfl, bt (bt (bt K1.out KD.out) kb2) kb4⟩
end Go.Proofs.Ytomajnngifoiiaa
