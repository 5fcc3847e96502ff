/-
  The walks of layer 3's functions: a byte's eight steps.
-/
import Derived.Test.YthlkddaldeklcaaKit
import Derived.WalkMore
import Derived.ScopeJumps
import Derived.Laws.BitsAllLaws
namespace Go.Proofs.Ythlkddaldeklcaa
open Go.RowKit

/-- Two registers, bit by bit. -/
def XR (a b : Int) : Int := ((a.toNat ^^^ b.toNat : Nat) : Int)
/-- A register. -/
def U (x : Int) : Prop := 0 ≤ x ∧ x < 4294967296
theorem xr_u {a b : Int} (ha : U a) (hb : U b) : U (XR a b) := by
  obtain ⟨h1, h2⟩ := ha
  obtain ⟨h3, h4⟩ := hb
  have : a.toNat ^^^ b.toNat < 2 ^ 32 := Nat.xor_lt_two_pow (by omega) (by omega)
  exact ⟨by unfold XR; omega, by unfold XR; omega⟩
theorem bits_xr {a b : Int} (ha : U a) (hb : U b) : bits .xor .u32 a b = XR a b := u32_xor a b ha.1 ha.2 hb.1 hb.2
/-- A bit goes out. -/
def one (x : Int) : Int := if x % 2 = 1 then XR (x / 2) 3988292384 else x / 2
def ones : Nat → Int → Int
  | 0, x => x
  | k + 1, x => one (ones k x)
theorem one_u {x : Int} (hx : U x) : U (one x) := by
  unfold one
  obtain ⟨h1, h2⟩ := hx
  split
  · exact xr_u ⟨by omega, by omega⟩ ⟨by omega, by omega⟩
  · exact ⟨by omega, by omega⟩
theorem ones_u {x : Int} (hx : U x) (k : Nat) : U (ones k x) := by
  induction k with
  | zero => exact hx
  | succ k ih => exact one_u ih
theorem one_odd {x : Int} (hx : U x) (h : (x % 2 == 1) = true) : bits .xor .u32 (x / 2) 3988292384 = one x := by
  have h' : x % 2 = 1 := by simpa using h
  unfold one
  obtain ⟨h1, h2⟩ := hx
  rw [if_pos h', bits_xr ⟨by omega, by omega⟩ ⟨by omega, by omega⟩]
theorem one_even {x : Int} (h : (x % 2 == 1) = false) : x / 2 = one x := by
  have h' : ¬ x % 2 = 1 := by simpa using h
  unfold one
  rw [if_neg h']

theorem turned_ref (r : Int) (hr : U r) (w : World) : Calls Try.prog 18 #[.int .u32 r] w fun e w' => e = .returned (.int .u32 (XR r 4294967295)) ∧ w = w' := by
  go_enter Try.func18, Try.ntmps18
  go_wp2
  go_ret
  exact ⟨ret_int (bits_xr hr ⟨by omega, by omega⟩), rfl⟩

theorem step_ref (r : Int) (hr : U r) (w : World) : Calls Try.prog 19 #[.int .u32 r] w fun e w' => e = .returned (.int .u32 (ones 8 r)) ∧ w = w' := by
  go_enter Try.func19, Try.ntmps19
  go_wp2
  go_loop [0, 3] (fun x i => ∃ k : Nat, k ≤ 8 ∧ i = .int .i64 (k : Int) ∧ x = .int .u32 (ones k r)) (fun _ i => 8 - (intOf i).toNat)
  case atStart => exact ⟨0, by omega, rfl, rfl⟩
  case round =>
    obtain ⟨k, hk, rfl, rfl⟩ := hrel
    have hu := ones_u hr k
    obtain ⟨x, hx⟩ : ∃ x, x = ones k r := ⟨_, rfl⟩
    have hs : ones (k + 1) r = one x := by rw [hx]; rfl
    have HS := Lib.hid hs
    clear hs
    rw [← hx] at hu ⊢
    have HX := Lib.hid hx
    clear hx
    obtain ⟨h1, h2⟩ := hu
    by_cases hlt : k < 8
    · go_wp2
      all_goals go_round
      all_goals first
        | (simp [intOf]; omega)
        | (refine ⟨k + 1, by omega, by go_num, ?_⟩
           rw [HS.out]
           congr 1
           first | exact one_odd ⟨h1, h2⟩ (by assumption) | exact one_even (by assumption))
    · go_wp2
      go_ret
      exact ⟨ret_int (by rw [HX.out, show k = 8 from by omega]), rfl⟩

theorem one_even' {x : Int} (h : ¬ x % 2 = 1) : x / 2 = one x := by
  unfold one
  rw [if_neg h]

theorem and_one {x : Int} (hx : U x) : bits .and .u32 x 1 = x % 2 := by
  obtain ⟨h1, h2⟩ := hx
  rw [u32_and x 1 h1 h2 (by omega) (by omega)]
  obtain ⟨n, rfl⟩ := Int.eq_ofNat_of_zero_le h1
  simp only [Int.toNat_natCast]
  show ((n &&& 1 : Nat) : Int) = _
  rw [Nat.and_one_is_mod]; omega

theorem stepped_own (r : Int) (hr : U r) (w : World) : Calls Try.prog 17 #[.int .u32 r] w fun e w' => e = .returned (.int .u32 (ones 8 r)) ∧ w = w' := by
  go_enter Try.func17, Try.ntmps17
  go_wp2
  refine wp_scope_jumps 0 (fun a' w' => w = w' ∧ ∃ (k : Nat) (u4 u5 u6 u7 u8 u9 u10 u11 u12 u13 u14 u15 u16 u17 : Value), 1 ≤ k ∧ k ≤ 7 ∧ a' = { tmps := #[.int .u32 (ones k r), undef, .int .u32 0, .int .i64 (8 - (k : Int)), u4, u5, u6, u7, u8, u9, u10, u11, u12, u13, u14, u15, u16, u17], defers := [] }) (fun a' _ => (intOf (a'.tmps.getD 3 undef)).toNat) rfl ?_ ?_
  · have hm := and_one hr
    obtain ⟨h1, h2⟩ := hr
    go_wp2
    go_step3
    go_wp2
    all_goals go_step3
    all_goals first | rw [one_odd ⟨h1, h2⟩ (by assumption)] | rw [one_even (by assumption)]
    all_goals exact ⟨rfl, rfl, 1, _, _, _, _, _, _, _, _, _, _, _, _, _, _, by omega, by omega, rfl⟩
  · rintro a' w' ⟨rfl, k, u4, u5, u6, u7, u8, u9, u10, u11, u12, u13, u14, u15, u16, u17, hk1, hk7, rfl⟩
    have hu := ones_u hr k
    obtain ⟨x, hx⟩ : ∃ x, x = ones k r := ⟨_, rfl⟩
    have hs : ones (k + 1) r = one x := by rw [hx]; rfl
    have HS := Lib.hid hs
    clear hs
    rw [← hx] at hu ⊢
    have HX := Lib.hid hx
    clear hx
    have hm := and_one hu
    obtain ⟨h1, h2⟩ := hu
    by_cases hlt : k < 7
    · have hlt' : (0 : Int) < 8 - (k : Int) - 1 := by omega
      go_wp2
      all_goals go_step3
      all_goals first | rw [one_odd ⟨h1, h2⟩ (by assumption)] | rw [one_even (by assumption)]
      all_goals rw [show (8 - (k : Int) - 1) = 8 - ((k + 1 : Nat) : Int) from by omega, ← HS.out]
      all_goals refine ⟨rfl, ⟨rfl, k + 1, _, _, _, _, _, _, _, _, _, _, _, _, _, _, by omega, by omega, rfl⟩, ?_⟩
      all_goals (simp [intOf]; omega)
    · obtain rfl : k = 7 := by omega
      go_wp2
      all_goals simp only [Exit.jump]
      all_goals go_ret
      all_goals refine ⟨ret_int ?_, rfl⟩
      all_goals rw [HS.out]
      all_goals first | exact one_odd ⟨h1, h2⟩ (by assumption) | exact one_even (by assumption)
end Go.Proofs.Ythlkddaldeklcaa
