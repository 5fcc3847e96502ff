/-
  The walks of layer 3's functions: sums of texts.
-/
import Derived.Test.YthlkddaldeklcaaW1
namespace Go.Proofs.Ythlkddaldeklcaa
open Go.RowKit

/-- A register behind bytes. -/
def regs (l : List UInt8) (r : Int) : Int := l.foldl (fun r c => ones 8 (XR r (c.toNat : Int))) r
def more (n : Int) (l : List UInt8) : Int := XR (regs l (XR n 4294967295)) 4294967295

theorem byte_u (c : UInt8) : U (c.toNat : Int) := by have := UInt8.toNat_lt c; exact ⟨by omega, by omega⟩
theorem regs_u (l : List UInt8) {r : Int} (hr : U r) : U (regs l r) := by
  induction l generalizing r with
  | nil => exact hr
  | cons c l ih => exact ih (ones_u (xr_u hr (byte_u c)) 8)
theorem all_u : U 4294967295 := ⟨by omega, by omega⟩
theorem regs_snoc (l : List UInt8) (c : UInt8) (r : Int) : regs (l ++ [c]) r = ones 8 (XR (regs l r) (c.toNat : Int)) := by
  simp [regs]
theorem take_snoc (s : ByteArray) (k : Nat) (h : k < s.size) : s.data.toList.take (k + 1) = s.data.toList.take k ++ [s[k]] := by
  rw [List.take_succ_eq_append_getElem (by simpa using h)]; rfl

theorem not_xr {n : Int} (hn : U n) : bits .xor .u32 IntKind.u32.max n = XR n 4294967295 := by
  rw [show IntKind.u32.max = 4294967295 from rfl, bits_xr all_u hn]
  unfold XR; rw [Nat.xor_comm]

theorem more_own (n : Int) (hn : U n) (s : ByteArray) (hs : s.size ≤ maxLen) (w : World) : Calls Try.prog 11 #[.int .u32 n, .string s] w fun e w' => e = .returned (.int .u32 (more n s.data.toList)) ∧ w = w' := by
  unfold maxLen at hs
  have hnot := not_xr hn
  go_enter Try.func11, Try.ntmps11
  go_wp2_with fail
  clear hnot
  go_loop [5, 11] (fun r i => ∃ k : Nat, k ≤ s.size ∧ i = .int .i64 (k : Int) ∧ r = .int .u32 (regs (s.data.toList.take k) (XR n 4294967295))) (fun _ i => s.size - (intOf i).toNat)
  case atStart => exact ⟨0, Nat.zero_le _, rfl, rfl⟩
  case round =>
    obtain ⟨k, hk, rfl, rfl⟩ := hrel
    have hu := regs_u (s.data.toList.take k) (xr_u hn all_u)
    by_cases hlt : k < s.size
    · have hs1 := regs_snoc (s.data.toList.take k) s[k] (XR n 4294967295)
      rw [← take_snoc s k hlt] at hs1
      have HS := Lib.hid hs1
      clear hs1
      generalize regs (s.data.toList.take k) (XR n 4294967295) = r at *
      have hb := bits_xr hu (byte_u s[k])
      have hbd : (s[k].toNat : Int) < 256 := by have := UInt8.toNat_lt s[k]; omega
      go_wp2_with (go_at_call 17; refine (stepped_own _ (xr_u hu (byte_u _)) _).mono ?_; rintro e w' ⟨rfl, rfl⟩)
      go_round
      case rel => exact ⟨k + 1, by omega, by go_num, by rw [HS.out]⟩
      case measure => simp [intOf]; omega
    · rw [List.take_of_length_le (by simp; omega)] at hu ⊢
      have hb := not_xr hu
      go_wp2
      go_ret
      exact ⟨rfl, rfl⟩

theorem more_ref (n : Int) (hn : U n) (s : ByteArray) (hs : s.size ≤ maxLen) (w : World) : Calls Try.prog 12 #[.int .u32 n, .string s] w fun e w' => e = .returned (.int .u32 (more n s.data.toList)) ∧ w = w' := by
  unfold maxLen at hs
  go_enter Try.func12, Try.ntmps12
  go_wp2_with (go_at_call 18; refine (turned_ref _ hn _).mono ?_; rintro e w' ⟨rfl, rfl⟩)
  go_loop [5, 6] (fun r i => ∃ k : Nat, k ≤ s.size ∧ i = .int .i64 (k : Int) ∧ r = .int .u32 (regs (s.data.toList.take k) (XR n 4294967295))) (fun _ i => s.size - (intOf i).toNat)
  case atStart => exact ⟨0, Nat.zero_le _, rfl, rfl⟩
  case round =>
    obtain ⟨k, hk, rfl, rfl⟩ := hrel
    have hu := regs_u (s.data.toList.take k) (xr_u hn all_u)
    by_cases hlt : k < s.size
    · have hs1 := regs_snoc (s.data.toList.take k) s[k] (XR n 4294967295)
      rw [← take_snoc s k hlt] at hs1
      have HS := Lib.hid hs1
      clear hs1
      generalize regs (s.data.toList.take k) (XR n 4294967295) = r at *
      have hb := bits_xr hu (byte_u s[k])
      have hbd : (s[k].toNat : Int) < 256 := by have := UInt8.toNat_lt s[k]; omega
      go_wp2_with (go_at_call 19; refine (step_ref _ (xr_u hu (byte_u _)) _).mono ?_; rintro e w' ⟨rfl, rfl⟩)
      go_round
      case rel => exact ⟨k + 1, by omega, by go_num, by rw [HS.out]⟩
      case measure => simp [intOf]; omega
    · rw [List.take_of_length_le (by simp; omega)] at hu ⊢
      go_wp2_with (go_at_call 18; refine (turned_ref _ hu _).mono ?_; rintro e w' ⟨rfl, rfl⟩)
      go_ret
      exact ⟨rfl, rfl⟩

theorem zero_u : U 0 := ⟨by omega, by omega⟩
theorem sum_own (s : ByteArray) (hs : s.size ≤ maxLen) (w : World) : Calls Try.prog 9 #[.string s] w fun e w' => e = .returned (.int .u32 (more 0 s.data.toList)) ∧ w = w' := by
  go_enter Try.func9, Try.ntmps9
  go_wp2_with (go_at_call 11; refine (more_own _ zero_u _ hs _).mono ?_; rintro e w' ⟨rfl, rfl⟩)
  go_ret
  exact ⟨rfl, rfl⟩
theorem sum_ref (s : ByteArray) (hs : s.size ≤ maxLen) (w : World) : Calls Try.prog 10 #[.string s] w fun e w' => e = .returned (.int .u32 (more 0 s.data.toList)) ∧ w = w' := by
  go_enter Try.func10, Try.ntmps10
  go_wp2_with (go_at_call 12; refine (more_ref _ zero_u _ hs _).mono ?_; rintro e w' ⟨rfl, rfl⟩)
  go_ret
  exact ⟨rfl, rfl⟩

theorem more_u {n : Int} (hn : U n) (l : List UInt8) : U (more n l) := xr_u (regs_u l (xr_u hn all_u)) all_u

/-- A sum's bytes, the highest first. -/
def four (n : Int) : List UInt8 := [UInt8.ofNat (n / 16777216).toNat, UInt8.ofNat (n / 65536 % 256).toNat, UInt8.ofNat (n / 256 % 256).toNat, UInt8.ofNat (n % 256).toNat]

/-- The same, as a text. -/
def fourB (n : Int) : ByteArray := ⟨(four n).toArray⟩
/-- What is put behind a text. -/
def tl (s : ByteArray) : ByteArray := fourB (more 0 s.data.toList)
theorem tl_size (s : ByteArray) : (tl s).size = 4 := rfl
theorem tl_list (s : ByteArray) : (tl s).data.toList = four (more 0 s.data.toList) := by simp [tl, fourB]

theorem byte_of (x : Int) (h0 : 0 ≤ x) (h1 : x < 256) : ((UInt8.ofNat x.toNat).toNat : Int) = x := by
  rw [UInt8.toNat_ofNat']
  omega

theorem conv_four (n : Int) (hn : U n) (w : World) :
    (convert 36 9 (.slice (some ⟨w.heap.size, 0, none⟩) 4 4)).run Try.prog (w.alloc (.cells #[.int .u8 (n / 16777216), .int .u8 (n / 65536 % 256), .int .u8 (n / 256 % 256), .int .u8 (n % 256)] 5)) =
      .ok (.string (fourB n)) (w.alloc (.cells #[.int .u8 (n / 16777216), .int .u8 (n / 65536 % 256), .int .u8 (n / 256 % 256), .int .u8 (n % 256)] 5)) := by
  obtain ⟨h1, h2⟩ := hn
  refine run_convert_bytes_back (P := Try.prog) _ 36 9 5 ⟨w.heap.size, 0, none⟩ 4 (four n) Try.underlying36 Try.underlying5 Try.underlying9 ?_
  intro j hj
  match j, hj with
  | 0, _ => simp [Addr.add, World.cell?_alloc_new, four]; omega
  | 1, _ => simp [Addr.add, World.cell?_alloc_new, four]; omega
  | 2, _ => simp [Addr.add, World.cell?_alloc_new, four]; omega
  | 3, _ => simp [Addr.add, World.cell?_alloc_new, four]; omega

theorem four_ref (n : Int) (hn : U n) (w : World) : Calls Try.prog 21 #[.int .u32 n] w fun e w' => e = .returned (.string (fourB n)) ∧ Below w.heap.size w w' := by
  have hcv := conv_four n hn w
  obtain ⟨h1, h2⟩ := hn
  go_enter Try.func21, Try.ntmps21
  go_wp2
  go_ret
  exact ⟨rfl, (Below.refl _ _).alloc (Nat.le_refl _) _⟩

theorem tail_own (s : ByteArray) (hs : s.size ≤ maxLen) (w : World) : Calls Try.prog 20 #[.string s] w fun e w' => e = .returned (.string (tl s)) ∧ Below w.heap.size w w' := by
  have hu := more_u zero_u s.data.toList
  have ht : tl s = fourB (more 0 s.data.toList) := rfl
  have HT := Lib.hid ht
  clear ht
  generalize hg : more 0 s.data.toList = n at *
  have HG := Lib.hid hg
  clear hg
  have hcv := conv_four n hu w
  obtain ⟨h1, h2⟩ := hu
  go_enter Try.func20, Try.ntmps20
  go_wp2_with (go_at_call 9; refine (sum_own _ hs _).mono ?_; rw [HG.out]; rintro e w' ⟨rfl, rfl⟩)
  go_ret
  exact ⟨by rw [HT.out]; rfl, (Below.refl _ _).alloc (Nat.le_refl _) _⟩

theorem big {n : Nat} (h : n ≤ 1000000) : n ≤ maxLen := by unfold maxLen; omega

theorem seal_own (s : ByteArray) (hs : s.size ≤ 1000000) (w : World) : Calls Try.prog 13 #[.string s] w fun e w' => e = .returned (.string (s ++ tl s)) ∧ Below w.heap.size w w' := by
  have ht := tl_size s
  go_enter Try.func13, Try.ntmps13
  go_wp2_with fail
  refine (tail_own _ (big hs) _).mono ?_
  rintro e w1 ⟨rfl, hb1⟩
  go_wp2
  go_ret
  exact ⟨rfl, hb1⟩

theorem four_ref' (s : ByteArray) (w : World) : Calls Try.prog 21 #[.int .u32 (more 0 s.data.toList)] w fun e w' => e = .returned (.string (tl s)) ∧ Below w.heap.size w w' :=
  four_ref _ (more_u zero_u _) w

theorem seal_ref (s : ByteArray) (hs : s.size ≤ 1000000) (w : World) : Calls Try.prog 14 #[.string s] w fun e w' => e = .returned (.string (s ++ tl s)) ∧ Below w.heap.size w w' := by
  have ht := tl_size s
  go_enter Try.func14, Try.ntmps14
  go_wp2_with (go_at_call 10; refine (sum_ref _ (big hs) _).mono ?_; rintro e w' ⟨rfl, rfl⟩)
  refine (four_ref' _ _).mono ?_
  rintro e w1 ⟨rfl, hb1⟩
  go_wp2
  go_ret
  exact ⟨rfl, hb1⟩

end Go.Proofs.Ythlkddaldeklcaa
