/-
  The walks of what every right program reckons, and of CrcSums, CrcUnseals and CrcBack.
-/
import Derived.Test.YthlkddaldeklcaaW3
namespace Go.Proofs.Ythlkddaldeklcaa
open Go.RowKit

theorem unseal_sealed (s : ByteArray) (hs : s.size ≤ 900000) (w : World) : Calls Try.prog 15 #[.string (s ++ tl s)] w fun e w' => e = .returned (.tuple #[.string s, .int .i64 0]) ∧ Below w.heap.size w w' := by
  have hz := size_seal s
  have hb := body_seal s (tl s) (tl_size s)
  have hr := rest_seal s (tl s) (tl_size s)
  have h := unseal_yes (s ++ tl s) (by omega) (by omega) (by rw [hb, hr]) w
  rw [hb] at h
  exact h

def nine : ByteArray := ⟨#[49, 50, 51, 52, 53, 54, 55, 56, 57]⟩

theorem awake_true (w : World) : Calls Try.prog 8 #[] w fun e w' => e = .returned (.bool true) ∧ Below w.heap.size w w' := by
  have m1 : more 0 [49, 50, 51, 52, 53, 54, 55, 56, 57] = 3421780262 := by decide +kernel
  have m2 : more 0 [] = 0 := by decide +kernel
  have m3 : more (more 0 [49, 50, 51, 52]) [53, 54, 55, 56, 57] = 3421780262 := by decide +kernel
  have hu := more_u zero_u [49, 50, 51, 52]
  have t1 : tl ⟨#[49, 50, 51, 52, 53, 54, 55, 56, 57]⟩ = ⟨#[203, 244, 57, 38]⟩ := by decide +kernel
  have n1 : ¬ (ByteArray.mk #[49, 50, 51, 52, 53]).extract ((ByteArray.mk #[49, 50, 51, 52, 53]).size - 4) (ByteArray.mk #[49, 50, 51, 52, 53]).size = tl (body ⟨#[49, 50, 51, 52, 53]⟩) := by decide +kernel
  have T1 := Lib.hid t1
  have M1 := Lib.hid m1
  clear t1 m1
  go_enter Try.func8, Try.ntmps8
  go_wp2_with fail
  refine (seal_own _ (by decide) _).mono ?_
  rintro e w1 ⟨rfl, hb1⟩
  go_wp2_with fail
  refine (unseal_sealed _ (by decide) _).mono ?_
  rintro e w2 ⟨rfl, hb2⟩
  go_wp2_with fail
  refine (unseal_short _ (by decide) _).mono ?_
  rintro e w3 ⟨rfl, rfl⟩
  go_wp2_with fail
  refine (unseal_no _ (by decide) (by decide) n1 _).mono ?_
  rintro e w3 ⟨rfl, hb3⟩
  have hb : Below w.heap.size w w3 := (hb1.trans (hb2.mono hb1.size)).trans (hb3.mono (hb1.trans (hb2.mono hb1.size)).size)
  clear hb1 hb2 hb3 n1
  have m1 := M1.out
  go_wp2_with (first
    | (go_at_call 9; refine (sum_own _ (by decide) _).mono ?_; rintro e w' ⟨rfl, rfl⟩)
    | (go_at_call 11; refine (more_own _ hu _ (by decide) _).mono ?_; rintro e w' ⟨rfl, rfl⟩))
  refine (seal_own _ (by decide) _).mono ?_
  rintro e w4 ⟨rfl, hb4⟩
  have t1 := T1.out
  go_wp2
  all_goals go_ret
  all_goals exact ⟨rfl, hb.trans (hb4.mono hb.size)⟩

/-- Two steps of a call: what was there below the first world's end is as it was. -/
theorem bt {w a b : World} (h : Below w.heap.size w a) (k : Below a.heap.size a b) : Below w.heap.size w b := h.trans (k.mono h.size)

theorem sums_walk (s : ByteArray) (n : Int) (w : World) (hs : s.size ≤ maxLen) (hn : (Lit.int .u32 n).wf = true) :
    Calls Try.prog 3 #[.string s, .int .u32 n] w fun e w' => e = .returned (.bool true) ∧ Below w.heap.size w w' := by
  have hu : U n := wf_u32 hn
  by_cases hl : 200 < s.size
  · have hl' : (200 : Int) < (s.size : Int) := by omega
    go_enter Try.func3, Try.ntmps3
    go_wp2_with (go_at_call 8; refine (awake_true _).mono ?_; rintro e w1 ⟨rfl, hb1⟩)
    go_ret
    exact ⟨rfl, hb1⟩
  · have hl' : ¬ (200 : Int) < (s.size : Int) := by omega
    go_enter Try.func3, Try.ntmps3
    go_wp2_with (first
      | (go_at_call 9; refine (sum_own _ hs _).mono ?_; rintro e w' ⟨rfl, rfl⟩)
      | (go_at_call 10; refine (sum_ref _ hs _).mono ?_; rintro e w' ⟨rfl, rfl⟩)
      | (go_at_call 11; refine (more_own _ hu _ hs _).mono ?_; rintro e w' ⟨rfl, rfl⟩)
      | (go_at_call 12; refine (more_ref _ hu _ hs _).mono ?_; rintro e w' ⟨rfl, rfl⟩))
    refine (seal_own _ (by omega) _).mono ?_
    rintro e w1 ⟨rfl, hb1⟩
    go_wp2_with fail
    refine (seal_ref _ (by omega) _).mono ?_
    rintro e w2 ⟨rfl, hb2⟩
    go_wp2_with fail
    refine (awake_true _).mono ?_
    rintro e w3 ⟨rfl, hb3⟩
    go_wp2
    go_ret
    exact ⟨rfl, bt (bt hb1 hb2) hb3⟩

theorem unseals_walk (s : ByteArray) (w : World) (_hs : s.size ≤ maxLen) :
    Calls Try.prog 4 #[.string s] w fun e w' => e = .returned (.bool true) ∧ Below w.heap.size w w' := by
  by_cases hl : 200 < s.size
  · have hl' : (200 : Int) < (s.size : Int) := by omega
    go_enter Try.func4, Try.ntmps4
    go_wp2_with (go_at_call 8; refine (awake_true _).mono ?_; rintro e w1 ⟨rfl, hb1⟩)
    go_ret
    exact ⟨rfl, hb1⟩
  have hl' : ¬ (200 : Int) < (s.size : Int) := by omega
  by_cases h4 : s.size < 4
  · go_enter Try.func4, Try.ntmps4
    go_wp2_with (first
      | (go_at_call 15; refine (unseal_short _ h4 _).mono ?_; rintro e w' ⟨rfl, rfl⟩)
      | (go_at_call 16; refine (unref_short _ h4 _).mono ?_; rintro e w' ⟨rfl, rfl⟩)
      | (go_at_call 8; refine (awake_true _).mono ?_; rintro e w1 ⟨rfl, hb1⟩))
    go_ret
    exact ⟨rfl, hb1⟩
  by_cases he : s.extract (s.size - 4) s.size = tl (body s)
  · have he' := (seal_iff s).2 he
    have HE := Lib.hid he
    have HE' := Lib.hid he'
    clear he he'
    go_enter Try.func4, Try.ntmps4
    go_wp2_with fail
    refine (unseal_yes _ (by omega) (by omega) HE.out _).mono ?_
    rintro e w1 ⟨rfl, hb1⟩
    go_wp2_with fail
    refine (unref_yes _ (by omega) (by omega) HE'.out _).mono ?_
    rintro e w2 ⟨rfl, hb2⟩
    go_wp2_with fail
    refine (awake_true _).mono ?_
    rintro e w3 ⟨rfl, hb3⟩
    go_wp2
    go_ret
    exact ⟨rfl, bt (bt hb1 hb2) hb3⟩
  · have he' : ¬ s = body s ++ tl (body s) := fun h => he ((seal_iff s).1 h)
    go_enter Try.func4, Try.ntmps4
    go_wp2_with fail
    refine (unseal_no _ (by omega) (by omega) he _).mono ?_
    rintro e w1 ⟨rfl, hb1⟩
    go_wp2_with fail
    refine (unref_no _ (by omega) (by omega) he' _).mono ?_
    rintro e w2 ⟨rfl, hb2⟩
    go_wp2_with fail
    refine (awake_true _).mono ?_
    rintro e w3 ⟨rfl, hb3⟩
    go_wp2
    go_ret
    exact ⟨rfl, bt (bt hb1 hb2) hb3⟩

/-! ### a sum goes on -/
theorem xr_xr {a : Int} (ha : U a) : XR (XR a 4294967295) 4294967295 = a := by
  obtain ⟨h1, h2⟩ := ha
  unfold XR
  simp only [Int.toNat_natCast]
  rw [Nat.xor_assoc]
  simp; omega
theorem regs_append (l m : List UInt8) (r : Int) : regs (l ++ m) r = regs m (regs l r) := by simp [regs]
theorem more_append (n : Int) (hn : U n) (l m : List UInt8) : more (more n l) m = more n (l ++ m) := by
  unfold more
  rw [regs_append, xr_xr (regs_u l (xr_u hn all_u))]
theorem more_cat (s t : ByteArray) : more (more 0 s.data.toList) t.data.toList = more 0 (s ++ t).data.toList := by
  rw [more_append 0 zero_u]; simp

theorem back_walk (s t : ByteArray) (w : World) (hs : s.size ≤ maxLen) (ht : t.size ≤ maxLen) :
    Calls Try.prog 5 #[.string s, .string t] w fun e w' => e = .returned (.bool true) ∧ Below w.heap.size w w' := by
  by_cases hl : 200 < s.size
  · have hl' : decide ((200 : Int) < (s.size : Int)) = true := by simp; omega
    go_enter Try.func5, Try.ntmps5
    go_wp2_with (go_at_call 8; refine (awake_true _).mono ?_; rintro e w1 ⟨rfl, hb1⟩)
    go_ret
    exact ⟨rfl, hb1⟩
  have hl' : decide ((200 : Int) < (s.size : Int)) = false := by simp; omega
  by_cases hm : 200 < t.size
  · have hm' : decide ((200 : Int) < (t.size : Int)) = true := by simp; omega
    go_enter Try.func5, Try.ntmps5
    go_wp2_with (go_at_call 8; refine (awake_true _).mono ?_; rintro e w1 ⟨rfl, hb1⟩)
    go_ret
    exact ⟨rfl, hb1⟩
  have hm' : decide ((200 : Int) < (t.size : Int)) = false := by simp; omega
  have hc := more_cat s t
  have HC := Lib.hid hc
  clear hc
  have hu := more_u zero_u s.data.toList
  have hz := size_seal s
  have HZ := Lib.hid hz
  clear hz
  go_enter Try.func5, Try.ntmps5
  go_wp2_with fail
  refine (seal_own _ (by omega) _).mono ?_
  rintro e w1 ⟨rfl, hb1⟩
  go_wp2_with fail
  refine (unseal_sealed _ (by omega) _).mono ?_
  rintro e w2 ⟨rfl, hb2⟩
  have hsum : (s ++ t).size = s.size + t.size := ByteArray.size_append
  go_wp2_with (first
    | (go_at_call_of 9 (Value.string s); refine (sum_own s hs _).mono ?_; rintro e w' ⟨rfl, rfl⟩)
    | (go_at_call 11; refine (more_own _ hu _ ht _).mono ?_; rintro e w' ⟨rfl, rfl⟩))
  refine (sum_own _ (by unfold maxLen; omega) _).mono ?_
  rintro e w3 ⟨rfl, rfl⟩
  rw [← HC.out]
  go_wp2_with fail
  refine (seal_own _ (by omega) _).mono ?_
  rintro e w3 ⟨rfl, hb3⟩
  have hz := HZ.out
  go_wp2_with fail
  refine (awake_true _).mono ?_
  rintro e w4 ⟨rfl, hb4⟩
  go_wp2
  go_ret
  exact ⟨rfl, bt (bt (bt hb1 hb2) hb3) hb4⟩

theorem ext_le {s : ByteArray} (hs : s.size ≤ maxLen) (a b : Nat) : (s.extract a b).size ≤ maxLen := by
  rw [ByteArray.size_extract]; omega
theorem more_parts (l : List UInt8) (n i j : Nat) (hn : l.length = n) (h : i + j ≤ n) :
    more (more (more 0 (List.take i l)) (List.take j (List.drop i l))) (List.take (n - (i + j)) (List.drop (i + j) l)) = more 0 l := by
  rw [more_append 0 zero_u, more_append 0 zero_u]
  congr 1
  rw [List.take_of_length_le (l := List.drop (i + j) l) (by rw [List.length_drop]; omega)]
  rw [← List.take_add, List.take_append_drop]

theorem parts_walk (s : ByteArray) (a b : Int) (w : World) (hs : s.size ≤ maxLen) (ha : (Lit.int .u8 a).wf = true) (hb : (Lit.int .u8 b).wf = true) :
    Calls Try.prog 7 #[.string s, .int .u8 a, .int .u8 b] w fun e w' => e = .returned (.bool true) ∧ Below w.heap.size w w' := by
  obtain ⟨a1, a2⟩ := wf_u8 ha
  obtain ⟨b1, b2⟩ := wf_u8 hb
  by_cases hl : 200 < s.size
  · have hl' : (200 : Int) < (s.size : Int) := by omega
    go_enter Try.func7, Try.ntmps7
    go_wp2_with (go_at_call 8; refine (awake_true _).mono ?_; rintro e w1 ⟨rfl, hb1⟩)
    go_ret
    exact ⟨rfl, hb1⟩
  have hl' : ¬ (200 : Int) < (s.size : Int) := by omega
  obtain ⟨i, hi, hi'⟩ : ∃ i : Nat, a % ((s.size : Int) + 1) = (i : Int) ∧ i ≤ s.size := by
    have h1 := Int.emod_nonneg a (show (s.size : Int) + 1 ≠ 0 by omega)
    have h2 := Int.emod_lt_of_pos a (show (0 : Int) < (s.size : Int) + 1 by omega)
    exact ⟨(a % ((s.size : Int) + 1)).toNat, by omega, by omega⟩
  obtain ⟨j, hj, hj'⟩ : ∃ j : Nat, b % ((s.size : Int) - (i : Int) + 1) = (j : Int) ∧ i + j ≤ s.size := by
    have h1 := Int.emod_nonneg b (show (s.size : Int) - (i : Int) + 1 ≠ 0 by omega)
    have h2 := Int.emod_lt_of_pos b (show (0 : Int) < (s.size : Int) - (i : Int) + 1 by omega)
    exact ⟨(b % ((s.size : Int) - (i : Int) + 1)).toNat, by omega, by omega⟩
  have hm := more_parts s.data.toList s.size i j (by simp) hj'
  have HM := Lib.hid hm
  clear hm
  have hz := size_seal s
  have HZ := Lib.hid hz
  clear hz
  go_enter Try.func7, Try.ntmps7
  go_wp2_with fail
  go_quiet ((go_at_call 11; exact Calls.quiet_of_same ((more_own _ (by first | exact zero_u | exact more_u zero_u _ | exact more_u (more_u zero_u _) _) _ (ext_le hs _ _) _).mono fun _ _ ⟨a, b⟩ => ⟨a, b.symm⟩)))
  go_wp2_with fail
  refine (seal_own _ (by omega) _).mono ?_
  rintro e w1 ⟨rfl, hb1⟩
  go_wp2_with fail
  refine (seal_own _ (by rw [HZ.out]; omega) _).mono ?_
  rintro e w2 ⟨rfl, hb2⟩
  go_wp2_with fail
  refine (unseal_sealed _ (by rw [HZ.out]; omega) _).mono ?_
  rintro e w3 ⟨rfl, hb3⟩
  go_wp2_with fail
  refine (unseal_sealed _ (by omega) _).mono ?_
  rintro e w4 ⟨rfl, hb4⟩
  have b0 : Below w.heap.size w (w.drewN nq) := below_drewN (Below.refl _ w) nq
  have b4 : Below w.heap.size w w4 := bt (bt (bt (bt b0 hb1) hb2) hb3) hb4
  have hm := HM.out
  go_wp2_with (go_at_call 9; refine (sum_own _ hs _).mono ?_; rintro e w' ⟨rfl, rfl⟩)
  refine (awake_true _).mono ?_
  rintro e w5 ⟨rfl, hb5⟩
  go_wp2
  go_ret
  exact ⟨rfl, bt b4 hb5⟩
end Go.Proofs.Ythlkddaldeklcaa
