/-
  The walks of layer 1's functions: a number.
-/
import Derived.Test.YtomajnngifoiiaaW3
namespace Go.Proofs.Ytomajnngifoiiaa
open Go.RowKit

/-- The number of bytes, the highest first. -/
def num (l : List UInt8) : Int := l.foldl (fun n c => 256 * n + (c.toNat : Int)) 0
theorem num_snoc (l : List UInt8) (c : UInt8) : num (l ++ [c]) = 256 * num l + (c.toNat : Int) := by simp [num]
theorem num_acc (l : List UInt8) (a : Int) (k : Nat) (h0 : 0 ≤ a) (h1 : a < 256 ^ k) :
    0 ≤ l.foldl (fun n c => 256 * n + (c.toNat : Int)) a ∧ l.foldl (fun n c => 256 * n + (c.toNat : Int)) a < 256 ^ (k + l.length) := by
  induction l generalizing a k with
  | nil => exact ⟨h0, h1⟩
  | cons c l ih =>
    have hc := UInt8.toNat_lt c
    have := ih (256 * a + (c.toNat : Int)) (k + 1) (by omega) (by rw [Int.pow_succ]; omega)
    rw [List.length_cons, show k + (l.length + 1) = k + 1 + l.length from by omega]
    exact this
theorem num_bd (l : List UInt8) : 0 ≤ num l ∧ num l < 256 ^ l.length := by
  have := num_acc l 0 0 (Int.le_refl _) (by decide)
  simpa [num] using this
theorem take_snoc (s : ByteArray) (k : Nat) (h : k < s.size) : s.data.toList.take (k + 1) = s.data.toList.take k ++ [s[k]] := by
  rw [List.take_succ_eq_append_getElem (by simpa using h)]; rfl
theorem num_small (s : ByteArray) (k : Nat) (hk : k ≤ 6) : 0 ≤ num (s.data.toList.take k) ∧ num (s.data.toList.take k) < 281474976710656 := by
  have h := num_bd (s.data.toList.take k)
  have hl : (s.data.toList.take k).length ≤ 6 := by rw [List.length_take]; omega
  generalize (s.data.toList.take k).length = m at *
  have : m = 0 ∨ m = 1 ∨ m = 2 ∨ m = 3 ∨ m = 4 ∨ m = 5 ∨ m = 6 := by omega
  rcases this with rfl | rfl | rfl | rfl | rfl | rfl | rfl <;> simp at h <;> omega
theorem or_byte (m b : Int) (h0 : 0 ≤ m) (h1 : m < 281474976710656) (b0 : 0 ≤ b) (b1 : b < 256) : bits .or .i64 (m * 256) b = 256 * m + b := by
  obtain ⟨m, rfl⟩ := Int.eq_ofNat_of_zero_le h0
  obtain ⟨b, rfl⟩ := Int.eq_ofNat_of_zero_le b0
  have hx : m * 256 ||| b < 2 ^ 63 := Nat.or_lt_two_pow (by omega) (by omega)
  have hj : m * 256 ||| b = m * 256 + b := nat_join 8 (m * 256) b (by omega) (by omega)
  show IntKind.i64.wrap ((BitVec.ofInt 64 ((m : Int) * 256) ||| BitVec.ofInt 64 (b : Int)).toNat : Int) = _
  rw [show ((m : Int) * 256) = ((m * 256 : Nat) : Int) from by omega, BitVec.toNat_or, BitVec.ofInt_natCast, BitVec.ofInt_natCast, BitVec.toNat_ofNat, BitVec.toNat_ofNat,
    Nat.mod_eq_of_lt (by omega), Nat.mod_eq_of_lt (by omega), hj, IntKind.wrap_i64]
  omega

/-- May so many bytes be asked for? -/
def seven (n : Int) : Bool := decide (1 ≤ n) && decide (n ≤ 7)
theorem cutT_size (c : C) (n : Int) : (cutT c n (seven n)).size ≤ 7 := by
  unfold cutT
  split
  · rename_i h
    obtain ⟨_, h2, h3, h4⟩ := h
    have := wi_iff.1 h2
    simp only [seven, Bool.and_eq_true, decide_eq_true_eq] at h3
    rw [ByteArray.size_extract]
    omega
  · simp

set_option maxHeartbeats 1000000 in
theorem number_own_at (d : ByteArray) (p b n : Int) (w : World) (c : C) (t : ByteArray) (hts : t.size ≤ 7) (q : Bool)
    (hq : (1 ≤ n ∧ q = decide (n ≤ 7)) ∨ (¬ 1 ≤ n ∧ q = false))
    (hcut : ∀ W, Calls Try.prog 26 #[.agg #[.string d, .int .i64 p, .int .i64 b], .int .i64 n, .bool q] W fun e w' => e = .returned (both c t) ∧ Below W.heap.size W w') :
    Calls Try.prog 9 #[.agg #[.string d, .int .i64 p, .int .i64 b], .int .i64 n] w fun e w' =>
      e = .returned (.tuple #[.agg #[.string c.d, .int .i64 c.p, .int .i64 c.b], .int .i64 (num t.data.toList)]) ∧ Below w.heap.size w w' := by
  have HCUT := Lib.hid hcut
  clear hcut
  rcases hq with ⟨h1, rfl⟩ | ⟨h1, rfl⟩
  all_goals
    first
      | have d1 : decide (1 ≤ n) = true := by simpa using h1
      | have d1 : decide (1 ≤ n) = false := by simpa using h1
    go_enter Try.func9, Try.ntmps9
    go_wp2_with fail
    refine (HCUT.out _).mono ?_
    rintro e w1 ⟨rfl, hb1⟩
    have hcs := Cs.below (b := w.heap.size + 1) (vs := [.string ⟨#[]⟩, .int .i64 0, .int .i64 0]) (w := _) (by
      have := Cs.new (w.alloc (.cells #[.string d, .int .i64 p, .int .i64 b] 27)) [.string ⟨#[]⟩, .int .i64 0, .int .i64 0] 27
      simpa using this) hb1 (by simp)
    have hcb := Cs.below (b := w.heap.size) (vs := [.string d, .int .i64 p, .int .i64 b]) (w := _) (by
      have := (Cs.new w [.string d, .int .i64 p, .int .i64 b] 27).alloc (by simp) (.cells #[.string ⟨#[]⟩, .int .i64 0, .int .i64 0] 27)
      simpa using this) hb1 (by simp; omega)
    obtain ⟨c0, f0⟩ := hcs 0 _ rfl
    obtain ⟨c1, f1⟩ := hcs 1 _ rfl
    obtain ⟨c2, f2⟩ := hcs 2 _ rfl
    obtain ⟨a0, g0⟩ := hcb 0 _ rfl
    obtain ⟨a1, g1⟩ := hcb 1 _ rfl
    obtain ⟨a2, g2⟩ := hcb 2 _ rfl
    have b1 : Below w.heap.size w w1 := (((Below.refl _ w).alloc (Nat.le_refl _) _).alloc (by simp) _).trans (hb1.mono (by simp; omega))
    have HB := Lib.hid b1
    clear hb1 b1 hcs hcb
    unfold both
    go_wp2_with fail
    go_loop [7, 23] (fun m i => ∃ k : Nat, k ≤ t.size ∧ i = .int .i64 (k : Int) ∧ m = .int .i64 (num (t.data.toList.take k))) (fun _ i => t.size - (intOf i).toNat)
    case atStart => exact ⟨0, Nat.zero_le _, rfl, rfl⟩
    case round =>
      obtain ⟨k, hk, rfl, rfl⟩ := hrel
      by_cases hlt : k < t.size
      · have hs1 := num_snoc (t.data.toList.take k) t[k]
        rw [← take_snoc t k hlt] at hs1
        have HS := Lib.hid hs1
        clear hs1
        obtain ⟨m0, m1⟩ := num_small t k (by omega)
        generalize num (t.data.toList.take k) = m at *
        have hbd : (t[k].toNat : Int) < 256 := by have := UInt8.toNat_lt t[k]; omega
        have hor := or_byte m (t[k].toNat : Int) m0 m1 (by omega) hbd
        go_wp2
        go_round
        case rel => exact ⟨k + 1, by omega, by go_num, by rw [HS.out]⟩
        case measure => simp [intOf]; omega
      · rw [List.take_of_length_le (by simp; omega)]
        go_wp2
        refine bodyPost_ret (v := .tuple #[.agg #[.string c.d, .int .i64 c.p, .int .i64 c.b], .int .i64 (num t.data.toList)]) ?_ rfl ⟨rfl, ?_⟩
        · simp [results, Try.results9, go_sem, c0, c1, c2]
        · exact (((((HB.out.setCell (by simp) _).setCell (by simp) _).setCell (by simp) _).setCell (by simp) _).setCell (by simp) _).setCell (by simp) _
end Go.Proofs.Ytomajnngifoiiaa
