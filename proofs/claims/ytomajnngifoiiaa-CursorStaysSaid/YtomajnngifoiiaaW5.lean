/-
  The walks of layer 1's functions: a number, both ways.
-/
import Derived.Test.YtomajnngifoiiaaW4
namespace Go.Proofs.Ytomajnngifoiiaa
open Go.RowKit

/-- A number read of a cursor: the cursor, and the number. -/
def numC (c : C) (n : Int) : C := cutC c n (seven n)
def numV (c : C) (n : Int) : Int := num (cutT c n (seven n)).data.toList
def bothN (c : C) (m : Int) : Value := .tuple #[.agg #[.string c.d, .int .i64 c.p, .int .i64 c.b], .int .i64 m]

theorem number_own (d : ByteArray) (p b n : Int) (hd : d.size ≤ maxLen) (w : World) :
    Calls Try.prog 9 #[.agg #[.string d, .int .i64 p, .int .i64 b], .int .i64 n] w fun e w' => e = .returned (bothN (numC ⟨d, p, b⟩ n) (numV ⟨d, p, b⟩ n)) ∧ Below w.heap.size w w' := by
  refine number_own_at d p b n w (cutC ⟨d, p, b⟩ n (seven n)) (cutT ⟨d, p, b⟩ n (seven n)) (cutT_size _ _) (seven n) ?_ fun W => cut_own d p b n _ hd (by simp [seven]; omega) W
  by_cases h : 1 ≤ n
  · exact .inl ⟨h, by simp [seven, h]⟩
  · exact .inr ⟨h, by simp [seven, h]⟩

/-- Where the program's asks for so many bytes, and the document's takes them: the same. -/
theorem take_seven (c : C) (n : Int) (h : ¬ (c.b = 0 ∧ wi c.d c.p = true) ∨ seven n = true) : cutC c n (decide (0 ≤ n)) = cutC c n (seven n) ∧ cutT c n (decide (0 ≤ n)) = cutT c n (seven n) := by
  rcases h with h | h
  · by_cases hb : c.b = 0
    · have hw : wi c.d c.p = false := by
        cases hh : wi c.d c.p
        · rfl
        · exact absurd ⟨hb, hh⟩ h
      simp [cutC, cutT, hw]
    · simp [cutC, cutT, hb]
  · have : decide (0 ≤ n) = true := by simp [seven] at h; simp; omega
    rw [h, this]; exact ⟨rfl, rfl⟩
theorem take_wrong (d : ByteArray) (p n : Int) (hw : wi d p = true) (h : seven n = false) : cutC ⟨d, p, 0⟩ n (seven n) = ⟨d, p, 2⟩ ∧ cutT ⟨d, p, 0⟩ n (seven n) = ByteArray.empty := by
  rw [h]; simp [cutC, cutT, hw]

set_option maxHeartbeats 1000000 in
theorem number_ref_at (d : ByteArray) (p b n : Int) (w : World) (c : C) (t : ByteArray) (hts : t.size ≤ 7)
    (hq : b ≠ 0 ∨ (b = 0 ∧ wi d p = false) ∨ (b = 0 ∧ wi d p = true ∧ 1 ≤ n ∧ n ≤ 7))
    (hcut : ∀ W, Calls Try.prog 12 #[.agg #[.string d, .int .i64 p, .int .i64 b], .int .i64 n] W fun e w' => e = .returned (both c t) ∧ Below W.heap.size W w') :
    Calls Try.prog 10 #[.agg #[.string d, .int .i64 p, .int .i64 b], .int .i64 n] w fun e w' => e = .returned (bothN c (num t.data.toList)) ∧ Below w.heap.size w w' := by
  have HCUT := Lib.hid hcut
  clear hcut
  obtain ⟨wA, hA⟩ : ∃ wA, wA = (w.alloc (.cells #[.string d, .int .i64 p, .int .i64 b] 23)).alloc (.cells #[.string ⟨#[]⟩, .int .i64 0, .int .i64 0] 23) := ⟨_, rfl⟩
  have hcs : Cs wA (w.heap.size + 1) [.string ⟨#[]⟩, .int .i64 0, .int .i64 0] := by
    have := Cs.new (w.alloc (.cells #[.string d, .int .i64 p, .int .i64 b] 23)) [.string ⟨#[]⟩, .int .i64 0, .int .i64 0] 23
    rw [hA]; simpa using this
  have hkA : Below w.heap.size w wA := by rw [hA]; exact ((Below.refl _ w).alloc (Nat.le_refl _) _).alloc (by simp) _
  have hsA : w.heap.size + 1 < wA.heap.size := by rw [hA]; simp
  have hlA : Below wA.heap.size wA ((w.alloc (.cells #[.string d, .int .i64 p, .int .i64 b] 23)).alloc (.cells #[.string ⟨#[]⟩, .int .i64 0, .int .i64 0] 23)) := by rw [hA]; exact Below.refl _ _
  have HCS := Lib.hid hcs
  have HKA := Lib.hid hkA
  have HLA := Lib.hid hlA
  clear hcs hkA hA hlA
  rcases hq with hb | ⟨rfl, hw⟩ | ⟨rfl, hw, h1, h2⟩
  all_goals
    first
      | have d1 : (b == 0) = false := by simp [hb]
      | (have d1 : decide (n < 1) = false := (by simp; omega)
         have d2 : decide (7 < n) = false := by simp; omega)
      | have d1 := hw
    go_enter Try.func10, Try.ntmps10
    go_wp2_with (go_at_call 27; refine (within_ref _ _ _ _).mono ?_; rintro e w1 ⟨rfl, rfl⟩)
    refine (rel_of (w0 := wA) (HCUT.out _) (by repeat (first | exact HLA.out | refine Below.alloc ?_ (by first | exact HLA.out.size | (simp; done) | (simp; omega)) _))).mono ?_
    rintro e w1 ⟨rfl, hb1⟩
    obtain ⟨c0, f0⟩ := (HCS.out.below hb1 hsA) 0 _ rfl
    obtain ⟨c1, f1⟩ := (HCS.out.below hb1 hsA) 1 _ rfl
    obtain ⟨c2, f2⟩ := (HCS.out.below hb1 hsA) 2 _ rfl
    have hlt0 : w.heap.size + 1 < w1.heap.size := Nat.lt_of_lt_of_le hsA hb1.size
    have b1 : Below w.heap.size w w1 := bt HKA.out hb1
    have HB := Lib.hid b1
    clear hb1 b1
    unfold both
    go_wp2_with fail
    go_loop [8, 9] (fun m i => ∃ k : Nat, k ≤ t.size ∧ i = .int .i64 (k : Int) ∧ m = .int .i64 (num (t.data.toList.take k))) (fun _ i => t.size - (intOf i).toNat)
    case atStart => exact ⟨0, Nat.zero_le _, rfl, rfl⟩
    case round =>
      obtain ⟨k, hk, rfl, rfl⟩ := hrel
      by_cases hlt : k < t.size
      · have hs1 := num_snoc (t.data.toList.take k) t[k]
        rw [← take_snoc t k hlt] at hs1
        have HS := Lib.hid hs1
        clear hs1
        obtain ⟨m0, m1⟩ := num_small t k (by omega)
        generalize num (t.data.toList.take k) = m at *
        have hbd : (t[k].toNat : Int) < 256 := by have := UInt8.toNat_lt t[k]; omega
        go_wp2
        go_round
        case rel => exact ⟨k + 1, by omega, by go_num, by rw [HS.out]⟩
        case measure => simp [intOf]; omega
      · rw [List.take_of_length_le (by simp; omega)]
        go_wp2
        refine bodyPost_ret (v := bothN c (num t.data.toList)) ?_ rfl ⟨rfl, ?_⟩
        · have k0 : ∀ o, ((((w1.setCell ⟨w.heap.size + 1, 0, none⟩ (.string c.d)).setCell ⟨w.heap.size + 1, 1, none⟩ (.int .i64 c.p)).setCell ⟨w.heap.size + 1, 2, none⟩ (.int .i64 c.b)).alloc o).cell? ⟨w.heap.size + 1, 0, none⟩ = some (.string c.d) :=
            fun o => (World.cell?_alloc_lt _ o _ (by simpa using hlt0)).trans (by simp [go_sem, c0])
          have k1 : ∀ o, ((((w1.setCell ⟨w.heap.size + 1, 0, none⟩ (.string c.d)).setCell ⟨w.heap.size + 1, 1, none⟩ (.int .i64 c.p)).setCell ⟨w.heap.size + 1, 2, none⟩ (.int .i64 c.b)).alloc o).cell? ⟨w.heap.size + 1, 1, none⟩ = some (.int .i64 c.p) :=
            fun o => (World.cell?_alloc_lt _ o _ (by simpa using hlt0)).trans (by simp [go_sem, c1])
          have k2 : ∀ o, ((((w1.setCell ⟨w.heap.size + 1, 0, none⟩ (.string c.d)).setCell ⟨w.heap.size + 1, 1, none⟩ (.int .i64 c.p)).setCell ⟨w.heap.size + 1, 2, none⟩ (.int .i64 c.b)).alloc o).cell? ⟨w.heap.size + 1, 2, none⟩ = some (.int .i64 c.b) :=
            fun o => (World.cell?_alloc_lt _ o _ (by simpa using hlt0)).trans (by simp [go_sem, c2])
          simp [bothN, results, Try.results10, go_sem, k0, k1, k2]
        · have hz := HB.out.size
          exact (((HB.out.setCell (by simp) _).setCell (by simp) _).setCell (by simp) _).alloc (by simpa using hz) _

theorem number_ref (d : ByteArray) (p b n : Int) (hd : d.size ≤ maxLen) (w : World) :
    Calls Try.prog 10 #[.agg #[.string d, .int .i64 p, .int .i64 b], .int .i64 n] w fun e w' => e = .returned (bothN (numC ⟨d, p, b⟩ n) (numV ⟨d, p, b⟩ n)) ∧ Below w.heap.size w w' := by
  by_cases hc : b = 0 ∧ wi d p = true ∧ seven n = false
  · obtain ⟨rfl, hw, hs⟩ := hc
    have hn : numC ⟨d, p, 0⟩ n = ⟨d, p, 2⟩ := (take_wrong d p n hw hs).1
    have hv : numV ⟨d, p, 0⟩ n = 0 := by unfold numV; rw [(take_wrong d p n hw hs).2]; rfl
    rw [hn, hv]
    clear hn hv
    by_cases h1 : n < 1
    · have d1 : decide (n < 1) = true := by simpa using h1
      go_enter Try.func10, Try.ntmps10
      go_wp2_with (go_at_call 27; refine (within_ref _ _ _ _).mono ?_; rintro e w1 ⟨rfl, rfl⟩)
      exact bodyPost_ret (v := bothN ⟨d, p, 2⟩ 0) (by simp [bothN, results, Try.results10, go_sem]) rfl ⟨rfl, by repeat (first | exact Below.refl _ _ | refine Below.alloc ?_ (by first | (simp; done) | (simp; omega)) _)⟩
    · have d1 : decide (n < 1) = false := by simpa using h1
      have d2 : decide (7 < n) = true := by simp [seven] at hs; simp; omega
      go_enter Try.func10, Try.ntmps10
      go_wp2_with (go_at_call 27; refine (within_ref _ _ _ _).mono ?_; rintro e w1 ⟨rfl, rfl⟩)
      exact bodyPost_ret (v := bothN ⟨d, p, 2⟩ 0) (by simp [bothN, results, Try.results10, go_sem]) rfl ⟨rfl, by repeat (first | exact Below.refl _ _ | refine Below.alloc ?_ (by first | (simp; done) | (simp; omega)) _)⟩
  · have ht := take_seven ⟨d, p, b⟩ n (by
      by_cases h : b = 0 ∧ wi d p = true
      · right
        cases hh : seven n
        · exact absurd ⟨h.1, h.2, hh⟩ hc
        · rfl
      · exact .inl h)
    refine number_ref_at d p b n w (cutC ⟨d, p, b⟩ n (seven n)) (cutT ⟨d, p, b⟩ n (seven n)) (cutT_size _ _) ?_ fun W => by
      have := take_ref d p b n hd W
      rw [ht.1, ht.2] at this
      exact this
    by_cases hb : b = 0
    · cases hw : wi d p
      · exact .inr (.inl ⟨hb, rfl⟩)
      · cases hh : seven n
        · exact absurd ⟨hb, hw, hh⟩ hc
        · simp [seven] at hh
          exact .inr (.inr ⟨hb, rfl, hh.1, hh.2⟩)
    · exact .inl hb
end Go.Proofs.Ytomajnngifoiiaa
