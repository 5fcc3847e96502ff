/-
  The walks of layer 1's functions: bytes, all that is left, whether all was read.
-/
import Derived.Test.YtomajnngifoiiaaW1
import Derived.Deep.RegionWith
namespace Go.Proofs.Ytomajnngifoiiaa
open Go.RowKit

/-- A block of the call's own: its cells, all of them free. -/
def Cs (w : World) (b : Nat) (vs : List Value) : Prop := ∀ i u, vs[i]? = some u → w.cell? ⟨b, i, none⟩ = some u ∧ w.frozen? ⟨b, i, none⟩ = false
theorem Cs.below {w w' : World} {b B : Nat} {vs : List Value} (h : Cs w b vs) (hb : Below B w w') (hB : b < B) : Cs w' b vs :=
  fun i u hu => ⟨(hb.cell (p := ⟨b, i, none⟩) hB).trans (h i u hu).1, (hb.frozen (p := ⟨b, i, none⟩) hB).trans (h i u hu).2⟩
theorem Cs.new (w : World) (vs : List Value) (t : TypeId) : Cs (w.alloc (.cells vs.toArray t)) w.heap.size vs := by
  intro i u hu
  constructor
  · simp [World.cell?_alloc_new, hu]
  · simp [go_sem]
theorem Cs.alloc {w : World} {b : Nat} {vs : List Value} (h : Cs w b vs) (hb : b < w.heap.size) (o : Obj) : Cs (w.alloc o) b vs :=
  h.below ((Below.refl w.heap.size w).alloc (Nat.le_refl _) o) hb

theorem lft_nn (c : C) : 0 ≤ lft c := by
  unfold lft
  split
  · rename_i h
    have := wi_iff.1 h.2
    omega
  · exact Int.le_refl _

theorem take_own (d : ByteArray) (p b n : Int) (hd : d.size ≤ maxLen) (w : World) :
    Calls Try.prog 11 #[.agg #[.string d, .int .i64 p, .int .i64 b], .int .i64 n] w fun e w' => e = .returned (both (cutC ⟨d, p, b⟩ n (decide (0 ≤ n))) (cutT ⟨d, p, b⟩ n (decide (0 ≤ n)))) ∧ Below w.heap.size w w' := by
  go_enter Try.func11, Try.ntmps11
  go_wp2_with fail
  refine (cut_own d p b n _ hd (by simp) _).mono ?_
  rintro e w1 ⟨rfl, hb1⟩
  obtain ⟨c, hc⟩ : ∃ c, c = cutC ⟨d, p, b⟩ n (decide (0 ≤ n)) := ⟨_, rfl⟩
  obtain ⟨t, ht⟩ : ∃ t, t = cutT ⟨d, p, b⟩ n (decide (0 ≤ n)) := ⟨_, rfl⟩
  rw [← hc, ← ht]
  have HC := Lib.hid hc
  have HT := Lib.hid ht
  clear hc ht
  have hcs := Cs.below (b := w.heap.size + 1) (vs := [.string ⟨#[]⟩, .int .i64 0, .int .i64 0]) (w := _) (by
    have := Cs.new (w.alloc (.cells #[.string d, .int .i64 p, .int .i64 b] 27)) [.string ⟨#[]⟩, .int .i64 0, .int .i64 0] 27
    simpa using this) hb1 (by simp)
  obtain ⟨c0, f0⟩ := hcs 0 _ rfl
  obtain ⟨c1, f1⟩ := hcs 1 _ rfl
  obtain ⟨c2, f2⟩ := hcs 2 _ rfl
  have b1 : Below w.heap.size w w1 := (((Below.refl _ w).alloc (Nat.le_refl _) _).alloc (by simp) _).trans (hb1.mono (by simp; omega))
  have HB := Lib.hid b1
  clear hb1 b1 hcs
  unfold both
  go_wp2
  refine bodyPost_ret (v := both c t) ?_ rfl ⟨by rw [HC.out, HT.out], ?_⟩
  · simp [both, results, Try.results11, go_sem, c0, c1, c2]
  · exact ((HB.out.setCell (by simp) _).setCell (by simp) _).setCell (by simp) _

theorem rest_own (d : ByteArray) (p b : Int) (hd : d.size ≤ maxLen) (w : World) :
    Calls Try.prog 13 #[.agg #[.string d, .int .i64 p, .int .i64 b]] w fun e w' => e = .returned (both (cutC ⟨d, p, b⟩ (lft ⟨d, p, b⟩) true) (cutT ⟨d, p, b⟩ (lft ⟨d, p, b⟩) true)) ∧ Below w.heap.size w w' := by
  obtain ⟨wA, hA⟩ : ∃ wA, wA = (w.alloc (.cells #[.string d, .int .i64 p, .int .i64 b] 27)).alloc (.cells #[.string ⟨#[]⟩, .int .i64 0, .int .i64 0] 27) := ⟨_, rfl⟩
  have hcs : Cs wA (w.heap.size + 1) [.string ⟨#[]⟩, .int .i64 0, .int .i64 0] := by
    have := Cs.new (w.alloc (.cells #[.string d, .int .i64 p, .int .i64 b] 27)) [.string ⟨#[]⟩, .int .i64 0, .int .i64 0] 27
    rw [hA]; simpa using this
  have hcb : Cs wA w.heap.size [.string d, .int .i64 p, .int .i64 b] := by
    have := (Cs.new w [.string d, .int .i64 p, .int .i64 b] 27).alloc (by simp) (.cells #[.string ⟨#[]⟩, .int .i64 0, .int .i64 0] 27)
    rw [hA]; simpa using this
  have hkA : Below w.heap.size w wA := by rw [hA]; exact ((Below.refl _ w).alloc (Nat.le_refl _) _).alloc (by simp) _
  have hsA : w.heap.size + 1 < wA.heap.size := by rw [hA]; simp
  have hlA : Below wA.heap.size wA ((w.alloc (.cells #[.string d, .int .i64 p, .int .i64 b] 27)).alloc (.cells #[.string ⟨#[]⟩, .int .i64 0, .int .i64 0] 27)) := by rw [hA]; exact Below.refl _ _
  have hsB : w.heap.size < wA.heap.size := by omega
  have HCB := Lib.hid hcb
  have HCS := Lib.hid hcs
  have HKA := Lib.hid hkA
  have HLA := Lib.hid hlA
  clear hcs hcb hkA hA hlA
  obtain ⟨n, hn⟩ : ∃ n, n = lft ⟨d, p, b⟩ := ⟨_, rfl⟩
  have hnn : 0 ≤ n := by rw [hn]; exact lft_nn _
  obtain ⟨c, hc⟩ : ∃ c, c = cutC ⟨d, p, b⟩ n true := ⟨_, rfl⟩
  obtain ⟨t, ht⟩ : ∃ t, t = cutT ⟨d, p, b⟩ n true := ⟨_, rfl⟩
  have HN := Lib.hid hn
  have HC := Lib.hid hc
  have HT := Lib.hid ht
  rw [← hn, ← hc, ← ht]
  clear hc ht hn
  go_enter Try.func13, Try.ntmps13
  go_wp2_with fail
  go_region_with (first
    | (go_at_call 16; refine (rel_of (w0 := wA) (left_own d p b hd _) ?_).mono ?_; (repeat (first | exact HLA.out | refine Below.drew ?_)); rw [← HN.out]; rintro e w0 ⟨rfl, hb0⟩; obtain ⟨a0, g0⟩ := (HCB.out.below hb0 hsB) 0 _ rfl; obtain ⟨a1, g1⟩ := (HCB.out.below hb0 hsB) 1 _ rfl; obtain ⟨a2, g2⟩ := (HCB.out.below hb0 hsB) 2 _ rfl)
    | (go_at_call 26; refine (rel_of (w0 := wA) (cut_own d p b n true hd (fun _ => hnn) _) ?_).mono ?_; (repeat (first | exact hb0 | refine Below.drew ?_)); rw [← HC.out, ← HT.out]; rintro e w1 ⟨rfl, hb1⟩; unfold both; obtain ⟨c0, f0⟩ := (HCS.out.below hb1 hsA) 0 _ rfl; obtain ⟨c1, f1⟩ := (HCS.out.below hb1 hsA) 1 _ rfl; obtain ⟨c2, f2⟩ := (HCS.out.below hb1 hsA) 2 _ rfl))
  all_goals go_wp2
  all_goals
    refine bodyPost_ret (v := both c t) ?_ rfl ⟨rfl, ?_⟩
    · simp [both, results, Try.results13, go_sem, c0, c1, c2]
    · have HB := bt HKA.out hb1
      exact ((HB.setCell (by simp) _).setCell (by simp) _).setCell (by simp) _

theorem take_ref (d : ByteArray) (p b n : Int) (hd : d.size ≤ maxLen) (w : World) :
    Calls Try.prog 12 #[.agg #[.string d, .int .i64 p, .int .i64 b], .int .i64 n] w fun e w' => e = .returned (both (cutC ⟨d, p, b⟩ n (decide (0 ≤ n))) (cutT ⟨d, p, b⟩ n (decide (0 ≤ n)))) ∧ Below w.heap.size w w' := by
  by_cases hb : b = 0
  · subst hb
    by_cases hw : wi d p = true
    · obtain ⟨h1, h2⟩ := wi_iff.1 hw
      have hm : (d.size : Int) ≤ 9223372036854775807 := by unfold maxLen at hd; omega
      by_cases hn0 : 0 ≤ n
      · have hf : decide (0 ≤ n) = true := by simpa using hn0
        have hnn : ¬ n < 0 := by omega
        have e3 : lft ⟨d, p, 0⟩ = (d.size : Int) - p := by simp [lft, hw]
        by_cases hl : (d.size : Int) - p < n
        · have e1 : cutC ⟨d, p, 0⟩ n (decide (0 ≤ n)) = ⟨d, p, 3⟩ := by rw [hf]; simp [cutC, hw, hl]
          have e2 : cutT ⟨d, p, 0⟩ n (decide (0 ≤ n)) = ByteArray.empty := by rw [hf]; simp [cutT]; intro _ h; omega
          rw [e1, e2]
          clear e1 e2 hf
          go_enter Try.func12, Try.ntmps12
          go_wp2_with (go_at_call 27; refine (within_ref _ _ _ _).mono ?_; rintro e w1 ⟨rfl, rfl⟩)
          refine (left_ref d p 0 hd _).mono ?_
          rw [e3]
          rintro e w1 ⟨rfl, hb1⟩
          have hcs := Cs.below (b := w.heap.size + 1) (vs := [.string ⟨#[]⟩, .int .i64 0, .int .i64 0]) (w := _) (by
            have := (Cs.new (w.alloc (.cells #[.string d, .int .i64 p, .int .i64 0] 23)) [.string ⟨#[]⟩, .int .i64 0, .int .i64 0] 23).alloc (by simp) (.cells #[.string d, .int .i64 p, .int .i64 0] 23)
            simpa using this) hb1 (by first | (simp; done) | (simp; omega))
          have hcb := Cs.below (b := w.heap.size) (vs := [.string d, .int .i64 p, .int .i64 0]) (w := _) (by
            have := ((Cs.new w [.string d, .int .i64 p, .int .i64 0] 23).alloc (by simp) (.cells #[.string ⟨#[]⟩, .int .i64 0, .int .i64 0] 23)).alloc (by simp; omega) (.cells #[.string d, .int .i64 p, .int .i64 0] 23)
            simpa using this) hb1 (by first | (simp; done) | (simp; omega))
          obtain ⟨c0, f0⟩ := hcs 0 _ rfl
          obtain ⟨c1, f1⟩ := hcs 1 _ rfl
          obtain ⟨c2, f2⟩ := hcs 2 _ rfl
          obtain ⟨a0, g0⟩ := hcb 0 _ rfl
          obtain ⟨a1, g1⟩ := hcb 1 _ rfl
          obtain ⟨a2, g2⟩ := hcb 2 _ rfl
          have b1 : Below w.heap.size w w1 := ((((Below.refl _ w).alloc (Nat.le_refl _) _).alloc (by simp) _).alloc (by simp; omega) _).trans (hb1.mono (by simp; omega))
          have HB := Lib.hid b1
          clear hb1 b1 hcs hcb e3
          go_wp2
          refine bodyPost_ret (v := both ⟨d, p, 3⟩ ByteArray.empty) ?_ rfl ⟨rfl, ?_⟩
          · simp [both, results, Try.results12, go_sem, c0, c1, c2]; try rfl
          · exact ((((HB.out.setCell (by simp) _).setCell (by simp) _).setCell (by simp) _).setCell (by simp) _)
        · have e1 : cutC ⟨d, p, 0⟩ n (decide (0 ≤ n)) = ⟨d, p + n, 0⟩ := by rw [hf]; simp [cutC, hw, hl]
          have e2 : cutT ⟨d, p, 0⟩ n (decide (0 ≤ n)) = d.extract p.toNat (p + n).toNat := by rw [hf]; simp [cutT, hw]; intro h; omega
          rw [e1, e2]
          clear e1 e2 hf
          have hb1 : 0 ≤ p + n := by omega
          have hb2 : p + n ≤ (d.size : Int) := by omega
          have hb3 : p ≤ p + n := by omega
          obtain ⟨i, rfl⟩ := Int.eq_ofNat_of_zero_le h1
          obtain ⟨j, rfl⟩ := Int.eq_ofNat_of_zero_le hn0
          clear hb1
          go_enter Try.func12, Try.ntmps12
          go_wp2_with (go_at_call 27; refine (within_ref _ _ _ _).mono ?_; rintro e w1 ⟨rfl, rfl⟩)
          refine (left_ref d (i : Int) 0 hd _).mono ?_
          rw [e3]
          rintro e w1 ⟨rfl, hb1⟩
          have hcs := Cs.below (b := w.heap.size + 1) (vs := [.string ⟨#[]⟩, .int .i64 0, .int .i64 0]) (w := _) (by
            have := (Cs.new (w.alloc (.cells #[.string d, .int .i64 (i : Int), .int .i64 0] 23)) [.string ⟨#[]⟩, .int .i64 0, .int .i64 0] 23).alloc (by simp) (.cells #[.string d, .int .i64 (i : Int), .int .i64 0] 23)
            simpa using this) hb1 (by first | (simp; done) | (simp; omega))
          have hcb := Cs.below (b := w.heap.size) (vs := [.string d, .int .i64 (i : Int), .int .i64 0]) (w := _) (by
            have := ((Cs.new w [.string d, .int .i64 (i : Int), .int .i64 0] 23).alloc (by simp) (.cells #[.string ⟨#[]⟩, .int .i64 0, .int .i64 0] 23)).alloc (by simp; omega) (.cells #[.string d, .int .i64 (i : Int), .int .i64 0] 23)
            simpa using this) hb1 (by first | (simp; done) | (simp; omega))
          obtain ⟨c0, f0⟩ := hcs 0 _ rfl
          obtain ⟨c1, f1⟩ := hcs 1 _ rfl
          obtain ⟨c2, f2⟩ := hcs 2 _ rfl
          obtain ⟨a0, g0⟩ := hcb 0 _ rfl
          obtain ⟨a1, g1⟩ := hcb 1 _ rfl
          obtain ⟨a2, g2⟩ := hcb 2 _ rfl
          have b1 : Below w.heap.size w w1 := ((((Below.refl _ w).alloc (Nat.le_refl _) _).alloc (by simp) _).alloc (by simp; omega) _).trans (hb1.mono (by simp; omega))
          have HB := Lib.hid b1
          clear hb1 b1 hcs hcb e3
          go_wp2
          refine bodyPost_ret (v := both ⟨d, (i : Int) + (j : Int), 0⟩ (d.extract ((i : Int)).toNat ((i : Int) + (j : Int)).toNat)) ?_ rfl ⟨rfl, ?_⟩
          · simp [both, results, Try.results12, go_sem, c0, c1, c2]; try rfl
          · exact ((((HB.out.setCell (by simp) _).setCell (by simp) _).setCell (by simp) _).setCell (by simp) _)
      · have hf : decide (0 ≤ n) = false := by simpa using hn0
        have hnn : n < 0 := by omega
        have e1 : cutC ⟨d, p, 0⟩ n (decide (0 ≤ n)) = ⟨d, p, 2⟩ := by rw [hf]; simp [cutC, hw]
        have e2 : cutT ⟨d, p, 0⟩ n (decide (0 ≤ n)) = ByteArray.empty := by rw [hf]; simp [cutT]
        rw [e1, e2]
        clear e1 e2 hf
        go_enter Try.func12, Try.ntmps12
        go_wp2_with (go_at_call 27; refine (within_ref _ _ _ _).mono ?_; rintro e w1 ⟨rfl, rfl⟩)
        exact bodyPost_ret (v := both ⟨d, p, 2⟩ ByteArray.empty) (by simp [both, results, Try.results12, go_sem]; try rfl) rfl ⟨rfl, by repeat (first | exact Below.refl _ _ | refine Below.alloc ?_ (by first | (simp; done) | (simp; omega)) _)⟩
    · have hw' : wi d p = false := by simpa using hw
      have e1 : cutC ⟨d, p, 0⟩ n (decide (0 ≤ n)) = ⟨d, p, 8⟩ := by simp [cutC, hw']
      have e2 : cutT ⟨d, p, 0⟩ n (decide (0 ≤ n)) = ByteArray.empty := by simp [cutT, hw']
      rw [e1, e2]
      clear e1 e2 hw
      go_enter Try.func12, Try.ntmps12
      go_wp2_with (go_at_call 27; refine (within_ref _ _ _ _).mono ?_; rintro e w1 ⟨rfl, rfl⟩)
      exact bodyPost_ret (v := both ⟨d, p, 8⟩ ByteArray.empty) (by simp [both, results, Try.results12, go_sem]; try rfl) rfl ⟨rfl, by repeat (first | exact Below.refl _ _ | refine Below.alloc ?_ (by first | (simp; done) | (simp; omega)) _)⟩
  · have hb' : (b != 0) = true := by simp [hb]
    have e1 : cutC ⟨d, p, b⟩ n (decide (0 ≤ n)) = ⟨d, p, b⟩ := by simp [cutC, hb]
    have e2 : cutT ⟨d, p, b⟩ n (decide (0 ≤ n)) = ByteArray.empty := by simp [cutT, hb]
    rw [e1, e2]
    clear e1 e2 hb
    go_enter Try.func12, Try.ntmps12
    go_wp2_with (go_at_call 27; refine (within_ref _ _ _ _).mono ?_; rintro e w1 ⟨rfl, rfl⟩)
    exact bodyPost_ret (v := both ⟨d, p, b⟩ ByteArray.empty) (by simp [both, results, Try.results12, go_sem]; try rfl) rfl ⟨rfl, by repeat (first | exact Below.refl _ _ | refine Below.alloc ?_ (by first | (simp; done) | (simp; omega)) _)⟩

theorem take_ref_nn (d : ByteArray) (p b n : Int) (hd : d.size ≤ maxLen) (hn : 0 ≤ n) (w : World) :
    Calls Try.prog 12 #[.agg #[.string d, .int .i64 p, .int .i64 b], .int .i64 n] w fun e w' => e = .returned (both (cutC ⟨d, p, b⟩ n true) (cutT ⟨d, p, b⟩ n true)) ∧ Below w.heap.size w w' := by
  have h := take_ref d p b n hd w
  rw [show decide (0 ≤ n) = true from by simpa using hn] at h
  exact h

theorem rest_ref (d : ByteArray) (p b : Int) (hd : d.size ≤ maxLen) (w : World) :
    Calls Try.prog 14 #[.agg #[.string d, .int .i64 p, .int .i64 b]] w fun e w' => e = .returned (both (cutC ⟨d, p, b⟩ (lft ⟨d, p, b⟩) true) (cutT ⟨d, p, b⟩ (lft ⟨d, p, b⟩) true)) ∧ Below w.heap.size w w' := by
  obtain ⟨wA, hA⟩ : ∃ wA, wA = (w.alloc (.cells #[.string d, .int .i64 p, .int .i64 b] 23)).alloc (.cells #[.string ⟨#[]⟩, .int .i64 0, .int .i64 0] 23) := ⟨_, rfl⟩
  have hcs : Cs wA (w.heap.size + 1) [.string ⟨#[]⟩, .int .i64 0, .int .i64 0] := by
    have := Cs.new (w.alloc (.cells #[.string d, .int .i64 p, .int .i64 b] 23)) [.string ⟨#[]⟩, .int .i64 0, .int .i64 0] 23
    rw [hA]; simpa using this
  have hcb : Cs wA w.heap.size [.string d, .int .i64 p, .int .i64 b] := by
    have := (Cs.new w [.string d, .int .i64 p, .int .i64 b] 23).alloc (by simp) (.cells #[.string ⟨#[]⟩, .int .i64 0, .int .i64 0] 23)
    rw [hA]; simpa using this
  have hkA : Below w.heap.size w wA := by rw [hA]; exact ((Below.refl _ w).alloc (Nat.le_refl _) _).alloc (by simp) _
  have hsA : w.heap.size + 1 < wA.heap.size := by rw [hA]; simp
  have hlA : Below wA.heap.size wA ((w.alloc (.cells #[.string d, .int .i64 p, .int .i64 b] 23)).alloc (.cells #[.string ⟨#[]⟩, .int .i64 0, .int .i64 0] 23)) := by rw [hA]; exact Below.refl _ _
  have hsB : w.heap.size < wA.heap.size := by omega
  have HCB := Lib.hid hcb
  have HCS := Lib.hid hcs
  have HKA := Lib.hid hkA
  have HLA := Lib.hid hlA
  clear hcs hcb hkA hA hlA
  obtain ⟨n, hn⟩ : ∃ n, n = lft ⟨d, p, b⟩ := ⟨_, rfl⟩
  have hnn : 0 ≤ n := by rw [hn]; exact lft_nn _
  obtain ⟨c, hc⟩ : ∃ c, c = cutC ⟨d, p, b⟩ n true := ⟨_, rfl⟩
  obtain ⟨t, ht⟩ : ∃ t, t = cutT ⟨d, p, b⟩ n true := ⟨_, rfl⟩
  have HN := Lib.hid hn
  have HC := Lib.hid hc
  have HT := Lib.hid ht
  rw [← hn, ← hc, ← ht]
  clear hc ht hn
  go_enter Try.func14, Try.ntmps14
  go_wp2_with fail
  go_region_with (first
    | (go_at_call 17; refine (rel_of (w0 := wA) (left_ref d p b hd _) ?_).mono ?_; (repeat (first | exact HLA.out | refine Below.drew ?_)); rw [← HN.out]; rintro e w0 ⟨rfl, hb0⟩; obtain ⟨a0, g0⟩ := (HCB.out.below hb0 hsB) 0 _ rfl; obtain ⟨a1, g1⟩ := (HCB.out.below hb0 hsB) 1 _ rfl; obtain ⟨a2, g2⟩ := (HCB.out.below hb0 hsB) 2 _ rfl)
    | (go_at_call 12; refine (rel_of (w0 := wA) (take_ref_nn d p b n hd hnn _) ?_).mono ?_; (repeat (first | exact hb0 | refine Below.drew ?_)); rw [← HC.out, ← HT.out]; rintro e w1 ⟨rfl, hb1⟩; unfold both; obtain ⟨c0, f0⟩ := (HCS.out.below hb1 hsA) 0 _ rfl; obtain ⟨c1, f1⟩ := (HCS.out.below hb1 hsA) 1 _ rfl; obtain ⟨c2, f2⟩ := (HCS.out.below hb1 hsA) 2 _ rfl))
  all_goals go_wp2
  all_goals
    refine bodyPost_ret (v := both c t) ?_ rfl ⟨rfl, ?_⟩
    · simp [both, results, Try.results14, go_sem, c0, c1, c2]
    · have HB := bt HKA.out hb1
      exact ((HB.setCell (by simp) _).setCell (by simp) _).setCell (by simp) _
end Go.Proofs.Ytomajnngifoiiaa
