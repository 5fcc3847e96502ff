/-
  The walks of layer 3's functions: what is unsealed.
-/
import Derived.Test.YthlkddaldeklcaaW2
import Derived.Deep.RegionWith
namespace Go.Proofs.Ythlkddaldeklcaa
open Go.RowKit

/-- A text without its last four bytes. -/
def body (s : ByteArray) : ByteArray := s.extract 0 (s.size - 4)

theorem unseal_short (s : ByteArray) (hs : s.size < 4) (w : World) : Calls Try.prog 15 #[.string s] w fun e w' => e = .returned (.tuple #[.string ByteArray.empty, .int .i64 3]) ∧ w = w' := by
  go_enter Try.func15, Try.ntmps15
  go_wp2
  go_ret2
  exact ⟨rfl, rfl⟩

theorem toList_inj {a b : ByteArray} (h : a.toList = b.toList) : a = b := by
  rw [ByteArray.toList_eq, ByteArray.toList_eq] at h
  exact ByteArray.ext (Array.toList_inj.1 h)

theorem unseal_yes (s : ByteArray) (h4 : 4 ≤ s.size) (hs : s.size ≤ 1000000) (he : s.extract (s.size - 4) s.size = tl (body s)) (w : World) :
    Calls Try.prog 15 #[.string s] w fun e w' => e = .returned (.tuple #[.string (body s), .int .i64 0]) ∧ Below w.heap.size w w' := by
  have hsz : (s.extract 0 (s.size - 4)).size = s.size - 4 := by rw [ByteArray.size_extract]; omega
  have he' : (!(s.extract (s.size - 4) s.size).toList == (tl (s.extract 0 (s.size - 4))).toList) = false := by
    rw [he]; simp [body]
  unfold body
  clear he
  go_enter Try.func15, Try.ntmps15
  go_wp2_with fail
  go_region_with ((go_at_call 20; refine (tail_own _ ?_ _).mono ?_; (rw [hsz]; unfold maxLen; omega); rintro e w1 ⟨rfl, hb1⟩))
  all_goals go_wp2
  all_goals go_ret2
  all_goals exact ⟨rfl, (Below.refl _ w).drew.trans hb1⟩

theorem unseal_no (s : ByteArray) (h4 : 4 ≤ s.size) (hs : s.size ≤ 1000000) (he : ¬ s.extract (s.size - 4) s.size = tl (body s)) (w : World) :
    Calls Try.prog 15 #[.string s] w fun e w' => e = .returned (.tuple #[.string ByteArray.empty, .int .i64 11]) ∧ Below w.heap.size w w' := by
  have hsz : (s.extract 0 (s.size - 4)).size = s.size - 4 := by rw [ByteArray.size_extract]; omega
  have he' : (!(s.extract (s.size - 4) s.size).toList == (tl (s.extract 0 (s.size - 4))).toList) = true := by
    simp only [Bool.not_eq_true', beq_eq_false_iff_ne]
    exact fun h => he (toList_inj h)
  clear he
  go_enter Try.func15, Try.ntmps15
  go_wp2_with fail
  go_region_with ((go_at_call 20; refine (tail_own _ ?_ _).mono ?_; (rw [hsz]; unfold maxLen; omega); rintro e w1 ⟨rfl, hb1⟩))
  all_goals go_wp2
  all_goals go_ret2
  all_goals exact ⟨rfl, (Below.refl _ w).drew.trans hb1⟩

theorem unref_short (s : ByteArray) (hs : s.size < 4) (w : World) : Calls Try.prog 16 #[.string s] w fun e w' => e = .returned (.tuple #[.string ByteArray.empty, .int .i64 3]) ∧ w = w' := by
  go_enter Try.func16, Try.ntmps16
  go_wp2
  go_ret2
  exact ⟨rfl, rfl⟩

theorem unref_yes (s : ByteArray) (h4 : 4 ≤ s.size) (hs : s.size ≤ 1000000) (he : s = body s ++ tl (body s)) (w : World) :
    Calls Try.prog 16 #[.string s] w fun e w' => e = .returned (.tuple #[.string (body s), .int .i64 0]) ∧ Below w.heap.size w w' := by
  have hsz : (s.extract 0 (s.size - 4)).size = s.size - 4 := by rw [ByteArray.size_extract]; omega
  have he' : (!s.toList == (s.extract 0 (s.size - 4) ++ tl (s.extract 0 (s.size - 4))).toList) = false := by
    have : s.extract 0 (s.size - 4) ++ tl (s.extract 0 (s.size - 4)) = s := he.symm
    rw [this]; simp
  unfold body
  clear he
  go_enter Try.func16, Try.ntmps16
  go_wp2_with fail
  refine (seal_ref _ (by omega) _).mono ?_
  rintro e w1 ⟨rfl, hb1⟩
  go_wp2
  go_ret2
  exact ⟨rfl, hb1⟩

theorem unref_no (s : ByteArray) (h4 : 4 ≤ s.size) (hs : s.size ≤ 1000000) (he : ¬ s = body s ++ tl (body s)) (w : World) :
    Calls Try.prog 16 #[.string s] w fun e w' => e = .returned (.tuple #[.string ByteArray.empty, .int .i64 11]) ∧ Below w.heap.size w w' := by
  have hsz : (s.extract 0 (s.size - 4)).size = s.size - 4 := by rw [ByteArray.size_extract]; omega
  have he' : (!s.toList == (s.extract 0 (s.size - 4) ++ tl (s.extract 0 (s.size - 4))).toList) = true := by
    simp only [Bool.not_eq_true', beq_eq_false_iff_ne]
    exact fun h => he (toList_inj h)
  clear he
  go_enter Try.func16, Try.ntmps16
  go_wp2_with fail
  refine (seal_ref _ (by omega) _).mono ?_
  rintro e w1 ⟨rfl, hb1⟩
  go_wp2
  go_ret2
  exact ⟨rfl, hb1⟩

/-! ### plain facts -/
theorem split4 (s : ByteArray) : s = body s ++ s.extract (s.size - 4) s.size := by
  apply ByteArray.ext
  apply Array.toList_inj.1
  simp [body]
theorem append_inj {a b c : ByteArray} (h : a ++ b = a ++ c) : b = c := by
  have h' : (a ++ b).data.toList = (a ++ c).data.toList := by rw [h]
  apply ByteArray.ext
  apply Array.toList_inj.1
  simpa using h'
theorem seal_iff (s : ByteArray) : (s = body s ++ tl (body s)) ↔ s.extract (s.size - 4) s.size = tl (body s) := by
  constructor
  · intro h
    exact append_inj ((split4 s).symm.trans h)
  · intro h
    rw [← h]; exact split4 s
theorem body_seal (s t : ByteArray) (ht : t.size = 4) : body (s ++ t) = s := by
  apply ByteArray.ext
  apply Array.toList_inj.1
  simp only [body, ByteArray.size_append, ht]
  simp [List.take_of_length_le]
theorem rest_seal (s t : ByteArray) (ht : t.size = 4) : (s ++ t).extract ((s ++ t).size - 4) (s ++ t).size = t := by
  apply ByteArray.ext
  apply Array.toList_inj.1
  simp [ht]
  exact List.take_of_length_le (by simp [ht])
theorem size_seal (s : ByteArray) : (s ++ tl s).size = s.size + 4 := by rw [ByteArray.size_append, tl_size]
end Go.Proofs.Ythlkddaldeklcaa
