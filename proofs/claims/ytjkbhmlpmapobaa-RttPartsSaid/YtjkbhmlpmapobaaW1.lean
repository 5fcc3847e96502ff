/-
  The walks of layer 8's functions: whether a state may be, a doubling, a wait.
-/
import Derived.Test.YtjkbhmlpmapobaaKit
namespace Go.Proofs.Ytjkbhmlpmapobaa
open Go.RowKit

/-- Two steps of a call: what was there below the first world's end is as it was. -/
theorem bt {w a b : World} (h : Below w.heap.size w a) (k : Below a.heap.size a b) : Below w.heap.size w b := h.trans (k.mono h.size)

/-- A state of waits. -/
structure S where
  s : Int
  v : Int
  k : Bool
  h : Int
deriving DecidableEq
/-- The same, as the program has it. -/
def S.val (x : S) : Value := .agg #[.int .i64 x.s, .int .i64 x.v, .bool x.k, .int .i64 x.h]
/-- Its cells. -/
def S.obj (x : S) (t : Nat) : Obj := .cells #[.int .i64 x.s, .int .i64 x.v, .bool x.k, .int .i64 x.h] t

/-- May a state be? -/
def chk (x : S) : Int :=
  if x.s < 0 ∨ 1048576 < x.s ∨ x.v < 0 ∨ 1048576 < x.v ∨ x.h < 0 ∨ 6 < x.h then 8 else if x.k = false ∧ (x.s ≠ 0 ∨ x.v ≠ 0) then 4 else 0

theorem check_own (s v : Int) (k : Bool) (h : Int) (w : World) : Calls Try.prog 8 #[.agg #[.int .i64 s, .int .i64 v, .bool k, .int .i64 h]] w fun e w' => e = .returned (.int .i64 (chk ⟨s, v, k, h⟩)) ∧ w.alloc (.cells #[.int .i64 s, .int .i64 v, .bool k, .int .i64 h] 26) = w' := by
  go_enter Try.func8, Try.ntmps8
  go_wp2
  all_goals go_ret
  all_goals refine ⟨ret_int ?_, by simp_all⟩
  all_goals simp only [chk]
  all_goals first
    | rw [if_pos (by omega)]
    | (rw [if_neg (by omega)]; split <;> simp_all)

theorem check_ref (s v : Int) (k : Bool) (h : Int) (w : World) : Calls Try.prog 9 #[.agg #[.int .i64 s, .int .i64 v, .bool k, .int .i64 h]] w fun e w' => e = .returned (.int .i64 (chk ⟨s, v, k, h⟩)) ∧ w.alloc (.cells #[.int .i64 s, .int .i64 v, .bool k, .int .i64 h] 23) = w' := by
  go_enter Try.func9, Try.ntmps9
  go_wp2
  all_goals go_ret
  all_goals refine ⟨ret_int ?_, by simp_all⟩
  all_goals simp only [chk]
  all_goals first
    | rw [if_pos (by omega)]
    | (rw [if_neg (by omega)]; split <;> simp_all)

theorem chk_ok {x : S} (hc : chk x = 0) : 0 ≤ x.s ∧ x.s ≤ 1048576 ∧ 0 ≤ x.v ∧ x.v ≤ 1048576 ∧ 0 ≤ x.h ∧ x.h ≤ 6 ∧ (x.k = false → x.s = 0 ∧ x.v = 0) := by
  unfold chk at hc
  split at hc
  · cases hc
  · split at hc
    · cases hc
    · rename_i h1 h2
      refine ⟨by omega, by omega, by omega, by omega, by omega, by omega, fun hk => ?_⟩
      exact ⟨Decidable.byContradiction fun hn => h2 ⟨hk, .inl hn⟩, Decidable.byContradiction fun hn => h2 ⟨hk, .inr hn⟩⟩

/-- Doubled. -/
def exps (x : S) : S := if chk x = 0 then { x with h := min 6 (x.h + 1) } else x

theorem expire_own (x : S) (w : World) :
    Calls Try.prog 12 #[.agg #[.int .i64 x.s, .int .i64 x.v, .bool x.k, .int .i64 x.h]] w fun e w' => e = .returned (.agg #[.int .i64 (exps x).s, .int .i64 (exps x).v, .bool (exps x).k, .int .i64 (exps x).h]) ∧ Below w.heap.size w w' := by
  by_cases hc : chk x = 0
  · have he : exps x = { x with h := min 6 (x.h + 1) } := by unfold exps; rw [if_pos hc]
    rw [he]
    obtain ⟨h1, h2, h3, h4, h5, h6, -⟩ := chk_ok hc
    obtain ⟨s, v, k, q⟩ := x
    simp only [] at h1 h2 h3 h4 h5 h6
    clear he
    go_enter Try.func12, Try.ntmps12
    go_wp2_with (go_at_call 8; refine (check_own _ _ _ _ _).mono ?_; rintro e w1 ⟨rfl, rfl⟩)
    all_goals
      refine bodyPost_ret (v := .agg #[.int .i64 s, .int .i64 v, .bool k, .int .i64 (min 6 (q + 1))]) ?_ rfl ⟨rfl, by repeat (first | exact Below.refl _ _ | refine Below.alloc ?_ (by first | (simp; done) | (simp; omega)) _)⟩
      simp [results, Try.results12, go_sem]
      try omega
  · have he : exps x = x := by unfold exps; rw [if_neg hc]
    rw [he]
    obtain ⟨s, v, k, q⟩ := x
    have hb : (chk ⟨s, v, k, q⟩ == 0) = false := by simp [hc]
    clear he
    go_enter Try.func12, Try.ntmps12
    go_wp2_with (go_at_call 8; refine (check_own _ _ _ _ _).mono ?_; rintro e w1 ⟨rfl, rfl⟩)
    refine bodyPost_ret (v := .agg #[.int .i64 s, .int .i64 v, .bool k, .int .i64 q]) (by simp [results, Try.results12, go_sem]) rfl ⟨rfl, by repeat (first | exact Below.refl _ _ | refine Below.alloc ?_ (by first | (simp; done) | (simp; omega)) _)⟩

theorem expire_ref (x : S) (w : World) :
    Calls Try.prog 13 #[.agg #[.int .i64 x.s, .int .i64 x.v, .bool x.k, .int .i64 x.h]] w fun e w' => e = .returned (.agg #[.int .i64 (exps x).s, .int .i64 (exps x).v, .bool (exps x).k, .int .i64 (exps x).h]) ∧ Below w.heap.size w w' := by
  by_cases hc : chk x = 0
  · have he : exps x = { x with h := min 6 (x.h + 1) } := by unfold exps; rw [if_pos hc]
    rw [he]
    obtain ⟨h1, h2, h3, h4, h5, h6, -⟩ := chk_ok hc
    obtain ⟨s, v, k, q⟩ := x
    simp only [] at h1 h2 h3 h4 h5 h6
    clear he
    go_enter Try.func13, Try.ntmps13
    go_wp2_with (go_at_call 9; refine (check_ref _ _ _ _ _).mono ?_; rintro e w1 ⟨rfl, rfl⟩)
    all_goals
      refine bodyPost_ret (v := .agg #[.int .i64 s, .int .i64 v, .bool k, .int .i64 (min 6 (q + 1))]) ?_ rfl ⟨rfl, by repeat (first | exact Below.refl _ _ | refine Below.alloc ?_ (by first | (simp; done) | (simp; omega)) _)⟩
      simp [results, Try.results13, go_sem]
      try omega
  · have he : exps x = x := by unfold exps; rw [if_neg hc]
    rw [he]
    obtain ⟨s, v, k, q⟩ := x
    have hb : (chk ⟨s, v, k, q⟩ == 0) = false := by simp [hc]
    clear he
    go_enter Try.func13, Try.ntmps13
    go_wp2_with (go_at_call 9; refine (check_ref _ _ _ _ _).mono ?_; rintro e w1 ⟨rfl, rfl⟩)
    refine bodyPost_ret (v := .agg #[.int .i64 s, .int .i64 v, .bool k, .int .i64 q]) (by simp [results, Try.results13, go_sem]) rfl ⟨rfl, by repeat (first | exact Below.refl _ _ | refine Below.alloc ?_ (by first | (simp; done) | (simp; omega)) _)⟩
end Go.Proofs.Ytjkbhmlpmapobaa
