/-
  What times and doublings leave; row of numbers of the call's own.
-/
import Derived.Test.YtjkbhmlpmapobaaW8
namespace Go.Proofs.Ytjkbhmlpmapobaa
open Go.RowKit

/-- What times and doublings leave. -/
def Inw (y : S) : Prop := chk y = 0 ∧ ((y.k = true ∧ y.s ≤ 524288 ∧ y.v ≤ 262147) ∨ (y.k = false ∧ y.s = 0 ∧ y.v = 0))
theorem exps_eq {y : S} (hc : chk y = 0) : exps y = { y with h := min 6 (y.h + 1) } := by unfold exps; rw [if_pos hc]
theorem chk_exps {y : S} (hc : chk y = 0) : chk (exps y) = 0 := by
  rw [exps_eq hc]
  obtain ⟨p1, p2, p3, p4, p5, p6, p7⟩ := chk_ok hc
  unfold chk
  rw [if_neg (by simp only; omega), if_neg ?_]
  rintro ⟨a, b⟩
  have := p7 a
  simp only at b
  omega
theorem inw_exps {y : S} (h : Inw y) : Inw (exps y) := by
  refine ⟨chk_exps h.1, ?_⟩
  rw [exps_eq h.1]
  exact h.2
theorem inw_smp {y : S} (h : Inw y) {t : Int} (t0 : 0 ≤ t) (t1 : t ≤ 65535) : Inw (smp y t) := by
  obtain ⟨hc, h⟩ := h
  obtain ⟨p1, p2, p3, p4, -⟩ := chk_ok hc
  rcases h with ⟨hk, hs, hv⟩ | ⟨hk, hs, hv⟩
  · rw [smp_yes hc t0 (by omega) hk]
    exact ⟨chk_known rfl (by simp only; omega) (by simp only; omega) (by simp only; omega) (by simp only; omega) (by simp) (by simp), .inl ⟨rfl, by simp only; omega, by simp only; omega⟩⟩
  · rw [smp_new hc t0 (by omega) (by rw [hk]; simp)]
    exact ⟨chk_known rfl (by simp only; omega) (by simp only; omega) (by simp only; omega) (by simp only; omega) (by simp) (by simp), .inl ⟨rfl, by simp only; omega, by simp only; omega⟩⟩
theorem inw_runs {y : S} (h : Inw y) (zs : List Int) (hz : ∀ z ∈ zs, z ≤ 65535) : Inw (runs y zs) := by
  induction zs generalizing y with
  | nil => exact h
  | cons z zs ih =>
    have : runs y (z :: zs) = runs (run1 y z) zs := rfl
    rw [this]
    refine ih ?_ fun z hz' => hz z (List.mem_cons_of_mem _ hz')
    unfold run1
    split
    · exact inw_exps h
    · exact inw_smp h (by omega) (hz z List.mem_cons_self)
theorem runs_append (x : S) (a b : List Int) : runs x (a ++ b) = runs (runs x a) b := by simp [runs]
theorem smp_exps {y : S} (hc : chk y = 0) {t : Int} (t0 : 0 ≤ t) (t1 : t ≤ 65536) : smp (exps y) t = smp y t := by
  have hc' := chk_exps hc
  by_cases hk : y.k = true
  · rw [smp_yes hc t0 t1 hk, smp_yes hc' t0 t1 (by rw [exps_eq hc]; exact hk), exps_eq hc]
  · rw [smp_new hc t0 t1 hk, smp_new hc' t0 t1 (by rw [exps_eq hc]; exact hk)]
theorem smp_after {y : S} (hc : chk y = 0) {t : Int} (t0 : 0 ≤ t) (t1 : t ≤ 65536) : (smp y t).k = true ∧ (smp y t).h = 0 := by
  by_cases hk : y.k = true
  · rw [smp_yes hc t0 t1 hk]; exact ⟨rfl, rfl⟩
  · rw [smp_new hc t0 t1 hk]; exact ⟨rfl, rfl⟩
theorem inw_new : Inw ⟨0, 0, false, 0⟩ := ⟨by decide, .inr ⟨rfl, rfl, rfl⟩⟩
end Go.Proofs.Ytjkbhmlpmapobaa
