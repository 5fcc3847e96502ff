/-
  The walks of layer 21's functions: what is given, comes, is read, is granted.
-/
import Derived.Test.YtdonkkcdjbjkeaaW2
namespace Go.Proofs.Ytdonkkcdjbjkeaa
open Go.RowKit

set_option maxHeartbeats 1000000 in
theorem given_own (g : G) (n : Int) (w : World) :
    Calls Try.prog 25 #[.agg #[.int .i64 g.w, .int .i64 g.l, .int .i64 g.u, .int .i64 g.r], .int .i64 n] w fun e w' => e = .returned (.tuple #[.agg #[.int .i64 (given g n).1.w, .int .i64 (given g n).1.l, .int .i64 (given g n).1.u, .int .i64 (given g n).1.r], .bool (given g n).2]) ∧ Below w.heap.size w w' := by
  obtain ⟨a, b, c, d⟩ := g
  obtain ⟨x, hx⟩ : ∃ x, x = given ⟨a, b, c, d⟩ n := ⟨_, rfl⟩
  rw [← hx]
  have HX := Lib.hid hx
  clear hx
  by_cases hc : chk ⟨a, b, c, d⟩ = 0
  · obtain ⟨b1, b2, b3, b4, b5, b6, b7, b8⟩ := chk_ok hc
    simp only [] at b1 b2 b3 b4 b5 b6 b7 b8
    have hb : (chk ⟨a, b, c, d⟩ != 0) = false := by simp [hc]
    have hb' : (chk ⟨a, b, c, d⟩ == 0) = true := by simp [hc]
    have HC := Lib.hid hc
    clear hc
    go_enter Try.func25, Try.ntmps25
    go_wp2_with (first | (go_at_call 15; refine (check_own _ _ _ _ _).mono ?_; rintro e w1 ⟨rfl, rfl⟩) | (go_at_call 13; refine (free_own _ _ _ _ _).mono ?_; (first | rw [fre_yes HC.out] | rw [fre_no HC.out]); rintro e w1 ⟨rfl, rfl⟩))
    all_goals
      have hx := HX.out
      have hc := HC.out
      unfold given at hx
      simp only [] at hx
      first
        | rw [if_pos (by first | exact hc | (refine ⟨hc, ?_⟩; omega))] at hx
        | rw [if_neg (by omega)] at hx
      subst hx
      refine bodyPost_ret ?_ rfl ⟨rfl, by repeat (first | exact Below.refl _ _ | refine Below.setCell ?_ (by first | (simp; done) | (simp; omega)) _ | refine Below.alloc ?_ (by first | (simp; done) | (simp; omega)) _)⟩
      simp [results, Try.results25, go_sem]
      try omega
  · have hb : (chk ⟨a, b, c, d⟩ != 0) = true := by simp [hc]
    have hb' : (chk ⟨a, b, c, d⟩ == 0) = false := by simp [hc]
    have HC := Lib.hid hc
    clear hc
    go_enter Try.func25, Try.ntmps25
    go_wp2_with (first | (go_at_call 15; refine (check_own _ _ _ _ _).mono ?_; rintro e w1 ⟨rfl, rfl⟩) | (go_at_call 13; refine (free_own _ _ _ _ _).mono ?_; (first | rw [fre_yes HC.out] | rw [fre_no HC.out]); rintro e w1 ⟨rfl, rfl⟩))
    all_goals
      have hx := HX.out
      have hc := HC.out
      unfold given at hx
      rw [if_neg (by omega)] at hx
      subst hx
      refine bodyPost_ret ?_ rfl ⟨rfl, by repeat (first | exact Below.refl _ _ | refine Below.setCell ?_ (by first | (simp; done) | (simp; omega)) _ | refine Below.alloc ?_ (by first | (simp; done) | (simp; omega)) _)⟩
      simp [results, Try.results25, go_sem]
      try omega
set_option maxHeartbeats 1000000 in
theorem given_ref (g : G) (n : Int) (w : World) :
    Calls Try.prog 29 #[.agg #[.int .i64 g.w, .int .i64 g.l, .int .i64 g.u, .int .i64 g.r], .int .i64 n] w fun e w' => e = .returned (.tuple #[.agg #[.int .i64 (given g n).1.w, .int .i64 (given g n).1.l, .int .i64 (given g n).1.u, .int .i64 (given g n).1.r], .bool (given g n).2]) ∧ Below w.heap.size w w' := by
  obtain ⟨a, b, c, d⟩ := g
  obtain ⟨x, hx⟩ : ∃ x, x = given ⟨a, b, c, d⟩ n := ⟨_, rfl⟩
  rw [← hx]
  have HX := Lib.hid hx
  clear hx
  by_cases hc : chk ⟨a, b, c, d⟩ = 0
  · obtain ⟨b1, b2, b3, b4, b5, b6, b7, b8⟩ := chk_ok hc
    simp only [] at b1 b2 b3 b4 b5 b6 b7 b8
    have hb : (chk ⟨a, b, c, d⟩ != 0) = false := by simp [hc]
    have hb' : (chk ⟨a, b, c, d⟩ == 0) = true := by simp [hc]
    have HC := Lib.hid hc
    clear hc
    go_enter Try.func29, Try.ntmps29
    go_wp2_with (first | (go_at_call 16; refine (check_ref _ _ _ _ _).mono ?_; rintro e w1 ⟨rfl, rfl⟩) | (go_at_call 14; refine (free_ref _ _ _ _ _).mono ?_; (first | rw [fre_yes HC.out] | rw [fre_no HC.out]); rintro e w1 ⟨rfl, rfl⟩))
    all_goals
      have hx := HX.out
      have hc := HC.out
      unfold given at hx
      simp only [] at hx
      first
        | rw [if_pos (by first | exact hc | (refine ⟨hc, ?_⟩; omega))] at hx
        | rw [if_neg (by omega)] at hx
      subst hx
      refine bodyPost_ret ?_ rfl ⟨rfl, by repeat (first | exact Below.refl _ _ | refine Below.setCell ?_ (by first | (simp; done) | (simp; omega)) _ | refine Below.alloc ?_ (by first | (simp; done) | (simp; omega)) _)⟩
      simp [results, Try.results29, go_sem]
      try omega
  · have hb : (chk ⟨a, b, c, d⟩ != 0) = true := by simp [hc]
    have hb' : (chk ⟨a, b, c, d⟩ == 0) = false := by simp [hc]
    have HC := Lib.hid hc
    clear hc
    go_enter Try.func29, Try.ntmps29
    go_wp2_with (first | (go_at_call 16; refine (check_ref _ _ _ _ _).mono ?_; rintro e w1 ⟨rfl, rfl⟩) | (go_at_call 14; refine (free_ref _ _ _ _ _).mono ?_; (first | rw [fre_yes HC.out] | rw [fre_no HC.out]); rintro e w1 ⟨rfl, rfl⟩))
    all_goals
      have hx := HX.out
      have hc := HC.out
      unfold given at hx
      rw [if_neg (by omega)] at hx
      subst hx
      refine bodyPost_ret ?_ rfl ⟨rfl, by repeat (first | exact Below.refl _ _ | refine Below.setCell ?_ (by first | (simp; done) | (simp; omega)) _ | refine Below.alloc ?_ (by first | (simp; done) | (simp; omega)) _)⟩
      simp [results, Try.results29, go_sem]
      try omega
set_option maxHeartbeats 1000000 in
theorem reach_own (g : G) (n : Int) (w : World) :
    Calls Try.prog 19 #[.agg #[.int .i64 g.w, .int .i64 g.l, .int .i64 g.u, .int .i64 g.r], .int .i64 n] w fun e w' => e = .returned (.tuple #[.agg #[.int .i64 (reach g n).1.w, .int .i64 (reach g n).1.l, .int .i64 (reach g n).1.u, .int .i64 (reach g n).1.r], .int .i64 (reach g n).2.1, .bool (reach g n).2.2]) ∧ Below w.heap.size w w' := by
  obtain ⟨a, b, c, d⟩ := g
  obtain ⟨x, hx⟩ : ∃ x, x = reach ⟨a, b, c, d⟩ n := ⟨_, rfl⟩
  rw [← hx]
  have HX := Lib.hid hx
  clear hx
  by_cases hc : chk ⟨a, b, c, d⟩ = 0
  · obtain ⟨b1, b2, b3, b4, b5, b6, b7, b8⟩ := chk_ok hc
    simp only [] at b1 b2 b3 b4 b5 b6 b7 b8
    have hb : (chk ⟨a, b, c, d⟩ != 0) = false := by simp [hc]
    have hb' : (chk ⟨a, b, c, d⟩ == 0) = true := by simp [hc]
    have HC := Lib.hid hc
    clear hc
    go_enter Try.func19, Try.ntmps19
    go_wp2_with (first | (go_at_call 15; refine (check_own _ _ _ _ _).mono ?_; rintro e w1 ⟨rfl, rfl⟩) | (go_at_call 13; refine (free_own _ _ _ _ _).mono ?_; (first | rw [fre_yes HC.out] | rw [fre_no HC.out]); rintro e w1 ⟨rfl, rfl⟩))
    all_goals
      have hx := HX.out
      have hc := HC.out
      unfold reach at hx
      simp only [] at hx
      first
        | rw [if_pos (by first | exact hc | (refine ⟨hc, ?_⟩; omega))] at hx
        | rw [if_neg (by omega)] at hx
      subst hx
      refine bodyPost_ret ?_ rfl ⟨rfl, by repeat (first | exact Below.refl _ _ | refine Below.setCell ?_ (by first | (simp; done) | (simp; omega)) _ | refine Below.alloc ?_ (by first | (simp; done) | (simp; omega)) _)⟩
      simp [results, Try.results19, go_sem]
      try omega
  · have hb : (chk ⟨a, b, c, d⟩ != 0) = true := by simp [hc]
    have hb' : (chk ⟨a, b, c, d⟩ == 0) = false := by simp [hc]
    have HC := Lib.hid hc
    clear hc
    go_enter Try.func19, Try.ntmps19
    go_wp2_with (first | (go_at_call 15; refine (check_own _ _ _ _ _).mono ?_; rintro e w1 ⟨rfl, rfl⟩) | (go_at_call 13; refine (free_own _ _ _ _ _).mono ?_; (first | rw [fre_yes HC.out] | rw [fre_no HC.out]); rintro e w1 ⟨rfl, rfl⟩))
    all_goals
      have hx := HX.out
      have hc := HC.out
      unfold reach at hx
      rw [if_neg (by omega)] at hx
      subst hx
      refine bodyPost_ret ?_ rfl ⟨rfl, by repeat (first | exact Below.refl _ _ | refine Below.setCell ?_ (by first | (simp; done) | (simp; omega)) _ | refine Below.alloc ?_ (by first | (simp; done) | (simp; omega)) _)⟩
      simp [results, Try.results19, go_sem]
      try omega
set_option maxHeartbeats 1000000 in
theorem reach_ref (g : G) (n : Int) (w : World) :
    Calls Try.prog 20 #[.agg #[.int .i64 g.w, .int .i64 g.l, .int .i64 g.u, .int .i64 g.r], .int .i64 n] w fun e w' => e = .returned (.tuple #[.agg #[.int .i64 (reach g n).1.w, .int .i64 (reach g n).1.l, .int .i64 (reach g n).1.u, .int .i64 (reach g n).1.r], .int .i64 (reach g n).2.1, .bool (reach g n).2.2]) ∧ Below w.heap.size w w' := by
  obtain ⟨a, b, c, d⟩ := g
  obtain ⟨x, hx⟩ : ∃ x, x = reach ⟨a, b, c, d⟩ n := ⟨_, rfl⟩
  rw [← hx]
  have HX := Lib.hid hx
  clear hx
  by_cases hc : chk ⟨a, b, c, d⟩ = 0
  · obtain ⟨b1, b2, b3, b4, b5, b6, b7, b8⟩ := chk_ok hc
    simp only [] at b1 b2 b3 b4 b5 b6 b7 b8
    have hb : (chk ⟨a, b, c, d⟩ != 0) = false := by simp [hc]
    have hb' : (chk ⟨a, b, c, d⟩ == 0) = true := by simp [hc]
    have HC := Lib.hid hc
    clear hc
    go_enter Try.func20, Try.ntmps20
    go_wp2_with (first | (go_at_call 16; refine (check_ref _ _ _ _ _).mono ?_; rintro e w1 ⟨rfl, rfl⟩) | (go_at_call 14; refine (free_ref _ _ _ _ _).mono ?_; (first | rw [fre_yes HC.out] | rw [fre_no HC.out]); rintro e w1 ⟨rfl, rfl⟩))
    all_goals
      have hx := HX.out
      have hc := HC.out
      unfold reach at hx
      simp only [] at hx
      first
        | rw [if_pos (by first | exact hc | (refine ⟨hc, ?_⟩; omega))] at hx
        | rw [if_neg (by omega)] at hx
      subst hx
      refine bodyPost_ret ?_ rfl ⟨rfl, by repeat (first | exact Below.refl _ _ | refine Below.setCell ?_ (by first | (simp; done) | (simp; omega)) _ | refine Below.alloc ?_ (by first | (simp; done) | (simp; omega)) _)⟩
      simp [results, Try.results20, go_sem]
      try omega
  · have hb : (chk ⟨a, b, c, d⟩ != 0) = true := by simp [hc]
    have hb' : (chk ⟨a, b, c, d⟩ == 0) = false := by simp [hc]
    have HC := Lib.hid hc
    clear hc
    go_enter Try.func20, Try.ntmps20
    go_wp2_with (first | (go_at_call 16; refine (check_ref _ _ _ _ _).mono ?_; rintro e w1 ⟨rfl, rfl⟩) | (go_at_call 14; refine (free_ref _ _ _ _ _).mono ?_; (first | rw [fre_yes HC.out] | rw [fre_no HC.out]); rintro e w1 ⟨rfl, rfl⟩))
    all_goals
      have hx := HX.out
      have hc := HC.out
      unfold reach at hx
      rw [if_neg (by omega)] at hx
      subst hx
      refine bodyPost_ret ?_ rfl ⟨rfl, by repeat (first | exact Below.refl _ _ | refine Below.setCell ?_ (by first | (simp; done) | (simp; omega)) _ | refine Below.alloc ?_ (by first | (simp; done) | (simp; omega)) _)⟩
      simp [results, Try.results20, go_sem]
      try omega
set_option maxHeartbeats 1000000 in
theorem eat_own (g : G) (n : Int) (w : World) (hn : (Lit.int .i64 n).wf = true) :
    Calls Try.prog 22 #[.agg #[.int .i64 g.w, .int .i64 g.l, .int .i64 g.u, .int .i64 g.r], .int .i64 n] w fun e w' => e = .returned (.agg #[.int .i64 (eat g n).w, .int .i64 (eat g n).l, .int .i64 (eat g n).u, .int .i64 (eat g n).r]) ∧ Below w.heap.size w w' := by
  obtain ⟨a, b, c, d⟩ := g
  obtain ⟨x, hx⟩ : ∃ x, x = eat ⟨a, b, c, d⟩ n := ⟨_, rfl⟩
  rw [← hx]
  have HX := Lib.hid hx
  clear hx
  obtain ⟨n1, n2⟩ := wf_i64 hn
  clear hn
  by_cases hc : chk ⟨a, b, c, d⟩ = 0
  · obtain ⟨b1, b2, b3, b4, b5, b6, b7, b8⟩ := chk_ok hc
    simp only [] at b1 b2 b3 b4 b5 b6 b7 b8
    have hb : (chk ⟨a, b, c, d⟩ != 0) = false := by simp [hc]
    have hb' : (chk ⟨a, b, c, d⟩ == 0) = true := by simp [hc]
    have HC := Lib.hid hc
    clear hc
    go_enter Try.func22, Try.ntmps22
    go_wp2_with (first | (go_at_call 15; refine (check_own _ _ _ _ _).mono ?_; rintro e w1 ⟨rfl, rfl⟩) | (go_at_call 13; refine (free_own _ _ _ _ _).mono ?_; (first | rw [fre_yes HC.out] | rw [fre_no HC.out]); rintro e w1 ⟨rfl, rfl⟩))
    all_goals
      have hx := HX.out
      have hc := HC.out
      unfold eat at hx
      simp only [] at hx
      first
        | rw [if_pos (by first | exact hc | (refine ⟨hc, ?_⟩; omega))] at hx
        | rw [if_neg (by omega)] at hx
      subst hx
      refine bodyPost_ret ?_ rfl ⟨rfl, by repeat (first | exact Below.refl _ _ | refine Below.setCell ?_ (by first | (simp; done) | (simp; omega)) _ | refine Below.alloc ?_ (by first | (simp; done) | (simp; omega)) _)⟩
      simp [results, Try.results22, go_sem]
      try omega
  · have hb : (chk ⟨a, b, c, d⟩ != 0) = true := by simp [hc]
    have hb' : (chk ⟨a, b, c, d⟩ == 0) = false := by simp [hc]
    have HC := Lib.hid hc
    clear hc
    go_enter Try.func22, Try.ntmps22
    go_wp2_with (first | (go_at_call 15; refine (check_own _ _ _ _ _).mono ?_; rintro e w1 ⟨rfl, rfl⟩) | (go_at_call 13; refine (free_own _ _ _ _ _).mono ?_; (first | rw [fre_yes HC.out] | rw [fre_no HC.out]); rintro e w1 ⟨rfl, rfl⟩))
    all_goals
      have hx := HX.out
      have hc := HC.out
      unfold eat at hx
      rw [if_neg (by omega)] at hx
      subst hx
      refine bodyPost_ret ?_ rfl ⟨rfl, by repeat (first | exact Below.refl _ _ | refine Below.setCell ?_ (by first | (simp; done) | (simp; omega)) _ | refine Below.alloc ?_ (by first | (simp; done) | (simp; omega)) _)⟩
      simp [results, Try.results22, go_sem]
      try omega
set_option maxHeartbeats 1000000 in
theorem eat_ref (g : G) (n : Int) (w : World) (hn : (Lit.int .i64 n).wf = true) :
    Calls Try.prog 24 #[.agg #[.int .i64 g.w, .int .i64 g.l, .int .i64 g.u, .int .i64 g.r], .int .i64 n] w fun e w' => e = .returned (.agg #[.int .i64 (eat g n).w, .int .i64 (eat g n).l, .int .i64 (eat g n).u, .int .i64 (eat g n).r]) ∧ Below w.heap.size w w' := by
  obtain ⟨a, b, c, d⟩ := g
  obtain ⟨x, hx⟩ : ∃ x, x = eat ⟨a, b, c, d⟩ n := ⟨_, rfl⟩
  rw [← hx]
  have HX := Lib.hid hx
  clear hx
  obtain ⟨n1, n2⟩ := wf_i64 hn
  clear hn
  by_cases hc : chk ⟨a, b, c, d⟩ = 0
  · obtain ⟨b1, b2, b3, b4, b5, b6, b7, b8⟩ := chk_ok hc
    simp only [] at b1 b2 b3 b4 b5 b6 b7 b8
    have hb : (chk ⟨a, b, c, d⟩ != 0) = false := by simp [hc]
    have hb' : (chk ⟨a, b, c, d⟩ == 0) = true := by simp [hc]
    have HC := Lib.hid hc
    clear hc
    go_enter Try.func24, Try.ntmps24
    go_wp2_with (first | (go_at_call 16; refine (check_ref _ _ _ _ _).mono ?_; rintro e w1 ⟨rfl, rfl⟩) | (go_at_call 14; refine (free_ref _ _ _ _ _).mono ?_; (first | rw [fre_yes HC.out] | rw [fre_no HC.out]); rintro e w1 ⟨rfl, rfl⟩))
    all_goals
      have hx := HX.out
      have hc := HC.out
      unfold eat at hx
      simp only [] at hx
      first
        | rw [if_pos (by first | exact hc | (refine ⟨hc, ?_⟩; omega))] at hx
        | rw [if_neg (by omega)] at hx
      subst hx
      refine bodyPost_ret ?_ rfl ⟨rfl, by repeat (first | exact Below.refl _ _ | refine Below.setCell ?_ (by first | (simp; done) | (simp; omega)) _ | refine Below.alloc ?_ (by first | (simp; done) | (simp; omega)) _)⟩
      simp [results, Try.results24, go_sem]
      try omega
  · have hb : (chk ⟨a, b, c, d⟩ != 0) = true := by simp [hc]
    have hb' : (chk ⟨a, b, c, d⟩ == 0) = false := by simp [hc]
    have HC := Lib.hid hc
    clear hc
    go_enter Try.func24, Try.ntmps24
    go_wp2_with (first | (go_at_call 16; refine (check_ref _ _ _ _ _).mono ?_; rintro e w1 ⟨rfl, rfl⟩) | (go_at_call 14; refine (free_ref _ _ _ _ _).mono ?_; (first | rw [fre_yes HC.out] | rw [fre_no HC.out]); rintro e w1 ⟨rfl, rfl⟩))
    all_goals
      have hx := HX.out
      have hc := HC.out
      unfold eat at hx
      rw [if_neg (by omega)] at hx
      subst hx
      refine bodyPost_ret ?_ rfl ⟨rfl, by repeat (first | exact Below.refl _ _ | refine Below.setCell ?_ (by first | (simp; done) | (simp; omega)) _ | refine Below.alloc ?_ (by first | (simp; done) | (simp; omega)) _)⟩
      simp [results, Try.results24, go_sem]
      try omega
set_option maxHeartbeats 1000000 in
theorem grant_own (g : G) (w : World) :
    Calls Try.prog 21 #[.agg #[.int .i64 g.w, .int .i64 g.l, .int .i64 g.u, .int .i64 g.r]] w fun e w' => e = .returned (.tuple #[.agg #[.int .i64 (grant g).1.w, .int .i64 (grant g).1.l, .int .i64 (grant g).1.u, .int .i64 (grant g).1.r], .int .i64 (grant g).2]) ∧ Below w.heap.size w w' := by
  obtain ⟨a, b, c, d⟩ := g
  obtain ⟨x, hx⟩ : ∃ x, x = grant ⟨a, b, c, d⟩ := ⟨_, rfl⟩
  rw [← hx]
  have HX := Lib.hid hx
  clear hx
  by_cases hc : chk ⟨a, b, c, d⟩ = 0
  · obtain ⟨b1, b2, b3, b4, b5, b6, b7, b8⟩ := chk_ok hc
    simp only [] at b1 b2 b3 b4 b5 b6 b7 b8
    have hb : (chk ⟨a, b, c, d⟩ != 0) = false := by simp [hc]
    have hb' : (chk ⟨a, b, c, d⟩ == 0) = true := by simp [hc]
    have HC := Lib.hid hc
    clear hc
    by_cases hm : 1099511627776 < d + a
    all_goals
      go_enter Try.func21, Try.ntmps21
      go_wp2_with (first | (go_at_call 15; refine (check_own _ _ _ _ _).mono ?_; rintro e w1 ⟨rfl, rfl⟩) | (go_at_call 13; refine (free_own _ _ _ _ _).mono ?_; (first | rw [fre_yes HC.out] | rw [fre_no HC.out]); rintro e w1 ⟨rfl, rfl⟩))
      all_goals
        have hx := HX.out
        have hc := HC.out
        unfold grant more at hx
        simp only [] at hx
        first
          | rw [if_pos (by first | exact hc | (refine ⟨hc, ?_⟩; omega))] at hx
          | rw [if_neg (by omega)] at hx
        subst hx
        refine bodyPost_ret ?_ rfl ⟨rfl, by repeat (first | exact Below.refl _ _ | refine Below.setCell ?_ (by first | (simp; done) | (simp; omega)) _ | refine Below.alloc ?_ (by first | (simp; done) | (simp; omega)) _)⟩
        simp [results, Try.results21, go_sem]
        try omega
  · have hb : (chk ⟨a, b, c, d⟩ != 0) = true := by simp [hc]
    have hb' : (chk ⟨a, b, c, d⟩ == 0) = false := by simp [hc]
    have HC := Lib.hid hc
    clear hc
    go_enter Try.func21, Try.ntmps21
    go_wp2_with (first | (go_at_call 15; refine (check_own _ _ _ _ _).mono ?_; rintro e w1 ⟨rfl, rfl⟩) | (go_at_call 13; refine (free_own _ _ _ _ _).mono ?_; (first | rw [fre_yes HC.out] | rw [fre_no HC.out]); rintro e w1 ⟨rfl, rfl⟩))
    all_goals
      have hx := HX.out
      have hc := HC.out
      unfold grant more at hx
      rw [if_neg (by omega)] at hx
      subst hx
      refine bodyPost_ret ?_ rfl ⟨rfl, by repeat (first | exact Below.refl _ _ | refine Below.setCell ?_ (by first | (simp; done) | (simp; omega)) _ | refine Below.alloc ?_ (by first | (simp; done) | (simp; omega)) _)⟩
      simp [results, Try.results21, go_sem]
      try omega
set_option maxHeartbeats 1000000 in
theorem grant_ref (g : G) (w : World) :
    Calls Try.prog 23 #[.agg #[.int .i64 g.w, .int .i64 g.l, .int .i64 g.u, .int .i64 g.r]] w fun e w' => e = .returned (.tuple #[.agg #[.int .i64 (grant g).1.w, .int .i64 (grant g).1.l, .int .i64 (grant g).1.u, .int .i64 (grant g).1.r], .int .i64 (grant g).2]) ∧ Below w.heap.size w w' := by
  obtain ⟨a, b, c, d⟩ := g
  obtain ⟨x, hx⟩ : ∃ x, x = grant ⟨a, b, c, d⟩ := ⟨_, rfl⟩
  rw [← hx]
  have HX := Lib.hid hx
  clear hx
  by_cases hc : chk ⟨a, b, c, d⟩ = 0
  · obtain ⟨b1, b2, b3, b4, b5, b6, b7, b8⟩ := chk_ok hc
    simp only [] at b1 b2 b3 b4 b5 b6 b7 b8
    have hb : (chk ⟨a, b, c, d⟩ != 0) = false := by simp [hc]
    have hb' : (chk ⟨a, b, c, d⟩ == 0) = true := by simp [hc]
    have HC := Lib.hid hc
    clear hc
    by_cases hm : 1099511627776 < d + a
    all_goals
      go_enter Try.func23, Try.ntmps23
      go_wp2_with (first | (go_at_call 16; refine (check_ref _ _ _ _ _).mono ?_; rintro e w1 ⟨rfl, rfl⟩) | (go_at_call 14; refine (free_ref _ _ _ _ _).mono ?_; (first | rw [fre_yes HC.out] | rw [fre_no HC.out]); rintro e w1 ⟨rfl, rfl⟩))
      all_goals
        have hx := HX.out
        have hc := HC.out
        unfold grant more at hx
        simp only [] at hx
        first
          | rw [if_pos (by first | exact hc | (refine ⟨hc, ?_⟩; omega))] at hx
          | rw [if_neg (by omega)] at hx
        subst hx
        refine bodyPost_ret ?_ rfl ⟨rfl, by repeat (first | exact Below.refl _ _ | refine Below.setCell ?_ (by first | (simp; done) | (simp; omega)) _ | refine Below.alloc ?_ (by first | (simp; done) | (simp; omega)) _)⟩
        simp [results, Try.results23, go_sem]
        try omega
  · have hb : (chk ⟨a, b, c, d⟩ != 0) = true := by simp [hc]
    have hb' : (chk ⟨a, b, c, d⟩ == 0) = false := by simp [hc]
    have HC := Lib.hid hc
    clear hc
    go_enter Try.func23, Try.ntmps23
    go_wp2_with (first | (go_at_call 16; refine (check_ref _ _ _ _ _).mono ?_; rintro e w1 ⟨rfl, rfl⟩) | (go_at_call 14; refine (free_ref _ _ _ _ _).mono ?_; (first | rw [fre_yes HC.out] | rw [fre_no HC.out]); rintro e w1 ⟨rfl, rfl⟩))
    all_goals
      have hx := HX.out
      have hc := HC.out
      unfold grant more at hx
      rw [if_neg (by omega)] at hx
      subst hx
      refine bodyPost_ret ?_ rfl ⟨rfl, by repeat (first | exact Below.refl _ _ | refine Below.setCell ?_ (by first | (simp; done) | (simp; omega)) _ | refine Below.alloc ?_ (by first | (simp; done) | (simp; omega)) _)⟩
      simp [results, Try.results23, go_sem]
      try omega

end Go.Proofs.Ytdonkkcdjbjkeaa
