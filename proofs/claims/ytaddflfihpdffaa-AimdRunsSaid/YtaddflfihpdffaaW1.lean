/-
  The walks of layer 10's functions: whether a window may be, what comes, what is lost.
-/
import Derived.Test.YtaddflfihpdffaaBase
namespace Go.Proofs.Ytaddflfihpdffaa
open Go.RowKit

/-- A window. -/
structure S where
  a : Int
  t : Int
  p : Int
deriving DecidableEq
def S.val (x : S) : Value := .agg #[.int .i64 x.a, .int .i64 x.t, .int .i64 x.p]

/-- May a window be? -/
def chk (x : S) : Int :=
  if x.a < 48 ∨ 4096 < x.a ∨ x.t < 48 ∨ 4096 < x.t ∨ x.p < 0 ∨ x.a ≤ x.p then 8 else 0
theorem chk_ok {x : S} (hc : chk x = 0) : 48 ≤ x.a ∧ x.a ≤ 4096 ∧ 48 ≤ x.t ∧ x.t ≤ 4096 ∧ 0 ≤ x.p ∧ x.p < x.a := by
  unfold chk at hc
  split at hc
  · cases hc
  · omega

def wn (n : Int) : Bool := decide (48 ≤ n) && decide (n ≤ 4096)
theorem window_own (n : Int) (w : World) : Calls Try.prog 23 #[.int .i64 n] w fun e w' => e = .returned (.bool (wn n)) ∧ w = w' := by
  go_enter Try.func23, Try.ntmps23
  go_wp2
  all_goals go_ret
  all_goals refine ⟨ret_bool ?_, rfl⟩
  all_goals first | (simp_all [wn]; done) | (simp_all [wn]; omega)
theorem window_ref (n : Int) (w : World) : Calls Try.prog 24 #[.int .i64 n] w fun e w' => e = .returned (.bool (wn n)) ∧ w = w' := by
  go_enter Try.func24, Try.ntmps24
  go_wp2
  all_goals go_ret
  all_goals refine ⟨ret_bool ?_, rfl⟩
  all_goals first | (simp_all [wn]; done) | (simp_all [wn]; omega)
theorem wn_yes {n : Int} (h : wn n = true) : 48 ≤ n ∧ n ≤ 4096 := by simpa [wn] using h
theorem wn_no {n : Int} (h : wn n = false) : n < 48 ∨ 4096 < n := by
  by_cases h1 : 48 ≤ n
  · right
    by_cases h2 : n ≤ 4096
    · simp [wn, h1, h2] at h
    · omega
  · left; omega

theorem check_own (a t p : Int) (w : World) : Calls Try.prog 8 #[.agg #[.int .i64 a, .int .i64 t, .int .i64 p]] w fun e w' => e = .returned (.int .i64 (chk ⟨a, t, p⟩)) ∧ w.alloc (.cells #[.int .i64 a, .int .i64 t, .int .i64 p] 26) = w' := by
  rcases ha : wn a with _ | _
  · have hc : chk ⟨a, t, p⟩ = 8 := by unfold chk; rw [if_pos (by have := wn_no ha; simp only; omega)]
    rw [hc]; clear hc
    go_enter Try.func8, Try.ntmps8
    go_wp2_with (go_at_call 23; refine (window_own _ _).mono ?_; rintro e w1 ⟨rfl, rfl⟩)
    go_ret
    exact ⟨rfl, rfl⟩
  · have a1 := wn_yes ha
    rcases ht : wn t with _ | _
    · have hc : chk ⟨a, t, p⟩ = 8 := by unfold chk; rw [if_pos (by have := wn_no ht; simp only; omega)]
      rw [hc]; clear hc
      go_enter Try.func8, Try.ntmps8
      go_wp2_with (go_at_call 23; refine (window_own _ _).mono ?_; rintro e w1 ⟨rfl, rfl⟩)
      go_ret
      exact ⟨rfl, rfl⟩
    · have t1 := wn_yes ht
      go_enter Try.func8, Try.ntmps8
      go_wp2_with (go_at_call 23; refine (window_own _ _).mono ?_; rintro e w1 ⟨rfl, rfl⟩)
      all_goals go_ret
      all_goals refine ⟨ret_int ?_, rfl⟩
      all_goals unfold chk
      all_goals first
        | (rw [if_pos (by simp only; omega)]; done)
        | (rw [if_neg (by simp only; omega)]; done)
theorem check_ref (a t p : Int) (w : World) : Calls Try.prog 9 #[.agg #[.int .i64 a, .int .i64 t, .int .i64 p]] w fun e w' => e = .returned (.int .i64 (chk ⟨a, t, p⟩)) ∧ w.alloc (.cells #[.int .i64 a, .int .i64 t, .int .i64 p] 23) = w' := by
  rcases ha : wn a with _ | _
  · have hc : chk ⟨a, t, p⟩ = 8 := by unfold chk; rw [if_pos (by have := wn_no ha; simp only; omega)]
    rw [hc]; clear hc
    go_enter Try.func9, Try.ntmps9
    go_wp2_with (go_at_call 24; refine (window_ref _ _).mono ?_; rintro e w1 ⟨rfl, rfl⟩)
    go_ret
    exact ⟨rfl, rfl⟩
  · have a1 := wn_yes ha
    rcases ht : wn t with _ | _
    · have hc : chk ⟨a, t, p⟩ = 8 := by unfold chk; rw [if_pos (by have := wn_no ht; simp only; omega)]
      rw [hc]; clear hc
      go_enter Try.func9, Try.ntmps9
      go_wp2_with (go_at_call 24; refine (window_ref _ _).mono ?_; rintro e w1 ⟨rfl, rfl⟩)
      go_ret
      exact ⟨rfl, rfl⟩
    · have t1 := wn_yes ht
      go_enter Try.func9, Try.ntmps9
      go_wp2_with (go_at_call 24; refine (window_ref _ _).mono ?_; rintro e w1 ⟨rfl, rfl⟩)
      all_goals go_ret
      all_goals refine ⟨ret_int ?_, rfl⟩
      all_goals unfold chk
      all_goals first
        | (rw [if_pos (by simp only; omega)]; done)
        | (rw [if_neg (by simp only; omega)]; done)

/-- Bytes that came. -/
def ack (x : S) (n : Int) : S :=
  if chk x = 0 ∧ 1 ≤ n ∧ n ≤ 4096 then
    if x.a < x.t then ⟨min (x.a + min n 48) 4096, x.t, x.p⟩
    else if x.a ≤ x.p + n then ⟨min (x.a + 48) 4096, x.t, 0⟩ else ⟨x.a, x.t, x.p + n⟩
  else x
theorem ack_no {x : S} {n : Int} (h : ¬ (chk x = 0 ∧ 1 ≤ n ∧ n ≤ 4096)) : ack x n = x := by unfold ack; rw [if_neg h]
theorem ack_slow {x : S} {n : Int} (hc : chk x = 0) (h1 : 1 ≤ n) (h2 : n ≤ 4096) (h : x.a < x.t) : ack x n = ⟨min (x.a + min n 48) 4096, x.t, x.p⟩ := by
  unfold ack; rw [if_pos ⟨hc, h1, h2⟩, if_pos h]
theorem ack_round {x : S} {n : Int} (hc : chk x = 0) (h1 : 1 ≤ n) (h2 : n ≤ 4096) (h : ¬ x.a < x.t) (h' : x.a ≤ x.p + n) : ack x n = ⟨min (x.a + 48) 4096, x.t, 0⟩ := by
  unfold ack; rw [if_pos ⟨hc, h1, h2⟩, if_neg h, if_pos h']
theorem ack_part {x : S} {n : Int} (hc : chk x = 0) (h1 : 1 ≤ n) (h2 : n ≤ 4096) (h : ¬ x.a < x.t) (h' : ¬ x.a ≤ x.p + n) : ack x n = ⟨x.a, x.t, x.p + n⟩ := by
  unfold ack; rw [if_pos ⟨hc, h1, h2⟩, if_neg h, if_neg h']

theorem acked_own (x : S) (n : Int) (w : World) :
    Calls Try.prog 15 #[.agg #[.int .i64 x.a, .int .i64 x.t, .int .i64 x.p], .int .i64 n] w fun e w' => e = .returned (.agg #[.int .i64 (ack x n).a, .int .i64 (ack x n).t, .int .i64 (ack x n).p]) ∧ Below w.heap.size w w' := by
  by_cases hc : chk x = 0
  · obtain ⟨b1, b2, b3, b4, b5, b6⟩ := chk_ok hc
    by_cases h1 : n < 1
    · rw [ack_no (by omega)]
      obtain ⟨a, t, p⟩ := x
      have d1 : decide (n < 1) = true := by simpa using h1
      go_enter Try.func15, Try.ntmps15
      go_wp2_with (go_at_call 8; refine (check_own _ _ _ _).mono ?_; rintro e w1 ⟨rfl, rfl⟩)
      refine bodyPost_ret (v := .agg #[.int .i64 a, .int .i64 t, .int .i64 p]) (by simp [results, Try.results15, go_sem]) rfl ⟨rfl, by repeat (first | exact Below.refl _ _ | refine Below.alloc ?_ (by first | (simp; done) | (simp; omega)) _)⟩
    · have d1 : decide (n < 1) = false := by simpa using h1
      by_cases h2 : 4096 < n
      · rw [ack_no (by omega)]
        obtain ⟨a, t, p⟩ := x
        have d2 : decide (4096 < n) = true := by simpa using h2
        go_enter Try.func15, Try.ntmps15
        go_wp2_with (go_at_call 8; refine (check_own _ _ _ _).mono ?_; rintro e w1 ⟨rfl, rfl⟩)
        refine bodyPost_ret (v := .agg #[.int .i64 a, .int .i64 t, .int .i64 p]) (by simp [results, Try.results15, go_sem]) rfl ⟨rfl, by repeat (first | exact Below.refl _ _ | refine Below.alloc ?_ (by first | (simp; done) | (simp; omega)) _)⟩
      · have d2 : decide (4096 < n) = false := by simpa using h2
        by_cases h3 : x.a < x.t
        · rw [ack_slow hc (by omega) (by omega) h3]
          obtain ⟨a, t, p⟩ := x
          simp only [] at b1 b2 b3 b4 b5 b6 h3
          go_enter Try.func15, Try.ntmps15
          go_wp2_with (go_at_call 8; refine (check_own _ _ _ _).mono ?_; rintro e w1 ⟨rfl, rfl⟩)
          all_goals
            refine bodyPost_ret (v := .agg #[.int .i64 (min (a + min n 48) 4096), .int .i64 t, .int .i64 p]) ?_ rfl ⟨rfl, by repeat (first | exact Below.refl _ _ | refine Below.setCell ?_ (by first | (simp; done) | (simp; omega)) _ | refine Below.alloc ?_ (by first | (simp; done) | (simp; omega)) _)⟩
            simp [results, Try.results15, go_sem]
            try omega
        · by_cases h4 : x.a ≤ x.p + n
          · rw [ack_round hc (by omega) (by omega) h3 h4]
            obtain ⟨a, t, p⟩ := x
            simp only [] at b1 b2 b3 b4 b5 b6 h3 h4
            go_enter Try.func15, Try.ntmps15
            go_wp2_with (go_at_call 8; refine (check_own _ _ _ _).mono ?_; rintro e w1 ⟨rfl, rfl⟩)
            all_goals
              refine bodyPost_ret (v := .agg #[.int .i64 (min (a + 48) 4096), .int .i64 t, .int .i64 0]) ?_ rfl ⟨rfl, by repeat (first | exact Below.refl _ _ | refine Below.setCell ?_ (by first | (simp; done) | (simp; omega)) _ | refine Below.alloc ?_ (by first | (simp; done) | (simp; omega)) _)⟩
              simp [results, Try.results15, go_sem]
              try omega
          · rw [ack_part hc (by omega) (by omega) h3 h4]
            obtain ⟨a, t, p⟩ := x
            simp only [] at b1 b2 b3 b4 b5 b6 h3 h4
            go_enter Try.func15, Try.ntmps15
            go_wp2_with (go_at_call 8; refine (check_own _ _ _ _).mono ?_; rintro e w1 ⟨rfl, rfl⟩)
            all_goals
              refine bodyPost_ret (v := .agg #[.int .i64 a, .int .i64 t, .int .i64 (p + n)]) ?_ rfl ⟨rfl, by repeat (first | exact Below.refl _ _ | refine Below.setCell ?_ (by first | (simp; done) | (simp; omega)) _ | refine Below.alloc ?_ (by first | (simp; done) | (simp; omega)) _)⟩
              simp [results, Try.results15, go_sem]
  · rw [ack_no (by simp [hc])]
    obtain ⟨a, t, p⟩ := x
    have hb : (chk ⟨a, t, p⟩ != 0) = true := by simp [hc]
    go_enter Try.func15, Try.ntmps15
    go_wp2_with (go_at_call 8; refine (check_own _ _ _ _).mono ?_; rintro e w1 ⟨rfl, rfl⟩)
    refine bodyPost_ret (v := .agg #[.int .i64 a, .int .i64 t, .int .i64 p]) (by simp [results, Try.results15, go_sem]) rfl ⟨rfl, by repeat (first | exact Below.refl _ _ | refine Below.alloc ?_ (by first | (simp; done) | (simp; omega)) _)⟩
theorem acked_ref (x : S) (n : Int) (w : World) :
    Calls Try.prog 16 #[.agg #[.int .i64 x.a, .int .i64 x.t, .int .i64 x.p], .int .i64 n] w fun e w' => e = .returned (.agg #[.int .i64 (ack x n).a, .int .i64 (ack x n).t, .int .i64 (ack x n).p]) ∧ Below w.heap.size w w' := by
  by_cases hc : chk x = 0
  · obtain ⟨b1, b2, b3, b4, b5, b6⟩ := chk_ok hc
    by_cases h1 : n < 1
    · rw [ack_no (by omega)]
      obtain ⟨a, t, p⟩ := x
      have d1 : decide (n < 1) = true := by simpa using h1
      go_enter Try.func16, Try.ntmps16
      go_wp2_with (go_at_call 9; refine (check_ref _ _ _ _).mono ?_; rintro e w1 ⟨rfl, rfl⟩)
      refine bodyPost_ret (v := .agg #[.int .i64 a, .int .i64 t, .int .i64 p]) (by simp [results, Try.results16, go_sem]) rfl ⟨rfl, by repeat (first | exact Below.refl _ _ | refine Below.alloc ?_ (by first | (simp; done) | (simp; omega)) _)⟩
    · have d1 : decide (n < 1) = false := by simpa using h1
      by_cases h2 : 4096 < n
      · rw [ack_no (by omega)]
        obtain ⟨a, t, p⟩ := x
        have d2 : decide (4096 < n) = true := by simpa using h2
        go_enter Try.func16, Try.ntmps16
        go_wp2_with (go_at_call 9; refine (check_ref _ _ _ _).mono ?_; rintro e w1 ⟨rfl, rfl⟩)
        refine bodyPost_ret (v := .agg #[.int .i64 a, .int .i64 t, .int .i64 p]) (by simp [results, Try.results16, go_sem]) rfl ⟨rfl, by repeat (first | exact Below.refl _ _ | refine Below.alloc ?_ (by first | (simp; done) | (simp; omega)) _)⟩
      · have d2 : decide (4096 < n) = false := by simpa using h2
        by_cases h3 : x.a < x.t
        · rw [ack_slow hc (by omega) (by omega) h3]
          obtain ⟨a, t, p⟩ := x
          simp only [] at b1 b2 b3 b4 b5 b6 h3
          go_enter Try.func16, Try.ntmps16
          go_wp2_with (go_at_call 9; refine (check_ref _ _ _ _).mono ?_; rintro e w1 ⟨rfl, rfl⟩)
          all_goals
            refine bodyPost_ret (v := .agg #[.int .i64 (min (a + min n 48) 4096), .int .i64 t, .int .i64 p]) ?_ rfl ⟨rfl, by repeat (first | exact Below.refl _ _ | refine Below.setCell ?_ (by first | (simp; done) | (simp; omega)) _ | refine Below.alloc ?_ (by first | (simp; done) | (simp; omega)) _)⟩
            simp [results, Try.results16, go_sem]
            try omega
        · by_cases h4 : x.a ≤ x.p + n
          · rw [ack_round hc (by omega) (by omega) h3 h4]
            obtain ⟨a, t, p⟩ := x
            simp only [] at b1 b2 b3 b4 b5 b6 h3 h4
            go_enter Try.func16, Try.ntmps16
            go_wp2_with (go_at_call 9; refine (check_ref _ _ _ _).mono ?_; rintro e w1 ⟨rfl, rfl⟩)
            all_goals
              refine bodyPost_ret (v := .agg #[.int .i64 (min (a + 48) 4096), .int .i64 t, .int .i64 0]) ?_ rfl ⟨rfl, by repeat (first | exact Below.refl _ _ | refine Below.setCell ?_ (by first | (simp; done) | (simp; omega)) _ | refine Below.alloc ?_ (by first | (simp; done) | (simp; omega)) _)⟩
              simp [results, Try.results16, go_sem]
              try omega
          · rw [ack_part hc (by omega) (by omega) h3 h4]
            obtain ⟨a, t, p⟩ := x
            simp only [] at b1 b2 b3 b4 b5 b6 h3 h4
            go_enter Try.func16, Try.ntmps16
            go_wp2_with (go_at_call 9; refine (check_ref _ _ _ _).mono ?_; rintro e w1 ⟨rfl, rfl⟩)
            all_goals
              refine bodyPost_ret (v := .agg #[.int .i64 a, .int .i64 t, .int .i64 (p + n)]) ?_ rfl ⟨rfl, by repeat (first | exact Below.refl _ _ | refine Below.setCell ?_ (by first | (simp; done) | (simp; omega)) _ | refine Below.alloc ?_ (by first | (simp; done) | (simp; omega)) _)⟩
              simp [results, Try.results16, go_sem]
  · rw [ack_no (by simp [hc])]
    obtain ⟨a, t, p⟩ := x
    have hb : (chk ⟨a, t, p⟩ != 0) = true := by simp [hc]
    go_enter Try.func16, Try.ntmps16
    go_wp2_with (go_at_call 9; refine (check_ref _ _ _ _).mono ?_; rintro e w1 ⟨rfl, rfl⟩)
    refine bodyPost_ret (v := .agg #[.int .i64 a, .int .i64 t, .int .i64 p]) (by simp [results, Try.results16, go_sem]) rfl ⟨rfl, by repeat (first | exact Below.refl _ _ | refine Below.alloc ?_ (by first | (simp; done) | (simp; omega)) _)⟩
end Go.Proofs.Ytaddflfihpdffaa
