/-
  Layer 6: sets of numbers, as intervals that rise and do not touch.
-/
import Derived.Test.YtpbmlllffmkkdaaT6
import Derived.Test.YtpbmlllffmkkdaaT8
namespace Go.Proofs.Ytpbmlllffmkkdaa
open Go.RowKit
set_option linter.unusedSimpArgs false
set_option linter.unusedVariables false

theorem has_nil (n : Int) : hasF [] n = false := rfl
theorem has_cons (z : Z) (l : List Z) (n : Int) : hasF (z :: l) n = (inI n z || hasF l n) := rfl
theorem has_app (l m : List Z) (n : Int) : hasF (l ++ m) n = (hasF l n || hasF m n) := by unfold hasF; rw [List.any_append]
theorem has_snoc (l : List Z) (z : Z) (n : Int) : hasF (l ++ [z]) n = (hasF l n || inI n z) := by rw [has_app, has_cons, has_nil, Bool.or_false]
theorem has_iff {l : List Z} {n : Int} : hasF l n = true ↔ ∃ z ∈ l, z.1 ≤ n ∧ n < z.2 := by
  unfold hasF; rw [List.any_eq_true]; simp [inI]
theorem has_no {l : List Z} {n : Int} (h : ∀ z ∈ l, n < z.1 ∨ z.2 ≤ n) : hasF l n = false := by
  rw [← Bool.not_eq_true, has_iff]
  rintro ⟨z, hz, h1, h2⟩
  rcases h z hz with h | h <;> omega
theorem in_iff {n : Int} {z : Z} : inI n z = true ↔ z.1 ≤ n ∧ n < z.2 := by simp [inI]
theorem apt_nil : Apt [] := ⟨.nil, by simp⟩
theorem apt_cons {z : Z} {l : List Z} : Apt (z :: l) ↔ z.1 < z.2 ∧ (∀ y ∈ l, z.2 < y.1) ∧ Apt l := by
  unfold Apt
  rw [List.pairwise_cons]
  constructor
  · rintro ⟨⟨h1, h2⟩, h3⟩; exact ⟨h3 z (by simp), h1, h2, fun y hy => h3 y (by simp [hy])⟩
  · rintro ⟨h1, h2, h3, h4⟩; exact ⟨⟨h2, h3⟩, fun y hy => by rcases List.mem_cons.1 hy with rfl | hy; exact h1; exact h4 y hy⟩
theorem apt_snoc {l : List Z} {z : Z} : Apt (l ++ [z]) ↔ Apt l ∧ (∀ y ∈ l, y.2 < z.1) ∧ z.1 < z.2 := by
  unfold Apt
  rw [List.pairwise_append]
  constructor
  · rintro ⟨⟨h1, _, h2⟩, h3⟩; exact ⟨⟨h1, fun y hy => h3 y (by simp [hy])⟩, fun y hy => h2 y hy z (by simp), h3 z (by simp)⟩
  · rintro ⟨⟨h1, h2⟩, h3, h4⟩
    refine ⟨⟨h1, List.pairwise_singleton _ _, fun y hy w hw => ?_⟩, fun y hy => ?_⟩
    · simp at hw; subst hw; exact h3 y hy
    · rcases List.mem_append.1 hy with hy | hy
      · exact h2 y hy
      · simp at hy; subst hy; exact h4
/-- Two that have the same numbers are the same. -/
theorem apt_uniq : ∀ {a b : List Z}, Apt a → Apt b → (∀ n, hasF a n = hasF b n) → a = b
  | [], [], _, _, _ => rfl
  | [], y :: b, _, hb, h => by
    have h1 := (apt_cons.1 hb).1
    have := h y.1
    rw [has_nil, has_cons, in_iff.2 ⟨Int.le_refl _, h1⟩] at this; cases this
  | x :: a, [], ha, _, h => by
    have h1 := (apt_cons.1 ha).1
    have := h x.1
    rw [has_nil, has_cons, in_iff.2 ⟨Int.le_refl _, h1⟩] at this; cases this
  | x :: a, y :: b, ha, hb, h => by
    obtain ⟨a1, a2, a3⟩ := apt_cons.1 ha
    obtain ⟨b1, b2, b3⟩ := apt_cons.1 hb
    have e1 : x.1 = y.1 := by
      have h1 := h x.1
      have h2 := h y.1
      rw [has_cons, has_cons, in_iff.2 ⟨Int.le_refl _, a1⟩, Bool.true_or] at h1
      rw [has_cons, has_cons, in_iff.2 ⟨Int.le_refl _, b1⟩, Bool.true_or] at h2
      have h3 : ∃ z ∈ y :: b, z.1 ≤ x.1 ∧ x.1 < z.2 := has_iff.1 (by rw [has_cons, ← h1])
      have h4 : ∃ z ∈ x :: a, z.1 ≤ y.1 ∧ y.1 < z.2 := has_iff.1 (by rw [has_cons, h2])
      obtain ⟨z, hz, h5, h6⟩ := h3
      obtain ⟨w, hw, h7, h8⟩ := h4
      have h9 : y.1 ≤ z.1 := by
        rcases List.mem_cons.1 hz with rfl | hz
        · exact Int.le_refl _
        · have := b2 z hz; omega
      have h10 : x.1 ≤ w.1 := by
        rcases List.mem_cons.1 hw with rfl | hw
        · exact Int.le_refl _
        · have := a2 w hw; omega
      omega
    have tail : ∀ (u : Z) (l : List Z), u.1 < u.2 → (∀ v ∈ l, u.2 < v.1) → hasF (u :: l) u.2 = false := fun u l h1 h2 => has_no fun v hv => by
      rcases List.mem_cons.1 hv with rfl | hv
      · exact .inr (Int.le_refl _)
      · exact .inl (h2 v hv)
    have e2 : x.2 = y.2 := by
      have h1 := h x.2
      have h2 := h y.2
      rw [tail x a a1 a2] at h1
      rw [tail y b b1 b2] at h2
      have h3 : ¬ (y.1 ≤ x.2 ∧ x.2 < y.2) := fun hh => by rw [has_cons, in_iff.2 hh] at h1; cases h1
      have h4 : ¬ (x.1 ≤ y.2 ∧ y.2 < x.2) := fun hh => by rw [has_cons, in_iff.2 hh] at h2; cases h2
      omega
    obtain ⟨x1, x2⟩ := x
    obtain ⟨y1, y2⟩ := y
    simp only at e1 e2 a1 a2 b1 b2
    subst e1; subst e2
    have : a = b := apt_uniq a3 b3 fun n => by
      have hn := h n
      rw [has_cons, has_cons] at hn
      cases hi : inI n (x1, x2)
      · rw [hi, Bool.false_or, Bool.false_or] at hn; exact hn
      · have hi' : x1 ≤ n ∧ n < x2 := in_iff.1 hi
        rw [has_no (l := a) fun v hv => .inl (by have := a2 v hv; omega), has_no (l := b) fun v hv => .inl (by have := b2 v hv; omega)]
    rw [this]
theorem has_kp (l : List Z) (z : Z) (n : Int) : hasF (kp l z) n = (hasF l n || inI n z) := by
  unfold kp
  cases he : emp z
  · rw [if_neg (by simp), has_snoc]
  · rw [if_pos rfl]
    simp only [emp, decide_eq_true_eq] at he
    have : inI n z = false := by rw [← Bool.not_eq_true, in_iff]; omega
    rw [this, Bool.or_false]
theorem apt_kp {l : List Z} {z : Z} (h : Apt l) (h2 : z.1 < z.2 → ∀ y ∈ l, y.2 < z.1) : Apt (kp l z) := by
  unfold kp
  cases he : emp z
  · rw [if_neg (by simp)]
    simp only [emp, decide_eq_false_iff_not] at he
    exact apt_snoc.2 ⟨h, h2 (by omega), by omega⟩
  · rw [if_pos rfl]; exact h
theorem kp_mem {l : List Z} {z y : Z} (h : y ∈ kp l z) : y ∈ l ∨ (y = z ∧ z.1 < z.2) := by
  unfold kp at h
  cases he : emp z
  · rw [he, if_neg (by simp)] at h
    simp only [emp, decide_eq_false_iff_not] at he
    rcases List.mem_append.1 h with h | h
    · exact .inl h
    · simp at h; exact .inr ⟨h, by omega⟩
  · rw [he, if_pos rfl] at h; exact .inl h
/-- Taken out. -/
theorem cut_is {a b : Int} (hab : a < b) : ∀ {l acc : List Z}, Apt l → Apt acc → (∀ z ∈ acc, ∀ y ∈ l, z.2 < y.1) →
    Apt (l.foldl (cutS a b) acc) ∧ ∀ n, hasF (l.foldl (cutS a b) acc) n = (hasF acc n || (hasF l n && !inI n (a, b)))
  | [], acc, _, h, _ => ⟨h, fun n => by simp [has_nil]⟩
  | y :: l, acc, hl, h, hs => by
    obtain ⟨h1, h2, h3⟩ := apt_cons.1 hl
    have hy := fun z hz => hs z hz y (by simp)
    have A1 : Apt (kp acc (y.1, min y.2 a)) := apt_kp h fun _ z hz => hy z hz
    have A2 : Apt (cutS a b acc y) := apt_kp A1 fun hh z hz => by
      rcases kp_mem hz with hz | ⟨rfl, hz⟩
      · have := hy z hz; simp only at hh ⊢; omega
      · simp only at hh hz ⊢; omega
    have A3 : ∀ z ∈ cutS a b acc y, ∀ w ∈ l, z.2 < w.1 := fun z hz w hw => by
      have hw2 := h2 w hw
      rcases kp_mem hz with hz | ⟨rfl, hz⟩
      · rcases kp_mem hz with hz | ⟨rfl, hz⟩
        · exact hs z hz w (by simp [hw])
        · simp only; omega
      · simp only; omega
    obtain ⟨B1, B2⟩ := cut_is hab h3 A2 A3
    refine ⟨B1, fun n => ?_⟩
    rw [List.foldl_cons, B2 n, has_cons]
    unfold cutS
    rw [has_kp, has_kp]
    have e : (inI n (y.1, min y.2 a) || inI n (max y.1 b, y.2)) = (inI n y && !inI n (a, b)) := by
      rw [Bool.eq_iff_iff, Bool.or_eq_true, in_iff, in_iff, Bool.and_eq_true, in_iff, Bool.not_eq_true', ← Bool.not_eq_true, in_iff]
      simp only; omega
    rw [Bool.or_assoc, Bool.or_assoc, ← Bool.or_assoc (inI n (y.1, min y.2 a)), e]
    cases inI n y <;> cases inI n (a, b) <;> cases hasF acc n <;> cases hasF l n <;> rfl
/-- Lacking. -/
theorem gap_is : ∀ {l acc : List Z} {c d : Int}, Apt l → Apt acc → (∀ z ∈ acc, z.2 < c) →
    Apt (kp (l.foldl gapS (acc, (c, d))).1 (l.foldl gapS (acc, (c, d))).2) ∧ ∀ n, hasF (kp (l.foldl gapS (acc, (c, d))).1 (l.foldl gapS (acc, (c, d))).2) n = (hasF acc n || (inI n (c, d) && !hasF l n))
  | [], acc, c, d, _, h, hs => ⟨apt_kp h fun _ z hz => hs z hz, fun n => by rw [List.foldl_nil, has_kp, has_nil]; simp⟩
  | y :: l, acc, c, d, hl, h, hs => by
    obtain ⟨h1, h2, h3⟩ := apt_cons.1 hl
    have A1 : Apt (kp acc (c, min d y.1)) := apt_kp h fun _ z hz => hs z hz
    have A3 : ∀ z ∈ kp acc (c, min d y.1), z.2 < max c y.2 := fun z hz => by
      rcases kp_mem hz with hz | ⟨rfl, hz⟩
      · have := hs z hz; omega
      · simp only; omega
    obtain ⟨B1, B2⟩ := gap_is (d := d) h3 A1 A3
    refine ⟨B1, fun n => ?_⟩
    have := B2 n
    rw [List.foldl_cons]
    refine this.trans ?_
    rw [has_kp, has_cons, Bool.or_assoc]
    congr 1
    by_cases hn : n < y.1
    · have e0 : hasF l n = false := has_no fun v hv => .inl (by have := h2 v hv; omega)
      have e1 : inI n y = false := by rw [← Bool.not_eq_true, in_iff]; omega
      have e2 : inI n (max c y.2, d) = false := by rw [← Bool.not_eq_true, in_iff]; simp only; omega
      have e3 : inI n (c, min d y.1) = inI n (c, d) := by rw [Bool.eq_iff_iff, in_iff, in_iff]; simp only; omega
      rw [e0, e1, e2, e3]; simp
    · have e1 : inI n (c, min d y.1) = false := by rw [← Bool.not_eq_true, in_iff]; simp only; omega
      have e2 : inI n (max c y.2, d) = (inI n (c, d) && !inI n y) := by
        cases hy : inI n y
        · have : ¬ (y.1 ≤ n ∧ n < y.2) := fun hh => by rw [in_iff.2 hh] at hy; cases hy
          rw [Bool.not_false, Bool.and_true, Bool.eq_iff_iff, in_iff, in_iff]; simp only; omega
        · have : y.1 ≤ n ∧ n < y.2 := in_iff.1 hy
          rw [Bool.not_true, Bool.and_false, ← Bool.not_eq_true, in_iff]; simp only; omega
      rw [e1, e2, Bool.false_or]
      cases hasF l n <;> cases inI n y <;> cases inI n (c, d) <;> rfl
/-- Put in. -/
theorem add_laid : ∀ {l acc : List Z} {x : Z}, Apt l → x.1 < x.2 → (∀ y ∈ l, x.2 < y.1) → l.foldl addS (acc, true, x) = (acc ++ l, true, x)
  | [], acc, x, _, _, _ => by simp
  | y :: l, acc, x, hl, hx, hs => by
    obtain ⟨h1, h2, h3⟩ := apt_cons.1 hl
    have hy := hs y (by simp)
    rw [List.foldl_cons]
    have e : addS (acc, true, x) y = (acc ++ [y], true, x) := by
      unfold addS
      rw [if_neg (by simp only; omega), if_pos (by simp only; omega)]
      simp
    rw [e, add_laid h3 hx fun w hw => by have := h2 w hw; omega]
    simp
theorem add_is : ∀ {l acc : List Z} {x : Z}, Apt l → Apt acc → x.1 < x.2 → (∀ z ∈ acc, z.2 < x.1 ∧ ∀ y ∈ l, z.2 < y.1) →
    Apt (if (l.foldl addS (acc, false, x)).2.1 = true then (l.foldl addS (acc, false, x)).1 else (l.foldl addS (acc, false, x)).1 ++ [(l.foldl addS (acc, false, x)).2.2]) ∧
    ∀ n, hasF (if (l.foldl addS (acc, false, x)).2.1 = true then (l.foldl addS (acc, false, x)).1 else (l.foldl addS (acc, false, x)).1 ++ [(l.foldl addS (acc, false, x)).2.2]) n = (hasF acc n || (inI n x || hasF l n))
  | [], acc, x, _, h, hx, hs => ⟨apt_snoc.2 ⟨h, fun z hz => (hs z hz).1, hx⟩, fun n => by simp [has_snoc, has_nil]⟩
  | y :: l, acc, x, hl, h, hx, hs => by
    obtain ⟨h1, h2, h3⟩ := apt_cons.1 hl
    rw [List.foldl_cons]
    by_cases c1 : y.2 < x.1
    · have e : addS (acc, false, x) y = (acc ++ [y], false, x) := by unfold addS; rw [if_pos c1]
      rw [e]
      have A1 : Apt (acc ++ [y]) := apt_snoc.2 ⟨h, fun z hz => (hs z hz).2 y (by simp), h1⟩
      obtain ⟨B1, B2⟩ := add_is (x := x) h3 A1 hx fun z hz => by
        rcases List.mem_append.1 hz with hz | hz
        · exact ⟨(hs z hz).1, fun w hw => (hs z hz).2 w (by simp [hw])⟩
        · simp at hz; subst hz; exact ⟨c1, fun w hw => h2 w hw⟩
      refine ⟨B1, fun n => (B2 n).trans ?_⟩
      rw [has_snoc, has_cons]
      cases hasF acc n <;> cases inI n y <;> cases inI n x <;> rfl
    · by_cases c2 : x.2 < y.1
      · have e : addS (acc, false, x) y = (acc ++ [x] ++ [y], true, x) := by unfold addS; rw [if_neg c1, if_pos c2]; simp
        rw [e, add_laid h3 hx fun w hw => by have := h2 w hw; omega]
        simp only [if_true]
        have A1 : Apt (acc ++ [x]) := apt_snoc.2 ⟨h, fun z hz => (hs z hz).1, hx⟩
        have A2 : Apt (acc ++ [x] ++ (y :: l)) := by
          unfold Apt
          refine ⟨List.pairwise_append.2 ⟨A1.1, hl.1, fun z hz w hw => ?_⟩, fun z hz => ?_⟩
          · rcases List.mem_append.1 hz with hz | hz
            · exact (hs z hz).2 w hw
            · simp at hz; subst hz
              rcases List.mem_cons.1 hw with rfl | hw
              · exact c2
              · have := h2 w hw; omega
          · rcases List.mem_append.1 hz with hz | hz
            · exact A1.2 z hz
            · exact hl.2 z hz
        have e2 : acc ++ [x] ++ [y] ++ l = acc ++ [x] ++ (y :: l) := by simp
        rw [e2]
        refine ⟨A2, fun n => ?_⟩
        rw [has_app, has_snoc, Bool.or_assoc]
      · have e : addS (acc, false, x) y = (acc, false, (min x.1 y.1, max x.2 y.2)) := by unfold addS; rw [if_neg c1, if_neg c2]
        rw [e]
        obtain ⟨B1, B2⟩ := add_is (x := (min x.1 y.1, max x.2 y.2)) h3 h (by simp only; omega) fun z hz => by
          have g1 := (hs z hz).1
          have g2 := (hs z hz).2 y (by simp)
          exact ⟨by simp only; omega, fun w hw => (hs z hz).2 w (by simp [hw])⟩
        refine ⟨B1, fun n => (B2 n).trans ?_⟩
        rw [has_cons, ← Bool.or_assoc (inI n x)]
        congr 2
        rw [Bool.eq_iff_iff, Bool.or_eq_true, in_iff, in_iff, in_iff]
        simp only; omega
theorem addF_is {zs : List Z} {z : Z} (h : Apt zs) (hz : z.1 < z.2) : Apt (addF zs z) ∧ ∀ n, hasF (addF zs z) n = (hasF zs n || inI n z) := by
  obtain ⟨h1, h2⟩ := add_is (acc := []) (x := z) h apt_nil hz (by simp)
  exact ⟨h1, fun n => (h2 n).trans (by rw [has_nil, Bool.false_or, Bool.or_comm])⟩
theorem cutF_is {zs : List Z} {z : Z} (h : Apt zs) (hz : z.1 < z.2) : Apt (cutF zs z) ∧ ∀ n, hasF (cutF zs z) n = (hasF zs n && !inI n z) := by
  obtain ⟨h1, h2⟩ := cut_is (acc := []) hz h apt_nil (by simp)
  exact ⟨h1, fun n => (h2 n).trans (by rw [has_nil, Bool.false_or])⟩
theorem gapF_is {zs : List Z} (z : Z) (h : Apt zs) : Apt (gapF zs z) ∧ ∀ n, hasF (gapF zs z) n = (inI n z && !hasF zs n) := by
  obtain ⟨h1, h2⟩ := gap_is (acc := []) (c := z.1) (d := z.2) h apt_nil (by simp)
  exact ⟨h1, fun n => (h2 n).trans (by rw [has_nil, Bool.false_or])⟩
end Go.Proofs.Ytpbmlllffmkkdaa
