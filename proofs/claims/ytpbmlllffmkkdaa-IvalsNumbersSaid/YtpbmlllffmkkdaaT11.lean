/-
  Layer 6: what two have in common; a set from the ends of others.
-/
import Derived.Test.YtpbmlllffmkkdaaT10
namespace Go.Proofs.Ytpbmlllffmkkdaa
open Go.RowKit
set_option linter.unusedSimpArgs false
set_option linter.unusedVariables false

theorem drop_at {l : List Z} {j : Nat} (h : j < l.length) : l.drop j = l.getD j (0, 0) :: l.drop (j + 1) := by
  rw [List.drop_eq_getElem_cons h]; simp [List.getD, h]
theorem apt_lt {l : List Z} (h : Apt l) {i j : Nat} (hij : i < j) (hj : j < l.length) : (l.getD i (0, 0)).2 < (l.getD j (0, 0)).1 := by
  have := List.pairwise_iff_getElem.1 h.1 i j (by omega) hj hij
  have hi : i < l.length := by omega
  simpa [List.getD, hi, hj] using this
theorem apt_one {l : List Z} (h : Apt l) {i : Nat} (hi : i < l.length) : (l.getD i (0, 0)).1 < (l.getD i (0, 0)).2 := by
  have := h.2 l[i] (List.getElem_mem hi)
  simpa [List.getD, hi] using this
theorem drop_mem {l : List Z} {j : Nat} {z : Z} (h : z ∈ l.drop j) : ∃ i, j ≤ i ∧ i < l.length ∧ z = l.getD i (0, 0) := by
  obtain ⟨k, hk, rfl⟩ := List.mem_iff_getElem.1 h
  have hk' : j + k < l.length := by simpa [Nat.lt_sub_iff_add_lt, Nat.add_comm] using hk
  exact ⟨j + k, by omega, hk', by simp [List.getD, hk']⟩
theorem mid_is {ys : List Z} (hy : Apt ys) (x : Z) : ∀ (n j : Nat) (acc : List Z), ys.length - j = n → Apt acc → (∀ z ∈ acc, z.2 < x.1 ∨ ∀ i, j ≤ i → i < ys.length → z.2 < (ys.getD i (0, 0)).1) →
    Apt (mid ys x j acc) ∧ (∀ n, hasF (mid ys x j acc) n = (hasF acc n || (inI n x && hasF (ys.drop j) n))) ∧ ∀ z ∈ mid ys x j acc, z ∈ acc ∨ z.2 ≤ x.2
  | 0, j, acc, hn, h, hs => by
    rw [mid_end (by omega)]
    refine ⟨h, fun n => ?_, fun z hz => .inl hz⟩
    rw [List.drop_eq_nil_of_le (by omega), has_nil, Bool.and_false, Bool.or_false]
  | m + 1, j, acc, hn, h, hs => by
    have hj : j < ys.length := by omega
    have hy1 := apt_one hy hj
    by_cases h2 : (ys.getD j (0, 0)).1 < x.2
    · rw [← mid_go hj h2]
      have A1 : Apt (kp acc (max x.1 (ys.getD j (0, 0)).1, min x.2 (ys.getD j (0, 0)).2)) := apt_kp h fun _ z hz => by
        rcases hs z hz with hz | hz
        · simp only; omega
        · have := hz j (Nat.le_refl _) hj; simp only; omega
      obtain ⟨B1, B2, B3⟩ := mid_is hy x m (j + 1) _ (by omega) A1 fun z hz => by
        rcases kp_mem hz with hz | ⟨rfl, hz⟩
        · rcases hs z hz with hz | hz
          · exact .inl hz
          · exact .inr fun i h1 h2 => hz i (by omega) h2
        · refine .inr fun i h1 h2 => ?_
          have := apt_lt hy (i := j) (j := i) (by omega) h2
          simp only; omega
      refine ⟨B1, fun n => ?_, fun z hz => ?_⟩
      · rw [B2 n, has_kp, drop_at hj, has_cons]
        have e : inI n (max x.1 (ys.getD j (0, 0)).1, min x.2 (ys.getD j (0, 0)).2) = (inI n x && inI n (ys.getD j (0, 0))) := by
          rw [Bool.eq_iff_iff, Bool.and_eq_true, in_iff, in_iff, in_iff]; simp only; omega
        rw [e]
        cases inI n x <;> cases hasF acc n <;> cases inI n (ys.getD j (0, 0)) <;> rfl
      · rcases B3 z hz with hz | hz
        · rcases kp_mem hz with hz | ⟨rfl, hz⟩
          · exact .inl hz
          · right; simp only; omega
        · exact .inr hz
    · rw [mid_no (by omega)]
      refine ⟨h, fun n => ?_, fun z hz => .inl hz⟩
      cases hi : inI n x
      · simp
      · have hi' := in_iff.1 hi
        have : hasF (ys.drop j) n = false := has_no fun v hv => by
          obtain ⟨i, h3, h4, rfl⟩ := drop_mem hv
          left
          rcases Nat.eq_or_lt_of_le h3 with rfl | h3
          · omega
          · have := apt_lt hy h3 h4; omega
        rw [this]; simp
theorem adv_is {ys : List Z} {a : Int} : ∀ (n j : Nat), ys.length - j = n → ∀ i, j ≤ i → i < adv ys a j → (ys.getD i (0, 0)).2 ≤ a
  | 0, j, hn, i, h1, h2 => by rw [adv_end (by omega)] at h2; omega
  | m + 1, j, hn, i, h1, h2 => by
    by_cases h : (ys.getD j (0, 0)).2 ≤ a
    · rcases Nat.eq_or_lt_of_le h1 with rfl | h1
      · exact h
      · rw [← adv_go (by omega) h] at h2
        exact adv_is m (j + 1) (by omega) i h1 h2
    · rw [adv_no (by omega)] at h2; omega
theorem has_drop {ys : List Z} {j k : Nat} {n : Int} (hjk : j ≤ k) (hk : k ≤ ys.length) (h : ∀ i, j ≤ i → i < k → (ys.getD i (0, 0)).2 ≤ n) : hasF (ys.drop j) n = hasF (ys.drop k) n := by
  induction hd : k - j generalizing j with
  | zero => rw [show j = k by omega]
  | succ d ih =>
    have hj : j < ys.length := by omega
    rw [drop_at hj, has_cons]
    have : inI n (ys.getD j (0, 0)) = false := by
      have := h j (Nat.le_refl _) (by omega)
      rw [← Bool.not_eq_true, in_iff]; omega
    rw [this, Bool.false_or]
    exact ih (by omega) (fun i h1 h2 => h i (by omega) h2) (by omega)
theorem meet_is {ys : List Z} (hy : Apt ys) : ∀ {l : List Z} {acc : List Z} {j : Nat}, Apt l → Apt acc → j ≤ ys.length → (∀ z ∈ acc, ∀ x ∈ l, z.2 < x.1) →
    Apt (l.foldl (meetS ys) (acc, j)).1 ∧ ∀ n, hasF (l.foldl (meetS ys) (acc, j)).1 n = (hasF acc n || (hasF l n && hasF (ys.drop j) n))
  | [], acc, j, _, h, _, _ => ⟨h, fun n => by simp [has_nil]⟩
  | x :: l, acc, j, hl, h, hj, hs => by
    obtain ⟨h1, h2, h3⟩ := apt_cons.1 hl
    have hA := adv_le ys x.1 _ j rfl hj
    have hI : ∀ i, j ≤ i → i < adv ys x.1 j → (ys.getD i (0, 0)).2 ≤ x.1 := adv_is _ j rfl
    obtain ⟨M1, M2, M3⟩ := mid_is hy x _ (adv ys x.1 j) acc rfl h fun z hz => .inl (hs z hz x (by simp))
    obtain ⟨B1, B2⟩ := meet_is hy (j := adv ys x.1 j) h3 M1 hA.2 fun z hz w hw => by
      rcases M3 z hz with hz | hz
      · exact hs z hz w (by simp [hw])
      · have := h2 w hw; omega
    refine ⟨B1, fun n => (B2 n).trans ?_⟩
    rw [M2 n, has_cons]
    by_cases hn : x.1 ≤ n
    · rw [has_drop hA.1 hA.2 fun i h4 h5 => by have := hI i h4 h5; omega]
      cases inI n x <;> cases hasF acc n <;> cases hasF l n <;> cases hasF (ys.drop (adv ys x.1 j)) n <;> rfl
    · have e1 : inI n x = false := by rw [← Bool.not_eq_true, in_iff]; omega
      have e2 : hasF l n = false := has_no fun v hv => .inl (by have := h2 v hv; omega)
      rw [e1, e2]; simp
theorem meetF_is {zs ys : List Z} (hz : Apt zs) (hy : Apt ys) : Apt (meetF zs ys) ∧ ∀ n, hasF (meetF zs ys) n = (hasF zs n && hasF ys n) := by
  obtain ⟨h1, h2⟩ := meet_is hy (acc := []) (j := 0) hz apt_nil (Nat.zero_le _) (by simp)
  exact ⟨h1, fun n => (h2 n).trans (by rw [has_nil, Bool.false_or, List.drop_zero])⟩
-- ends
def posE (out : List Int) (v : Int) (k : Nat) : Nat := if h : k < out.length then (if out.getD k 0 < v then posE out v (k + 1) else k) else k
termination_by out.length - k
theorem pos_go {out : List Int} {v : Int} {k : Nat} (h : k < out.length) (h2 : out.getD k 0 < v) : posE out v (k + 1) = posE out v k := by
  conv => rhs; rw [posE]
  rw [dif_pos h, if_pos h2]
theorem pos_no {out : List Int} {v : Int} {k : Nat} (h2 : v ≤ out.getD k 0) : posE out v k = k := by
  rw [posE]
  by_cases h : k < out.length
  · rw [dif_pos h, if_neg (by omega)]
  · rw [dif_neg h]
theorem pos_end {out : List Int} {v : Int} {k : Nat} (h : ¬ k < out.length) : posE out v k = k := by rw [posE, dif_neg h]
theorem pos_is {out : List Int} {v : Int} : ∀ (n k : Nat), out.length - k = n → k ≤ out.length → (∀ i, k ≤ i → i < posE out v k → out.getD i 0 < v) ∧ k ≤ posE out v k ∧ posE out v k ≤ out.length ∧ (posE out v k < out.length → v ≤ out.getD (posE out v k) 0)
  | 0, k, hn, hk => by rw [pos_end (by omega)]; exact ⟨fun i h1 h2 => by omega, Nat.le_refl _, hk, fun h => by omega⟩
  | m + 1, k, hn, hk => by
    by_cases h : out.getD k 0 < v
    · obtain ⟨h1, h2, h3, h4⟩ := pos_is (out := out) (v := v) m (k + 1) (by omega) (by omega)
      rw [pos_go (by omega) h] at h1 h2 h3 h4
      refine ⟨fun i g1 g2 => ?_, by omega, h3, h4⟩
      rcases Nat.eq_or_lt_of_le g1 with rfl | g1
      · exact h
      · exact h1 i g1 g2
    · rw [pos_no (by omega)]
      exact ⟨fun i h1 h2 => by omega, Nat.le_refl _, hk, fun _ => by omega⟩
def insE (out : List Int) (v : Int) : List Int := if posE out v 0 < out.length ∧ out.getD (posE out v 0) 0 = v then out else out.take (posE out v 0) ++ v :: out.drop (posE out v 0)
def allE (a b : List Z) : List Int := a.flatMap (fun z => [z.1, z.2]) ++ b.flatMap (fun z => [z.1, z.2])
def endsF (a b : List Z) : List Int := (allE a b).foldl insE []
theorem ins_is {out : List Int} (v : Int) (h : out.Pairwise (· < ·)) : (insE out v).Pairwise (· < ·) ∧ ∀ w, w ∈ insE out v ↔ w ∈ out ∨ w = v := by
  obtain ⟨h1, _, h3, h4⟩ := pos_is (out := out) (v := v) _ 0 rfl (Nat.zero_le _)
  unfold insE
  generalize posE out v 0 = k at h1 h3 h4
  by_cases hc : k < out.length ∧ out.getD k 0 = v
  · rw [if_pos hc]
    refine ⟨h, fun w => ⟨.inl, fun hw => ?_⟩⟩
    rcases hw with hw | rfl
    · exact hw
    · rw [← hc.2]; simp [List.getD, hc.1]
  · rw [if_neg hc]
    have hp : (out.take k ++ out.drop k).Pairwise (· < ·) := by rw [List.take_append_drop]; exact h
    obtain ⟨p1, p2, p3⟩ := List.pairwise_append.1 hp
    have hlow : ∀ w ∈ out.take k, w < v := fun w hw => by
      obtain ⟨i, hi, rfl⟩ := List.mem_iff_getElem.1 hw
      have hi' : i < k ∧ i < out.length := by simp at hi; omega
      have := h1 i (Nat.zero_le _) hi'.1
      simpa [List.getD, hi'.2] using this
    have hhigh : ∀ w ∈ out.drop k, v < w := fun w hw => by
      obtain ⟨i, hi, rfl⟩ := List.mem_iff_getElem.1 hw
      have hi' : k + i < out.length := by simpa [Nat.lt_sub_iff_add_lt, Nat.add_comm] using hi
      have hk : k < out.length := by omega
      have hv := h4 hk
      have hne : out.getD k 0 ≠ v := fun e => hc ⟨hk, e⟩
      have hlt : v < out.getD k 0 := by omega
      rw [List.getElem_drop]
      rcases Nat.eq_zero_or_pos i with rfl | hp0
      · simpa [List.getD, hk] using hlt
      · have := List.pairwise_iff_getElem.1 h k (k + i) hk hi' (by omega)
        have e : out.getD k 0 = out[k] := by simp [List.getD, hk]
        omega
    refine ⟨List.pairwise_append.2 ⟨p1, List.pairwise_cons.2 ⟨hhigh, p2⟩, fun w hw u hu => ?_⟩, fun w => ?_⟩
    · rcases List.mem_cons.1 hu with rfl | hu
      · exact hlow w hw
      · exact Int.lt_trans (hlow w hw) (hhigh u hu)
    · rw [List.mem_append, List.mem_cons]
      conv => rhs; rw [← List.take_append_drop k out, List.mem_append]
      constructor
      · rintro (h | h | h)
        · exact .inl (.inl h)
        · exact .inr h
        · exact .inl (.inr h)
      · rintro ((h | h) | h)
        · exact .inl h
        · exact .inr (.inr h)
        · exact .inr (.inl h)
theorem fold_ins : ∀ (l out : List Int), out.Pairwise (· < ·) → (l.foldl insE out).Pairwise (· < ·) ∧ ∀ w, w ∈ l.foldl insE out ↔ w ∈ out ∨ w ∈ l
  | [], out, h => ⟨h, fun w => by simp⟩
  | v :: l, out, h => by
    obtain ⟨h1, h2⟩ := ins_is v h
    obtain ⟨g1, g2⟩ := fold_ins l _ h1
    refine ⟨g1, fun w => ?_⟩
    rw [List.foldl_cons, g2, h2, List.mem_cons, or_assoc]
theorem ends_is (a b : List Z) : (endsF a b).Pairwise (· < ·) ∧ ∀ z, z ∈ a ∨ z ∈ b → z.1 ∈ endsF a b ∧ z.2 ∈ endsF a b := by
  obtain ⟨h1, h2⟩ := fold_ins (allE a b) [] .nil
  refine ⟨h1, fun z hz => ?_⟩
  have : z.1 ∈ allE a b ∧ z.2 ∈ allE a b := by
    unfold allE
    rw [List.mem_append, List.mem_append, List.mem_flatMap, List.mem_flatMap, List.mem_flatMap, List.mem_flatMap]
    rcases hz with hz | hz
    · exact ⟨.inl ⟨z, hz, by simp⟩, .inl ⟨z, hz, by simp⟩⟩
    · exact ⟨.inr ⟨z, hz, by simp⟩, .inr ⟨z, hz, by simp⟩⟩
  exact ⟨(h2 _).2 (.inr this.1), (h2 _).2 (.inr this.2)⟩
theorem srt_lt {e : List Int} (h : e.Pairwise (· < ·)) {i j : Nat} (hij : i < j) (hj : j < e.length) : e.getD i 0 < e.getD j 0 := by
  have hi : i < e.length := by omega
  have := List.pairwise_iff_getElem.1 h i j hi hj hij
  simpa [List.getD, hi, hj] using this
theorem seg_in {e : List Int} (h : e.Pairwise (· < ·)) {i : Nat} (hi : i + 1 < e.length) {n : Int} (h1 : e.getD i 0 ≤ n) (h2 : n < e.getD (i + 1) 0) {z : Z} (hz1 : z.1 ∈ e) (hz2 : z.2 ∈ e) : inI n z = inI (e.getD i 0) z := by
  obtain ⟨p, hp, e1⟩ := List.mem_iff_getElem.1 hz1
  obtain ⟨q, hq, e2⟩ := List.mem_iff_getElem.1 hz2
  have e1 : z.1 = e.getD p 0 := by rw [← e1]; simp [List.getD, hp]
  have e2 : z.2 = e.getD q 0 := by rw [← e2]; simp [List.getD, hq]
  rw [Bool.eq_iff_iff, in_iff, in_iff, e1, e2]
  have a1 : p ≤ i → e.getD p 0 ≤ e.getD i 0 := fun hh => by
    rcases Nat.eq_or_lt_of_le hh with rfl | hh
    · exact Int.le_refl _
    · have := srt_lt h hh (by omega); omega
  have a2 : ¬ p ≤ i → e.getD (i + 1) 0 ≤ e.getD p 0 := fun hh => by
    rcases Nat.eq_or_lt_of_le (show i + 1 ≤ p by omega) with hh | hh
    · rw [hh]; exact Int.le_refl _
    · have := srt_lt h hh hp; omega
  have b1 : q ≤ i → e.getD q 0 ≤ e.getD i 0 := fun hh => by
    rcases Nat.eq_or_lt_of_le hh with rfl | hh
    · exact Int.le_refl _
    · have := srt_lt h hh (by omega); omega
  have b2 : ¬ q ≤ i → e.getD (i + 1) 0 ≤ e.getD q 0 := fun hh => by
    rcases Nat.eq_or_lt_of_le (show i + 1 ≤ q by omega) with hh | hh
    · rw [hh]; exact Int.le_refl _
    · have := srt_lt h hh hq; omega
  by_cases hpi : p ≤ i <;> by_cases hqi : q ≤ i
  · have := a1 hpi; have := b1 hqi; omega
  · have := a1 hpi; have := b2 hqi; omega
  · have := a2 hpi; have := b1 hqi; omega
  · have := a2 hpi; have := b2 hqi; omega
theorem seg_has {e : List Int} (h : e.Pairwise (· < ·)) {i : Nat} (hi : i + 1 < e.length) {n : Int} (h1 : e.getD i 0 ≤ n) (h2 : n < e.getD (i + 1) 0) {l : List Z} (hl : ∀ z ∈ l, z.1 ∈ e ∧ z.2 ∈ e) : hasF l n = hasF l (e.getD i 0) := by
  induction l with
  | nil => rfl
  | cons z l ih =>
    have hz := hl z (by simp)
    rw [has_cons, has_cons, ih fun y hy => hl y (by simp [hy]), seg_in h hi h1 h2 hz.1 hz.2]
theorem out_has {e : List Int} (h : e.Pairwise (· < ·)) {n : Int} (hn : e = [] ∨ n < e.getD 0 0 ∨ e.getD (e.length - 1) 0 ≤ n) {l : List Z} (hl : ∀ z ∈ l, z.1 ∈ e ∧ z.2 ∈ e) : hasF l n = false := by
  refine has_no fun z hz => ?_
  obtain ⟨hz1, hz2⟩ := hl z hz
  obtain ⟨p, hp, e1⟩ := List.mem_iff_getElem.1 hz1
  obtain ⟨q, hq, e2⟩ := List.mem_iff_getElem.1 hz2
  have e1 : z.1 = e.getD p 0 := by rw [← e1]; simp [List.getD, hp]
  have e2 : z.2 = e.getD q 0 := by rw [← e2]; simp [List.getD, hq]
  rcases hn with rfl | hn | hn
  · simp at hp
  · left
    rcases Nat.eq_zero_or_pos p with rfl | hp0
    · omega
    · have := srt_lt h hp0 hp; omega
  · right
    rcases Nat.eq_or_lt_of_le (show q ≤ e.length - 1 by omega) with hq1 | hq1
    · rw [e2, hq1]; exact hn
    · have := srt_lt h hq1 (by omega); omega
def putF (s : List Z) (x : Z) : List Z := if s = [] ∨ (s.getD (s.length - 1) (0, 0)).2 < x.1 then s ++ [x] else s.set (s.length - 1) ((s.getD (s.length - 1) (0, 0)).1, x.2)
theorem put_nil (x : Z) : putF [] x = [x] := rfl
theorem put_snoc (l : List Z) (y x : Z) : putF (l ++ [y]) x = if y.2 < x.1 then l ++ [y] ++ [x] else l ++ [(y.1, x.2)] := by
  unfold putF
  have e : (l ++ [y]).getD ((l ++ [y]).length - 1) (0, 0) = y := by simp [List.getD]
  rw [e]
  by_cases h : y.2 < x.1
  · rw [if_pos (.inr h), if_pos h]
  · rw [if_neg (by simp [h]), if_neg h]; simp
def kindR (g : Int → Bool) (e : List Int) (k : Nat) : List Z := (List.range k).foldl (fun out i => if g (e.getD i 0) = true then putF out (e.getD i 0, e.getD (i + 1) 0) else out) []
theorem kindR_succ (g : Int → Bool) (e : List Int) (k : Nat) : kindR g e (k + 1) = if g (e.getD k 0) = true then putF (kindR g e k) (e.getD k 0, e.getD (k + 1) 0) else kindR g e k := by
  unfold kindR; rw [List.range_succ, List.foldl_append]; rfl
theorem kind_is {g : Int → Bool} {e : List Int} (h : e.Pairwise (· < ·)) (hseg : ∀ i n, i + 1 < e.length → e.getD i 0 ≤ n → n < e.getD (i + 1) 0 → g n = g (e.getD i 0)) (hlow : ∀ n, n < e.getD 0 0 → g n = false) :
    ∀ k, k + 1 ≤ e.length → Apt (kindR g e k) ∧ (∀ z ∈ kindR g e k, z.2 ≤ e.getD k 0) ∧ ∀ n, hasF (kindR g e k) n = (g n && decide (n < e.getD k 0))
  | 0, hk => ⟨apt_nil, fun z hz => (by cases hz), fun n => by
      by_cases hn : n < e.getD 0 0
      · rw [hlow n hn]; rfl
      · rw [decide_eq_false hn, Bool.and_false]; rfl⟩
  | k + 1, hk => by
    obtain ⟨A1, A2, A3⟩ := kind_is h hseg hlow k (by omega)
    have hlt := srt_lt h (i := k) (j := k + 1) (by omega) (by omega)
    rw [kindR_succ]
    have step : ∀ n, (g n && decide (n < e.getD (k + 1) 0)) = ((g n && decide (n < e.getD k 0)) || (g (e.getD k 0) && inI n (e.getD k 0, e.getD (k + 1) 0))) := fun n => by
      by_cases h1 : n < e.getD k 0
      · have h2 : n < e.getD (k + 1) 0 := by omega
        have h3 : inI n (e.getD k 0, e.getD (k + 1) 0) = false := by rw [← Bool.not_eq_true, in_iff]; simp only; omega
        rw [decide_eq_true h1, decide_eq_true h2, h3]; simp
      · by_cases h2 : n < e.getD (k + 1) 0
        · have h3 : inI n (e.getD k 0, e.getD (k + 1) 0) = true := in_iff.2 (by simp only; omega)
          rw [decide_eq_false h1, decide_eq_true h2, h3, hseg k n (by omega) (by omega) h2]; simp
        · have h3 : inI n (e.getD k 0, e.getD (k + 1) 0) = false := by rw [← Bool.not_eq_true, in_iff]; simp only; omega
          rw [decide_eq_false h1, decide_eq_false h2, h3]; simp
    cases hg : g (e.getD k 0)
    · rw [if_neg (by simp)]
      refine ⟨A1, fun z hz => by have := A2 z hz; omega, fun n => ?_⟩
      rw [step n, hg, A3 n]; simp
    · rw [if_pos rfl]
      generalize kindR g e k = out at A1 A2 A3
      rcases List.eq_nil_or_concat out with rfl | ⟨l, y, rfl⟩
      · rw [put_nil]
        refine ⟨apt_cons.2 ⟨hlt, by simp, apt_nil⟩, fun z hz => by simp at hz; subst hz; exact Int.le_refl _, fun n => ?_⟩
        rw [step n, hg, ← A3 n, has_cons, has_nil]; simp
      · rw [List.concat_eq_append] at A1 A2 A3 ⊢
        obtain ⟨g1, g2, g3⟩ := apt_snoc.1 A1
        have hy := A2 y (by simp)
        rw [put_snoc]
        by_cases hgap : y.2 < e.getD k 0
        · rw [if_pos hgap]
          refine ⟨apt_snoc.2 ⟨A1, fun z hz => ?_, hlt⟩, fun z hz => ?_, fun n => ?_⟩
          · rcases List.mem_append.1 hz with hz | hz
            · have := g2 z hz; simp only; omega
            · simp at hz; subst hz; exact hgap
          · rcases List.mem_append.1 hz with hz | hz
            · have := A2 z hz; omega
            · simp at hz; subst hz; exact Int.le_refl _
          · rw [has_snoc, A3 n, step n, hg, Bool.true_and]
        · rw [if_neg hgap]
          have hye : y.2 = e.getD k 0 := by omega
          refine ⟨apt_snoc.2 ⟨g1, g2, by simp only; omega⟩, fun z hz => ?_, fun n => ?_⟩
          · rcases List.mem_append.1 hz with hz | hz
            · have := A2 z (by simp [hz]); omega
            · simp at hz; subst hz; exact Int.le_refl _
          · rw [has_snoc, step n, hg, ← A3 n, has_snoc, Bool.true_and, Bool.or_assoc]
            congr 1
            rw [Bool.eq_iff_iff, Bool.or_eq_true, in_iff, in_iff, in_iff]
            simp only; omega
/-- A set from the ends of two. -/
def kindF (f : Bool → Bool → Bool) (a b : List Z) : List Z := kindR (fun n => f (hasF a n) (hasF b n)) (endsF a b) ((endsF a b).length - 1)
theorem kindF_is {f : Bool → Bool → Bool} (hf : f false false = false) (a b : List Z) : Apt (kindF f a b) ∧ ∀ n, hasF (kindF f a b) n = f (hasF a n) (hasF b n) := by
  obtain ⟨h, hm⟩ := ends_is a b
  unfold kindF
  generalize endsF a b = e at h hm
  have ha : ∀ z ∈ a, z.1 ∈ e ∧ z.2 ∈ e := fun z hz => hm z (.inl hz)
  have hb : ∀ z ∈ b, z.1 ∈ e ∧ z.2 ∈ e := fun z hz => hm z (.inr hz)
  by_cases he : e = []
  · subst he
    refine ⟨apt_nil, fun n => ?_⟩
    rw [out_has h (.inl rfl) ha, out_has h (.inl rfl) hb, hf]; rfl
  · have hl : 0 < e.length := List.length_pos_iff.2 he
    obtain ⟨A1, _, A3⟩ := kind_is (g := fun n => f (hasF a n) (hasF b n)) h (fun i n hi h1 h2 => by show f (hasF a n) (hasF b n) = f _ _; rw [seg_has h hi h1 h2 ha, seg_has h hi h1 h2 hb]) (fun n hn => by show f (hasF a n) (hasF b n) = false; rw [out_has h (.inr (.inl hn)) ha, out_has h (.inr (.inl hn)) hb, hf]) (e.length - 1) (by omega)
    refine ⟨A1, fun n => ?_⟩
    rw [A3 n]
    by_cases hn : n < e.getD (e.length - 1) 0
    · rw [decide_eq_true hn, Bool.and_true]
    · rw [decide_eq_false hn, Bool.and_false, out_has h (.inr (.inr (by omega))) ha, out_has h (.inr (.inr (by omega))) hb, hf]
end Go.Proofs.Ytpbmlllffmkkdaa
