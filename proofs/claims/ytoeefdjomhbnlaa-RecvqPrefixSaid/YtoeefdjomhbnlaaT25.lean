/-
  Layer 12: a text's pieces that came, and were read.
-/
import Derived.Test.YtoeefdjomhbnlaaT24
namespace Go.Proofs.Ytoeefdjomhbnlaa
set_option linter.unusedSimpArgs false
set_option linter.unusedVariables false

-- counting
theorem cnt_ival (a n : Nat) : ∀ N : Nat, (List.range N).countP (fun p => decide (a ≤ p ∧ p < a + n)) = min n (N - a)
  | 0 => by simp
  | N + 1 => by
    rw [List.range_succ, List.countP_append, cnt_ival a n N, List.countP_cons, List.countP_nil]
    by_cases h : a ≤ N ∧ N < a + n
    · rw [if_pos (by simpa using h)]; omega
    · rw [if_neg (by simpa using h)]; omega
theorem cnt_or {α : Type} {l : List α} {p q : α → Bool} (h : ∀ x ∈ l, p x = true → q x = false) : l.countP (fun x => p x || q x) = l.countP p + l.countP q := by
  induction l with
  | nil => rfl
  | cons x l ih =>
    have h1 := ih fun y hy => h y (by simp [hy])
    have h2 := h x (by simp)
    simp only [List.countP_cons]
    rw [h1]
    cases hp : p x <;> cases hq : q x <;> simp_all <;> omega
theorem at1_is (q : Pt) (p : Int) : (at1 q p).isSome = decide (q.1 ≤ p ∧ p < endP q) := by
  rcases at1_or (q := q) (p := p) with h | h
  · obtain ⟨c, hc⟩ := at1_some h.1 h.2
    rw [hc]; simp [h]
  · rw [h]
    symm
    simp only [Option.isSome_none, decide_eq_false_iff_not]
    intro hh
    obtain ⟨c, hc⟩ := at1_some hh.1 hh.2
    rw [hc] at h; cases h
theorem cnt_at1 {q : Pt} {N : Nat} (h0 : 0 ≤ q.1) (h1 : endP q ≤ N) : (List.range N).countP (fun p : Nat => (at1 q (p : Int)).isSome) = q.2.length := by
  obtain ⟨a, ha⟩ := Int.eq_ofNat_of_zero_le h0
  have e : (fun p : Nat => (at1 q (p : Int)).isSome) = fun p : Nat => decide (a ≤ p ∧ p < a + q.2.length) := by
    funext p
    rw [at1_is, ha]
    simp only [endP, ha]
    rw [Bool.eq_iff_iff, decide_eq_true_eq, decide_eq_true_eq]; omega
  rw [e, cnt_ival]
  simp only [endP] at h1; omega
theorem cnt_atL {lim : Int} {N : Nat} : ∀ {l : List Pt} {b : Int}, W lim b l → 0 ≤ b → (∀ q ∈ l, endP q ≤ N) → (List.range N).countP (fun p : Nat => (atL l (p : Int)).isSome) = totL l
  | [], _, _, _, _ => by simp [atL_nil, totL]
  | q :: l, b, h, h0, hN => by
    obtain ⟨h1, h2, h3, h4⟩ := h
    have hq : endP q = q.1 + q.2.length := rfl
    have ih := cnt_atL (N := N) h4 (by omega) fun x hx => hN x (by simp [hx])
    have e : (fun p : Nat => (atL (q :: l) (p : Int)).isSome) = fun p : Nat => (at1 q (p : Int)).isSome || (atL l (p : Int)).isSome := by
      funext p
      rw [atL_cons]
      cases at1 q p <;> simp
    rw [e, cnt_or, cnt_at1 (by omega) (hN q (by simp)), ih, totL_cons]
    intro p _ hp
    rw [at1_is, decide_eq_true_eq] at hp
    rw [W.off h4 (by omega)]; rfl
theorem atL_mem {l : List Pt} {q : Pt} {p : Int} (hq : q ∈ l) (h0 : q.1 ≤ p) (h1 : p < endP q) : ∃ c, atL l p = some c := by
  cases h : atL l p with
  | some c => exact ⟨c, rfl⟩
  | none =>
    have := List.findSome?_eq_none_iff.1 h q hq
    obtain ⟨c, hc⟩ := at1_some h0 h1
    rw [hc] at this; cases this

/-- What holds of a text's pieces: which came, what was read, what is there. -/
structure PI (T : List Int) (C : List Bool) (S : SS) (out : List Int) : Prop where
  ok : S.Ok
  bl : BytesL S.ps
  br : Bytes S.r
  le : S.o ≤ 512
  ou : out = T.take S.o.toNat
  cl : C.length = 512
  ca : ∀ p : Nat, p < 512 → (C.getD p false = true ↔ ((p : Int) < S.o ∨ (S.map p).isSome = true))
  mp : ∀ (p c : Int), S.map p = some c → 0 ≤ p ∧ p < 512 ∧ T[p.toNat]? = some c
theorem map_low {S : SS} (h : S.Ok) {p : Int} (hp : p < S.o) : S.map p = none := by
  have hso : S.o ≤ S.b := by simp only [SS.o]; omega
  simp only [SS.map, mapS]
  rw [at1_none (.inl (by simp only [SS.o] at hp; exact hp)), W.off h.w (by omega)]; rfl
theorem map_b {S : SS} (h : S.Ok) : S.map S.b = none := by
  simp only [SS.map, mapS]
  rw [at1_none (.inr (by simp only [endP]; omega)), W.off h.w (Int.le_refl _)]; rfl
theorem ends_in {T : List Int} {S : SS} (ho : S.Ok) (hle : S.o ≤ 512) (hm : ∀ (p c : Int), S.map p = some c → 0 ≤ p ∧ p < 512 ∧ T[p.toNat]? = some c) : S.b ≤ 512 ∧ ∀ q ∈ S.ps, endP q ≤ 512 := by
  have hso : S.o ≤ S.b := by simp only [SS.o]; omega
  constructor
  · rcases Int.lt_or_le S.o S.b with h | h
    · obtain ⟨c, hc⟩ := map_some (T := S) (p := S.b - 1) (by omega) (by omega)
      have := (hm _ _ hc).2.1; omega
    · omega
  · intro q hq
    obtain ⟨k, hk, rfl⟩ := List.mem_iff_getElem.1 hq
    have ha := W_at ho.w hk
    simp only [List.getD_eq_getElem?_getD, List.getElem?_eq_getElem hk, Option.getD_some] at ha
    have hl := ne_len.1 ha.1
    have he : endP S.ps[k] = S.ps[k].1 + S.ps[k].2.length := rfl
    obtain ⟨c, hc⟩ := atL_mem (p := endP S.ps[k] - 1) hq (by omega) (by omega)
    have hb := ho.b
    have h1 : S.map (endP S.ps[k] - 1) = some c := by
      simp only [SS.map, mapS]
      rw [at1_none (.inr (by simp only [endP] at *; omega)), hc]; rfl
    have := (hm _ _ h1).2.1; omega
theorem tot_cnt {T : List Int} {S : SS} (ho : S.Ok) (hle : S.o ≤ 512) (hm : ∀ (p c : Int), S.map p = some c → 0 ≤ p ∧ p < 512 ∧ T[p.toNat]? = some c) : (List.range 512).countP (fun p : Nat => (S.map p).isSome) = S.tot := by
  obtain ⟨e1, e2⟩ := ends_in ho hle hm
  have h0 := ho.b0
  have hb := ho.b
  have e : (fun p : Nat => (S.map (p : Int)).isSome) = fun p : Nat => (at1 (S.o, S.r) (p : Int)).isSome || (atL S.ps (p : Int)).isSome := by
    funext p
    simp only [SS.map, mapS, SS.o]
    cases at1 (S.b - S.r.length, S.r) p <;> simp
  rw [e, cnt_or, cnt_at1 (q := (S.o, S.r)) h0 (by simp only [endP, SS.o]; omega), cnt_atL ho.w hb.1 e2, SS.tot, held_tot]
  intro p _ hp
  rw [at1_is, decide_eq_true_eq] at hp
  have : endP (S.o, S.r) = S.b := by simp only [endP, SS.o]; omega
  rw [W.off ho.w (by omega)]; rfl
theorem PI.cnt {T : List Int} {C : List Bool} {S : SS} {out : List Int} (h : PI T C S out) : C.countP id = S.o.toNat + S.tot := by
  have e1 : C = (List.range 512).map fun p => C.getD p false := by
    refine List.ext_getElem (by simp [h.cl]) fun i h1 h2 => by simp [List.getD, h1]
  have h0 := h.ok.b0
  rw [e1, List.countP_map, ← tot_cnt h.ok h.le h.mp]
  have e2 : (List.range 512).countP (fun p : Nat => decide (0 ≤ p ∧ p < 0 + S.o.toNat)) = S.o.toNat := by
    rw [cnt_ival]; have := h.le; omega
  rw [← e2, ← cnt_or]
  · refine List.countP_congr fun p hp => ?_
    have hp := List.mem_range.1 hp
    have := h.ca p hp
    simp only [Function.comp_apply, id, Bool.or_eq_true, decide_eq_true_eq]
    rw [this]
    refine or_congr ?_ Iff.rfl
    omega
  · intro p _ hp
    rw [decide_eq_true_eq] at hp
    rw [map_low h.ok (by omega)]; rfl
-- marking
def markF (C : List Bool) (v : Nat) : Nat → List Bool × Nat
  | 0 => (C, 0)
  | j + 1 => ((markF C v j).1.set (v + j) true, (markF C v j).2 + if (markF C v j).1.getD (v + j) false then 0 else 1)
theorem mark_len (C : List Bool) (v : Nat) : ∀ j, (markF C v j).1.length = C.length
  | 0 => rfl
  | j + 1 => by simp only [markF, List.length_set]; exact mark_len C v j
theorem mark_at (C : List Bool) (v : Nat) : ∀ j, v + j ≤ C.length → ∀ p, (markF C v j).1.getD p false = (C.getD p false || decide (v ≤ p ∧ p < v + j))
  | 0, _, p => by
    have : decide (v ≤ p ∧ p < v + 0) = false := by rw [decide_eq_false_iff_not]; omega
    rw [this]; simp [markF]
  | j + 1, h, p => by
    have ih := mark_at C v j (by omega) p
    have hl := mark_len C v j
    simp only [markF]
    by_cases e : p = v + j
    · subst e
      have : decide (v ≤ v + j ∧ v + j < v + (j + 1)) = true := by rw [decide_eq_true_eq]; omega
      rw [this]
      simp [List.getD, hl, show v + j < C.length by omega]
    · have e2 : decide (v ≤ p ∧ p < v + (j + 1)) = decide (v ≤ p ∧ p < v + j) := by rw [Bool.eq_iff_iff, decide_eq_true_eq, decide_eq_true_eq]; omega
      rw [e2, ← ih]
      simp [List.getD, List.getElem?_set, show v + j ≠ p from fun h => e h.symm]
theorem mark_cnt (C : List Bool) (v : Nat) : ∀ j, v + j ≤ C.length → (markF C v j).1.countP id = C.countP id + (markF C v j).2
  | 0, _ => rfl
  | j + 1, h => by
    have ih := mark_cnt C v j (by omega)
    have hl := mark_len C v j
    have hlt : v + j < (markF C v j).1.length := by omega
    simp only [markF]
    rw [List.countP_set hlt, ih]
    have e : (markF C v j).1.getD (v + j) false = (markF C v j).1[v + j] := by simp [List.getD, hlt]
    rw [e]
    cases hc : (markF C v j).1[v + j]
    · simp
      omega
    · have hpos : 0 < (markF C v j).1.countP id := List.countP_pos_iff.2 ⟨true, by rw [← hc]; exact List.getElem_mem hlt, rfl⟩
      simp
      omega
theorem mark_le (C : List Bool) (v : Nat) : ∀ j, (markF C v j).2 ≤ j
  | 0 => Nat.le_refl _
  | j + 1 => by
    have := mark_le C v j
    simp only [markF]
    split <;> omega

theorem PI.put {T : List Int} {C : List Bool} {S : SS} {out : List Int} (h : PI T C S out) (hT : Bytes T) (hTl : T.length = 512) {v n : Nat} (hv : v < 256) (hn : n < 256) :
    PI T (markF C v n).1 (putF S v (pc T v n)) out ∧ (putF S v (pc T v n)).o = S.o ∧ ((putF S v (pc T v n)).tot : Int) - S.tot = (markF C v n).2 := by
  have hp := put_ok h.ok (v : Int) (pc T v n)
  have hk := putF_bytes h.ok h.bl h.br (v := (v : Int)) (pc_b hT v n)
  have h0 := h.ok.b0
  have hlim : 4096 ≤ S.lim := by rw [SS.lim_o]; omega
  have hpl : (pc T v n).length = n := pc_len (by omega)
  have hbl := h.ok.b
  have key : PI T (markF C v n).1 (putF S v (pc T v n)) out := by
    refine ⟨hp.ok, hk.1, hk.2, by rw [hp.o]; exact h.le, by rw [hp.o]; exact h.ou, by rw [mark_len, h.cl], fun p hpl2 => ?_, fun p c hpc => ?_⟩
    · rw [mark_at C v n (by rw [h.cl]; omega), hp.o, hp.map, Bool.or_eq_true, h.ca p hpl2, decide_eq_true_eq]
      have e1 : (at1 ((v : Int), pc T v n) p).isSome = decide ((v : Int) ≤ p ∧ (p : Int) < v + n) := by rw [at1_is]; simp only [endP, hpl]
      constructor
      · rintro ((h1 | h1) | h1)
        · exact .inl h1
        · right
          cases hs : S.map p with
          | none => rw [hs] at h1; cases h1
          | some c => rfl
        · rcases Int.lt_or_le (p : Int) S.o with h2 | h2
          · exact .inl h2
          · right
            rcases Int.lt_or_le (p : Int) S.b with h3 | h3
            · obtain ⟨c, hc⟩ := map_some h2 h3
              rw [hc]; rfl
            · have e2 : clip S.b S.lim ((v : Int), pc T v n) p = at1 ((v : Int), pc T v n) p := by unfold clip; rw [if_pos ⟨h3, by omega⟩]
              rw [e2]
              cases hs : S.map p with
              | some c => rfl
              | none =>
                rw [Option.none_or, e1, decide_eq_true_eq]; omega
      · rintro (h1 | h1)
        · exact .inl (.inl h1)
        · cases hs : S.map p with
          | some c => exact .inl (.inr rfl)
          | none =>
            rw [hs, Option.none_or] at h1
            right
            cases hc : clip S.b S.lim ((v : Int), pc T v n) p with
            | none => rw [hc] at h1; cases h1
            | some c =>
              have := clip_at hc
              rw [this] at e1
              have := e1.symm
              simp only [Option.isSome_some, decide_eq_true_eq] at this; omega
    · rw [hp.map] at hpc
      cases hs : S.map p with
      | some d => rw [hs] at hpc; injection hpc with hpc; subst hpc; exact h.mp p d hs
      | none =>
        rw [hs, Option.none_or] at hpc
        have h1 := clip_at hpc
        have h2 := pc_at h1
        have h3 : ((v : Int) ≤ p ∧ p < v + n) := by
          have := at1_is ((v : Int), pc T v n) p
          rw [h1] at this
          simp only [endP, hpl, Option.isSome_some] at this
          exact of_decide_eq_true this.symm
        exact ⟨by omega, by omega, h2⟩
  refine ⟨key, hp.o, ?_⟩
  have c1 := h.cnt
  have c2 := key.cnt
  have c3 := mark_cnt C v n (by rw [h.cl]; omega)
  rw [hp.o] at c2
  omega
theorem PI.ready {T : List Int} {C : List Bool} {S : SS} {out : List Int} (h : PI T C S out) (hTl : T.length = 512) (m : Nat) : out ++ S.r.take m = T.take (S.o.toNat + min m S.r.length) := by
  have h0 := h.ok.b0
  rw [h.ou]
  have e : S.r.take m = (T.drop S.o.toNat).take (min m S.r.length) := by
    have hb := (ends_in h.ok h.le h.mp).1
    have hbo : S.b = S.o + S.r.length := by simp only [SS.o]; omega
    refine List.ext_getElem (by simp only [List.length_take, List.length_drop]; omega) fun i h1 h2 => ?_
    simp only [List.length_take] at h1
    have e1 : at1 (S.o, S.r) (S.o + i) = some (S.r[i]'(by omega)) := by
      unfold at1
      simp only
      rw [if_pos (by omega), show (S.o + i - S.o).toNat = i by omega, List.getElem?_eq_getElem (by omega)]
    have e2 : S.map (S.o + i) = some (S.r[i]'(by omega)) := by
      simp only [SS.map, mapS]
      have : (S.b - S.r.length, S.r) = (S.o, S.r) := rfl
      rw [this, e1]; rfl
    have e3 := (h.mp _ _ e2).2.2
    rw [List.getElem_take, List.getElem_take, List.getElem_drop]
    rw [show (S.o + (i : Int)).toNat = S.o.toNat + i by omega] at e3
    rw [List.getElem?_eq_getElem (by omega)] at e3
    injection e3 with e3; exact e3.symm
  rw [e, List.take_add]
theorem PI.read {T : List Int} {C : List Bool} {S : SS} {out : List Int} (h : PI T C S out) (hTl : T.length = 512) (k : Nat) :
    PI T C (readF S k) (out ++ S.r.take (readN S.b S.r S.ps k)) ∧ (out ++ S.r.take (readN S.b S.r S.ps k)).length = (readF S k).o.toNat ∧ (readF S k).o ≤ (readF S k).b := by
  have h0 := h.ok.b0
  have hn := read_n h.ok (k := k) (by omega)
  obtain ⟨r1, r2⟩ := read_ok h.ok (k := k) (by omega)
  have hb := (ends_in h.ok h.le h.mp).1
  have hbo : S.b = S.o + S.r.length := by simp only [SS.o]; omega
  rw [Int.toNat_natCast] at hn r2
  have hre := h.ready hTl (readN S.b S.r S.ps k)
  have hmn : min (readN S.b S.r S.ps k) S.r.length = min k S.r.length := by rw [hn]; omega
  rw [hmn] at hre
  have ho' : (readF S k).o.toNat = S.o.toNat + min k S.r.length := by omega
  have hb' : (readF S k).b = S.b := rfl
  have hmap : ∀ p, (readF S k).o ≤ p → (readF S k).map p = S.map p := by
    intro p hp
    simp only [readF, SS.map, mapS, List.length_drop, hn]
    have e1 := at1_app (S.b - S.r.length) (S.r.take (min k S.r.length)) (S.r.drop (min k S.r.length)) p
    rw [List.take_append_drop, List.length_take] at e1
    rw [e1, at1_none (q := (S.b - S.r.length, S.r.take (min k S.r.length))) (.inr (by simp only [endP, List.length_take]; omega)), Option.none_or]
    rw [show S.b - (S.r.length : Int) + ((min (min k S.r.length) S.r.length : Nat) : Int) = S.b - ((S.r.length - min k S.r.length : Nat) : Int) by omega]
  refine ⟨⟨r1, h.bl, h.br.drop _, by omega, by rw [hre, ho'], h.cl, fun p hp => ?_, fun p c hpc => ?_⟩, by rw [hre, List.length_take, ho']; omega, by rw [hb']; omega⟩
  · rw [h.ca p hp]
    rcases Int.lt_or_le (p : Int) (readF S k).o with h1 | h1
    · constructor
      · intro _; exact .inl h1
      · intro _
        rcases Int.lt_or_le (p : Int) S.o with h2 | h2
        · exact .inl h2
        · obtain ⟨c, hc⟩ := map_some (T := S) (p := (p : Int)) h2 (by omega)
          rw [hc]; exact .inr rfl
    · rw [hmap p h1]
      constructor
      · rintro (h2 | h2)
        · omega
        · exact .inr h2
      · rintro (h2 | h2)
        · omega
        · exact .inr h2
  · rcases Int.lt_or_le p (readF S k).o with h1 | h1
    · rw [map_low r1 h1] at hpc; cases hpc
    · rw [hmap p h1] at hpc; exact h.mp p c hpc
theorem PI.first {T : List Int} {C : List Bool} {S : SS} {out : List Int} (h : PI T C S out) : S.b ≤ 512 ∧ 0 ≤ S.b ∧ (∀ p : Nat, (p : Int) < S.b → C.getD p false = true) ∧ ∀ p : Nat, (p : Int) = S.b → p < 512 → C.getD p false = false := by
  have hb := (ends_in h.ok h.le h.mp).1
  have hbo : S.b = S.o + S.r.length := by simp only [SS.o]; omega
  refine ⟨hb, h.ok.b.1, fun p hp => ?_, fun p hp hl => ?_⟩
  · rw [h.ca p (by omega)]
    rcases Int.lt_or_le (p : Int) S.o with h1 | h1
    · exact .inl h1
    · obtain ⟨c, hc⟩ := map_some h1 hp
      rw [hc]; exact .inr rfl
  · cases hc : C.getD p false with
    | false => rfl
    | true =>
      rcases (h.ca p hl).1 hc with h1 | h1
      · omega
      · rw [hp, map_b h.ok] at h1; cases h1
theorem PI.start {T : List Int} : PI T (List.replicate 512 false) ⟨0, [], []⟩ [] := by
  refine ⟨ok0, nilB, Bytes.nil, by decide, rfl, List.length_replicate, fun p hp => ?_, fun p c hpc => ?_⟩
  · have : (List.replicate 512 false).getD p false = false := by rw [List.getD_eq_getElem?_getD, List.getElem?_replicate, if_pos hp]; rfl
    rw [this]
    have hm : (SS.mk 0 [] []).map p = none := by
      simp only [SS.map, mapS, atL_nil, Option.or_none]
      exact at1_none (by simp only [endP, List.length_nil]; omega)
    rw [hm]
    simp only [SS.o, List.length_nil]
    constructor
    · intro h; cases h
    · rintro (h | h)
      · omega
      · cases h
  · have hm : (SS.mk 0 [] []).map p = none := by
      simp only [SS.map, mapS, atL_nil, Option.or_none]
      exact at1_none (by simp only [endP, List.length_nil]; omega)
    rw [hm] at hpc; cases hpc
end Go.Proofs.Ytoeefdjomhbnlaa
