/-
  Layer 24: a text's pieces that came, and were read.
-/
import Derived.Test.YtjdemohgegldaaaT25
namespace Go.Proofs.Ytjdemohgegldaaa
set_option linter.unusedSimpArgs false
set_option linter.unusedVariables false

theorem at1_is (q : Pt) (p : Int) : (at1 q p).isSome = decide (q.1 ≤ p ∧ p < endP q) := by
  rcases at1_or (q := q) (p := p) with h | h
  · obtain ⟨c, hc⟩ := at1_some h.1 h.2
    rw [hc]; simp [h]
  · rw [h]
    symm
    simp only [Option.isSome_none, decide_eq_false_iff_not]
    intro hh
    obtain ⟨c, hc⟩ := at1_some hh.1 hh.2
    rw [hc] at h; cases h
theorem atL_mem {l : List Pt} {q : Pt} {p : Int} (hq : q ∈ l) (h0 : q.1 ≤ p) (h1 : p < endP q) : ∃ c, atL l p = some c := by
  cases h : atL l p with
  | some c => exact ⟨c, rfl⟩
  | none =>
    have := List.findSome?_eq_none_iff.1 h q hq
    obtain ⟨c, hc⟩ := at1_some h0 h1
    rw [hc] at this; cases this

theorem map_low {S : SS} (h : S.Ok) {p : Int} (hp : p < S.o) : S.map p = none := by
  have hso : S.o ≤ S.b := by simp only [SS.o]; omega
  simp only [SS.map, mapS]
  rw [at1_none (.inl (by simp only [SS.o] at hp; exact hp)), W.off h.w (by omega)]; rfl
theorem map_b {S : SS} (h : S.Ok) : S.map S.b = none := by
  simp only [SS.map, mapS]
  rw [at1_none (.inr (by simp only [endP]; omega)), W.off h.w (Int.le_refl _)]; rfl
theorem ends_in {T : List Int} {S : SS} (ho : S.Ok) (hle : S.o ≤ T.length) (hm : ∀ (p c : Int), S.map p = some c → 0 ≤ p ∧ p < T.length ∧ T[p.toNat]? = some c) : S.b ≤ T.length ∧ ∀ q ∈ S.ps, endP q ≤ T.length := by
  have hso : S.o ≤ S.b := by simp only [SS.o]; omega
  constructor
  · rcases Int.lt_or_le S.o S.b with h | h
    · obtain ⟨c, hc⟩ := map_some (T := S) (p := S.b - 1) (by omega) (by omega)
      have := (hm _ _ hc).2.1; omega
    · omega
  · intro q hq
    obtain ⟨k, hk, rfl⟩ := List.mem_iff_getElem.1 hq
    have ha := W_at ho.w hk
    simp only [List.getD_eq_getElem?_getD, List.getElem?_eq_getElem hk, Option.getD_some] at ha
    have hl := ne_len.1 ha.1
    have he : endP S.ps[k] = S.ps[k].1 + S.ps[k].2.length := rfl
    obtain ⟨c, hc⟩ := atL_mem (p := endP S.ps[k] - 1) hq (by omega) (by omega)
    have hb := ho.b
    have h1 : S.map (endP S.ps[k] - 1) = some c := by
      simp only [SS.map, mapS]
      rw [at1_none (.inr (by simp only [endP] at *; omega)), hc]; rfl
    have := (hm _ _ h1).2.1; omega
/-- What holds of a text's pieces: what was read, what is there. -/
structure PJ (T : List Int) (S : SS) (out : List Int) : Prop where
  ok : S.Ok
  bl : BytesL S.ps
  br : Bytes S.r
  le : S.o ≤ T.length
  ou : out = T.take S.o.toNat
  mp : ∀ (p c : Int), S.map p = some c → 0 ≤ p ∧ p < T.length ∧ T[p.toNat]? = some c
theorem pc_b {T : List Int} (h : Bytes T) (v n : Nat) : Bytes (pc T v n) := (h.drop _).take _
theorem PJ.high {T : List Int} {S : SS} {out : List Int} (h : PJ T S out) : highF S.b S.ps ≤ T.length := by
  obtain ⟨e1, e2⟩ := ends_in h.ok h.le h.mp
  unfold highF
  split
  · exact e1
  · rename_i hn
    have hl : S.ps.length - 1 < S.ps.length := by
      cases hp : S.ps with
      | nil => exact absurd hp hn
      | cons q t => simp
    exact e2 _ (by simp [List.getD, hl])
theorem PJ.put {T : List Int} {S : SS} {out : List Int} (h : PJ T S out) (hT : Bytes T) {v n : Nat} (hn : v + n ≤ T.length) : PJ T (putF S v (pc T v n)) out := by
  have hp := put_ok h.ok (v : Int) (pc T v n)
  have hk := putF_bytes h.ok h.bl h.br (v := (v : Int)) (pc_b hT v n)
  have hpl : (pc T v n).length = n := pc_len hn
  refine ⟨hp.ok, hk.1, hk.2, by rw [hp.o]; exact h.le, by rw [hp.o]; exact h.ou, fun p c hpc => ?_⟩
  rw [hp.map] at hpc
  cases hs : S.map p with
  | some d => rw [hs] at hpc; injection hpc with hpc; subst hpc; exact h.mp p d hs
  | none =>
    rw [hs, Option.none_or] at hpc
    have h1 := clip_at hpc
    have h2 := pc_at h1
    have h3 : ((v : Int) ≤ p ∧ p < v + n) := by
      have := at1_is ((v : Int), pc T v n) p
      rw [h1] at this
      simp only [endP, hpl, Option.isSome_some] at this
      exact of_decide_eq_true this.symm
    exact ⟨by omega, by omega, h2⟩
theorem PJ.ready {T : List Int} {S : SS} {out : List Int} (h : PJ T S out) (m : Nat) : out ++ S.r.take m = T.take (S.o.toNat + min m S.r.length) := by
  have h0 := h.ok.b0
  rw [h.ou]
  have e : S.r.take m = (T.drop S.o.toNat).take (min m S.r.length) := by
    have hb := (ends_in h.ok h.le h.mp).1
    have hbo : S.b = S.o + S.r.length := by simp only [SS.o]; omega
    refine List.ext_getElem (by simp only [List.length_take, List.length_drop]; omega) fun i h1 h2 => ?_
    simp only [List.length_take] at h1
    have e1 : at1 (S.o, S.r) (S.o + i) = some (S.r[i]'(by omega)) := by
      unfold at1
      simp only
      rw [if_pos (by omega), show (S.o + i - S.o).toNat = i by omega, List.getElem?_eq_getElem (by omega)]
    have e2 : S.map (S.o + i) = some (S.r[i]'(by omega)) := by
      simp only [SS.map, mapS]
      have : (S.b - S.r.length, S.r) = (S.o, S.r) := rfl
      rw [this, e1]; rfl
    have e3 := (h.mp _ _ e2).2.2
    rw [List.getElem_take, List.getElem_take, List.getElem_drop]
    rw [show (S.o + (i : Int)).toNat = S.o.toNat + i by omega] at e3
    rw [List.getElem?_eq_getElem (by omega)] at e3
    injection e3 with e3; exact e3.symm
  rw [e, List.take_add]
theorem PJ.read {T : List Int} {S : SS} {out : List Int} (h : PJ T S out) (k : Nat) :
    PJ T (readF S k) (out ++ S.r.take (readN S.b S.r S.ps k)) ∧ (out ++ S.r.take (readN S.b S.r S.ps k)).length = (readF S k).o.toNat ∧ (readF S k).o ≤ (readF S k).b := by
  have h0 := h.ok.b0
  have hn := read_n h.ok (k := k) (by omega)
  obtain ⟨r1, r2⟩ := read_ok h.ok (k := k) (by omega)
  have hb := (ends_in h.ok h.le h.mp).1
  have hbo : S.b = S.o + S.r.length := by simp only [SS.o]; omega
  rw [Int.toNat_natCast] at hn r2
  have hre := h.ready (readN S.b S.r S.ps k)
  have hmn : min (readN S.b S.r S.ps k) S.r.length = min k S.r.length := by rw [hn]; omega
  rw [hmn] at hre
  have ho' : (readF S k).o.toNat = S.o.toNat + min k S.r.length := by omega
  have hb' : (readF S k).b = S.b := rfl
  have hmap : ∀ p, (readF S k).o ≤ p → (readF S k).map p = S.map p := by
    intro p hp
    simp only [readF, SS.map, mapS, List.length_drop, hn]
    have e1 := at1_app (S.b - S.r.length) (S.r.take (min k S.r.length)) (S.r.drop (min k S.r.length)) p
    rw [List.take_append_drop, List.length_take] at e1
    rw [e1, at1_none (q := (S.b - S.r.length, S.r.take (min k S.r.length))) (.inr (by simp only [endP, List.length_take]; omega)), Option.none_or]
    rw [show S.b - (S.r.length : Int) + ((min (min k S.r.length) S.r.length : Nat) : Int) = S.b - ((S.r.length - min k S.r.length : Nat) : Int) by omega]
  refine ⟨⟨r1, h.bl, h.br.drop _, by omega, by rw [hre, ho'], fun p c hpc => ?_⟩, by rw [hre, List.length_take, ho']; omega, by rw [hb']; omega⟩
  · rcases Int.lt_or_le p (readF S k).o with h1 | h1
    · rw [map_low r1 h1] at hpc; cases hpc
    · rw [hmap p h1] at hpc; exact h.mp p c hpc
theorem nilB : BytesL (SS.mk 0 [] []).ps := fun _ h => by cases h
theorem PJ.start {T : List Int} : PJ T ⟨0, [], []⟩ [] := by
  refine ⟨ok0, nilB, Bytes.nil, (show (0 : Int) - (0 : Nat) ≤ _ by omega), rfl, fun p c hpc => ?_⟩
  have hm : (SS.mk 0 [] []).map p = none := by
    simp only [SS.map, mapS, atL_nil, Option.or_none]
    exact at1_none (by simp only [endP, List.length_nil]; omega)
  rw [hm] at hpc; cases hpc
/-- Behind the whole text all is there. -/
theorem PJ.all {T : List Int} {S : SS} {out : List Int} (h : PJ T S out) (hT : Bytes T) (hl : T.length ≤ 255) : (putF S 0 (pc T 0 T.length)).b = T.length := by
  have hk := h.put hT (v := 0) (n := T.length) (by omega)
  have hp := put_ok h.ok ((0 : Nat) : Int) (pc T 0 T.length)
  have hb := (ends_in hk.ok hk.le hk.mp).1
  have h0 := h.ok.b0
  have hlim : 4096 ≤ S.lim := by rw [SS.lim_o]; omega
  have hbl := h.ok.b
  rcases Int.lt_or_eq_of_le hb with h1 | h1
  · exfalso
    have hn := map_b hk.ok
    rw [hp.map] at hn
    have hup := hp.up
    have e2 : clip S.b S.lim (((0 : Nat) : Int), pc T 0 T.length) (putF S ((0 : Nat) : Int) (pc T 0 T.length)).b = at1 (((0 : Nat) : Int), pc T 0 T.length) (putF S ((0 : Nat) : Int) (pc T 0 T.length)).b := by
      unfold clip; rw [if_pos ⟨hup, by omega⟩]
    rw [e2] at hn
    obtain ⟨c, hc⟩ := at1_some (q := (((0 : Nat) : Int), pc T 0 T.length)) (p := (putF S ((0 : Nat) : Int) (pc T 0 T.length)).b) (by simp only; omega) (by simp only [endP, pc_len (T := T) (v := 0) (n := T.length) (by omega)]; omega)
    rw [hc] at hn
    cases hm : S.map (putF S ((0 : Nat) : Int) (pc T 0 T.length)).b with
    | some d => rw [hm] at hn; cases hn
    | none => rw [hm] at hn; cases hn
  · exact h1
theorem pc_all (T : List Int) : pc T 0 T.length = T := by simp [pc]
def endE (k : Bool) (n : Nat) : Int := if k then (n : Int) else -1
theorem PJ.chk {T : List Int} {S : SS} {out : List Int} (h : PJ T S out) (hl : T.length ≤ 255) (k : Bool) : (RS.mk S (endE k T.length)).chk = 0 := by
  unfold RS.chk
  simp only
  rw [chkR_ok (chk_ok.2 h.ok)]
  have := h.high
  unfold endE
  cases k
  · rw [if_neg (by simp)]
  · simp only [if_true]; rw [if_neg (by omega)]
theorem PJ.putR {T : List Int} {S : SS} {out : List Int} (h : PJ T S out) (hl : T.length ≤ 255) (k : Bool) {v n : Nat} (hn : v + n ≤ T.length) : (RS.mk S (endE k T.length)).put v (pc T v n) (decide ((v : Int) + n = T.length)) = ⟨putF S v (pc T v n), endE (k || decide ((v : Int) + n = T.length)) T.length⟩ ∧ (RS.mk S (endE k T.length)).code v (pc T v n) (decide ((v : Int) + n = T.length)) = 0 := by
  have hpl : (pc T v n).length = n := pc_len hn
  have hg : (RS.mk S (endE k T.length)).good (v : Int) (pc T v n).length := good_of (h.chk hl k) (by omega) (by omega)
  have hh := h.high
  have hs : ¬ (RS.mk S (endE k T.length)).shut (v : Int) (pc T v n).length (decide ((v : Int) + n = T.length)) := by
    unfold RS.shut shutF
    simp only [hpl, decide_eq_true_eq]
    unfold endE
    cases k
    · simp only [Bool.false_eq_true, if_false]; omega
    · simp only [if_true]; omega
  obtain ⟨a1, a2, _⟩ := put_fine_eq hg hs
  refine ⟨?_, a2⟩
  rw [a1, hpl]
  congr 1
  unfold endE
  by_cases hf : (v : Int) + n = T.length
  · simp [hf]
  · simp [hf]
theorem PJ.whole {T : List Int} {S : SS} {out : List Int} (h : PJ T S out) (hl : T.length ≤ 255) (k : Bool) : wholeF S.b S.r.length S.ps (endE k T.length) = (k && decide (S.b = T.length)) := by
  have hc := h.chk hl k
  unfold RS.chk at hc
  simp only at hc
  unfold wholeF
  rw [hc]
  have hb := (ends_in h.ok h.le h.mp).1
  cases k
  · simp [endE]
  · have : decide ((T.length : Int) ≠ -1) = true := by rw [decide_eq_true_eq]; omega
    simp only [endE, if_true, this, decide_true, Bool.true_and]
theorem PJ.ended {T : List Int} {S : SS} {out : List Int} (h : PJ T S out) (hl : T.length ≤ 255) (k : Bool) : (wholeF S.b S.r.length S.ps (endE k T.length) && decide (S.r.length = 0)) = (k && decide (S.o = T.length)) := by
  rw [h.whole hl k]
  have hb := (ends_in h.ok h.le h.mp).1
  have hbo : S.b = S.o + S.r.length := by simp only [SS.o]; omega
  cases k
  · simp
  · simp only [Bool.true_and]
    rw [Bool.eq_iff_iff, Bool.and_eq_true, decide_eq_true_eq, decide_eq_true_eq, decide_eq_true_eq]
    omega
/-- What comes behind a known end is refused. -/
theorem PJ.over {T : List Int} {S : SS} {out : List Int} (h : PJ T S out) (hl : T.length ≤ 255) : (RS.mk S (endE true T.length)).num T.length [63] false = 0 ∧ (RS.mk S (endE true T.length)).code T.length [63] false = 5 := by
  have hg : (RS.mk S (endE true T.length)).good (T.length : Int) ([63] : List Int).length := good_of (h.chk hl true) (by omega) (by have : ([63] : List Int).length = 1 := rfl; omega)
  have hs : (RS.mk S (endE true T.length)).shut (T.length : Int) ([63] : List Int).length false := by
    unfold RS.shut shutF endE
    exact .inl ⟨by simp only [if_true]; omega, .inl (by have : ([63] : List Int).length = 1 := rfl; simp only [if_true]; omega)⟩
  obtain ⟨_, a2, a3⟩ := put_shut_eq hg hs
  exact ⟨a3, a2⟩
end Go.Proofs.Ytjdemohgegldaaa
