/-
  Layer 18: what an arena keeps.
-/
import Derived.Test.YtlamjfdghhbkpaaT1
import Derived.Test.YtlamjfdghhbkpaaT2
import Derived.Test.YtlamjfdghhbkpaaT3
import Derived.Test.YtlamjfdghhbkpaaT4
import Derived.Test.YtlamjfdghhbkpaaT5
import Derived.Test.YtlamjfdghhbkpaaT6
import Derived.Test.YtlamjfdghhbkpaaT7
import Derived.Test.YtlamjfdghhbkpaaT8
import Derived.Test.YtlamjfdghhbkpaaT9
import Derived.Test.YtlamjfdghhbkpaaT10
import Derived.Test.YtlamjfdghhbkpaaT11
namespace Go.Proofs.Ytlamjfdghhbkpaa
open Go.RowKit
set_option linter.unusedSimpArgs false
set_option linter.unusedVariables false


theorem takeL (cs : List Cl) (f u v : Int) : ((takeF cs f u v).1 = [] → cs = []) ∧ (takeF cs f u v).1.length ≤ cs.length + 1 := by
  unfold takeF
  (repeat' split) <;> simp
theorem giveL (cs : List Cl) (f u z : Int) : ((giveF cs f u z).1 = [] → cs = []) ∧ (giveF cs f u z).1.length ≤ cs.length := by
  unfold giveF
  (repeat' split) <;> simp
theorem setL_ (cs : List Cl) (f u z v : Int) : ((setF cs f u z v) = [] → cs = []) ∧ (setF cs f u z v).length ≤ cs.length := by
  unfold setF
  (repeat' split) <;> simp
theorem same_self (a : List Cl) (f u : Int) : sameS a a f f u u = true := by simp [sameS, sameC]
theorem fitC2 {x : D} {cs : List Cl} (h : IsL 3 (cls cs) x) : x = .v nilS ∨ ∃ es, x = .sl 3 es := fitC h
/-- A cell among n. -/
def ClOk (n : Nat) (c : Cl) : Prop := (c.live = true → c.link = 0) ∧ (c.live = false → c.val = 0 ∧ -1 ≤ c.link ∧ c.link < (n : Nat))
theorem any_false {cs : List Cl} {p : Cl → Bool} : cs.any p = false ↔ ∀ i, i < cs.length → p (cs.getD i c0) = false := by
  constructor
  · intro h i hi
    cases e : p (cs.getD i c0)
    · rfl
    · rw [any_at hi e] at h; cases h
  · intro h
    rw [List.any_eq_false]
    intro c hc
    obtain ⟨i, hi, rfl⟩ := List.getElem_of_mem hc
    have := h i hi
    rw [List.getD_eq_getElem?_getD, List.getElem?_eq_getElem hi] at this
    simpa using this
theorem chk_iff (cs : List Cl) (f u : Int) : chkF cs f u = 0 ↔ cs.length ≤ 64 ∧ (-1 ≤ f ∧ f < (cs.length : Nat)) ∧ (∀ i, i < cs.length → ClOk cs.length (cs.getD i c0)) ∧ u = (cntL cs : Nat) ∧ chF cs (cs.length - cntL cs) f = true := by
  constructor
  · intro h
    obtain ⟨h1, h2, h3, h4, h5, h6⟩ := chk_ok h
    refine ⟨h1, by simpa [linkB] using h2, fun i hi => ?_, h5, h6⟩
    have g3 := any_false.1 h3 i hi
    have g4 := any_false.1 h4 i hi
    generalize cs.getD i c0 = c at g3 g4
    obtain ⟨l, v, k⟩ := c
    cases l <;> simp_all [ClOk, bl1, bl2, linkB]
  · rintro ⟨h1, h2, h3, h5, h6⟩
    unfold chkF
    rw [if_neg (by omega), if_neg (by simp [linkB, h2]), if_neg, if_neg, if_neg]
    · rintro (h | h)
      · exact h h5
      · rw [h6] at h; cases h
    · rw [Bool.not_eq_true, any_false]
      intro i hi
      have := h3 i hi
      generalize cs.getD i c0 = c at this
      obtain ⟨l, v, k⟩ := c
      cases l <;> simp_all [ClOk, bl2]
    · rw [Bool.not_eq_true, any_false]
      intro i hi
      have := h3 i hi
      generalize cs.getD i c0 = c at this
      obtain ⟨l, v, k⟩ := c
      cases l <;> simp_all [ClOk, bl1, linkB]
theorem getD_set_ne {cs : List Cl} {i j : Nat} (c : Cl) (h : i ≠ j) : (cs.set i c).getD j c0 = cs.getD j c0 := by simp [List.getD, List.getElem?_set, h]
theorem getD_set_eq {cs : List Cl} {i : Nat} (c : Cl) (h : i < cs.length) : (cs.set i c).getD i c0 = c := by simp [List.getD, h]
theorem cnt_set {cs : List Cl} {i : Nat} (c : Cl) (h : i < cs.length) : cntL (cs.set i c) + (if (cs.getD i c0).live then 1 else 0) = cntL cs + (if c.live then 1 else 0) := by
  have hp : (cs.getD i c0).live = true → 0 < cntL cs := cnt_pos h
  unfold cntL at hp ⊢
  rw [List.countP_set h]
  have e : cs.getD i c0 = cs[i] := by simp [List.getD, h]
  rw [e] at hp ⊢
  split
  · rename_i h2; have := hp h2; omega
  · omega
theorem chF_congr {cs cs' : List Cl} (hlo : LinksOk cs) : ∀ {m : Nat} {z : Int}, -1 ≤ z → z < (cs.length : Nat) → chF cs m z = true → (∀ e ∈ chL cs m z, cs'.getD e.toNat c0 = cs.getD e.toNat c0) → chF cs' m z = true
  | 0, z, _, _, h, _ => h
  | m + 1, z, h0, h1, h, he => by
    obtain ⟨h2, h3, h4⟩ := chF_step h
    have hz : 0 ≤ z := by omega
    have hlk := hlo z.toNat (by omega) h3
    rw [chL_step _ _ hz] at he
    have e1 := he z (by simp)
    simp only [chF]
    rw [if_neg h2, e1, if_neg (by rw [h3]; simp)]
    exact chF_congr hlo hlk.1 hlk.2 h4 fun e hm => he e (List.mem_cons_of_mem _ hm)
theorem links_ok {cs : List Cl} (h : ∀ i, i < cs.length → ClOk cs.length (cs.getD i c0)) : LinksOk cs := fun i hi hl => ((h i hi).2 hl).2
theorem chL_spare {cs : List Cl} (hlo : LinksOk cs) {m : Nat} {z : Int} (h0 : -1 ≤ z) (h1 : z < (cs.length : Nat)) (h : chF cs m z = true) : (chL cs m z).Nodup ∧ ∀ e ∈ chL cs m z, 0 ≤ e ∧ e < (cs.length : Nat) ∧ (cs.getD e.toNat c0).live = false := by
  obtain ⟨_, _, g3, g4⟩ := chL_of hlo h0 h1 h 0
  exact ⟨g3, fun e he => (g4 e he).1⟩
theorem take_keeps {cs : List Cl} {f u : Int} (v : Int) (h : chkF cs f u = 0) : chkF (takeF cs f u v).1 (takeF cs f u v).2.1 (takeF cs f u v).2.2.1 = 0 := by
  have hc := cnt_le cs
  by_cases h64 : 64 ≤ u
  · have hG : takeF cs f u v = (cs, f, u, 0, 7) := by unfold takeF; rw [if_neg (by omega), if_pos h64]
    rw [hG]; exact h
  obtain ⟨h1, h2, h3, h4, h5⟩ := (chk_iff cs f u).1 h
  by_cases hf : f = -1
  · have hG : takeF cs f u v = (cs ++ [⟨true, v, 0⟩], -1, u + 1, ((cs.length : Nat) : Int), 0) := by unfold takeF; rw [if_neg (by omega), if_neg h64, if_pos hf]
    rw [hG]
    subst hf
    have hm : cs.length - cntL cs = 0 := chF_uniq (k := 0) h5 (by simp [chF])
    have hcc : cntL (cs ++ [⟨true, v, 0⟩]) = cntL cs + 1 := by simp [cntL, List.countP_append, List.countP_cons]
    rw [chk_iff]
    simp only [List.length_append, List.length_cons, List.length_nil, hcc]
    refine ⟨by omega, by omega, fun i hi => ?_, by omega, ?_⟩
    · by_cases e : i < cs.length
      · rw [show (cs ++ [(⟨true, v, 0⟩ : Cl)]).getD i c0 = cs.getD i c0 by simp [List.getD, List.getElem?_append_left e]]
        have := h3 i e
        refine ⟨this.1, fun hl => ?_⟩
        have := this.2 hl
        omega
      · have : i = cs.length := by omega
        subst this
        rw [show (cs ++ [(⟨true, v, 0⟩ : Cl)]).getD cs.length c0 = ⟨true, v, 0⟩ by simp [List.getD]]
        exact ⟨fun _ => rfl, fun h => by cases h⟩
    · rw [show cs.length + (0 + 1) - (cntL cs + 1) = 0 by omega]; simp [chF]
  · obtain ⟨hz0, hz1, lk, hcell, hk0, hk1⟩ := free_ok h hf
    have hG : takeF cs f u v = (cs.set f.toNat ⟨true, v, 0⟩, lk, u + 1, f, 0) := by unfold takeF; rw [if_neg (by omega), if_neg h64, if_neg hf, hcell]
    rw [hG]
    have hlt : f.toNat < cs.length := by omega
    have hlo := links_ok h3
    have hcs := cnt_set (cs := cs) (i := f.toNat) ⟨true, v, 0⟩ hlt
    rw [hcell] at hcs
    simp only [Bool.false_eq_true, if_false, if_true] at hcs
    have hnd := chL_spare hlo h2.1 h2.2 h5
    obtain ⟨m, hm⟩ : ∃ m, cs.length - cntL cs = m + 1 := ⟨cs.length - cntL cs - 1, by have := cnt_lt hlt (by rw [hcell]); omega⟩
    rw [hm] at h5 hnd
    obtain ⟨_, _, g3⟩ := chF_step h5
    rw [hcell] at g3
    rw [chL_step _ _ hz0, hcell] at hnd
    simp only [List.nodup_cons] at hnd
    rw [chk_iff]
    simp only [List.length_set]
    refine ⟨h1, ⟨hk0, hk1⟩, fun i hi => ?_, by omega, ?_⟩
    · by_cases e : f.toNat = i
      · subst e; rw [getD_set_eq _ hlt]; exact ⟨fun _ => rfl, fun h => by cases h⟩
      · rw [getD_set_ne _ e]; exact h3 i hi
    · rw [show cs.length - cntL (cs.set f.toNat ⟨true, v, 0⟩) = m by omega]
      refine chF_congr hlo hk0 hk1 g3 fun e he => getD_set_ne _ fun e2 => ?_
      have he2 := (hnd.2 e (by simp [he])).1
      have : f = e := by omega
      subst this
      exact hnd.1.1 he
theorem give_keeps {cs : List Cl} {f u : Int} (z : Int) (h : chkF cs f u = 0) : chkF (giveF cs f u z).1 (giveF cs f u z).2.1 (giveF cs f u z).2.2 = 0 := by
  by_cases h0 : findF cs f u z = 0
  · have hG : giveF cs f u z = (cs.set z.toNat ⟨false, 0, f⟩, z, u - 1) := by unfold giveF; rw [if_pos h0]
    rw [hG]
    obtain ⟨_, hz0, hz1, vl, hcell⟩ := find_ok h0
    obtain ⟨h1, h2, h3, h4, h5⟩ := (chk_iff cs f u).1 h
    have hlt : z.toNat < cs.length := by omega
    have hlo := links_ok h3
    have hc := cnt_le cs
    have hcs := cnt_set (cs := cs) (i := z.toNat) ⟨false, 0, f⟩ hlt
    rw [hcell] at hcs
    simp only [Bool.false_eq_true, if_false, if_true] at hcs
    have hnd := chL_spare hlo h2.1 h2.2 h5
    rw [chk_iff]
    simp only [List.length_set]
    refine ⟨h1, ⟨by omega, hz1⟩, fun i hi => ?_, by omega, ?_⟩
    · by_cases e : z.toNat = i
      · subst e; rw [getD_set_eq _ hlt]; exact ⟨(fun h => by cases h), fun _ => ⟨rfl, h2⟩⟩
      · rw [getD_set_ne _ e]; exact h3 i hi
    · rw [show cs.length - cntL (cs.set z.toNat ⟨false, 0, f⟩) = (cs.length - cntL cs) + 1 by omega]
      simp only [chF]
      rw [if_neg (by omega), getD_set_eq _ hlt]
      simp only [Bool.false_eq_true, if_false]
      refine chF_congr hlo h2.1 h2.2 h5 fun e he => getD_set_ne _ fun e2 => ?_
      have he2 := (hnd.2 e he)
      have : z = e := by omega
      subst this
      rw [hcell] at he2; exact absurd he2.2.2 (by simp)
  · have hG : giveF cs f u z = (cs, f, u) := by unfold giveF; rw [if_neg h0]
    rw [hG]; exact h
theorem liveL_cnt (cs : List Cl) : ∀ k, k ≤ cs.length → (liveL cs k).length = cntL (cs.take k)
  | 0, _ => by simp [liveL, cntL]
  | k + 1, h => by
    have := liveL_cnt cs k (by omega)
    rw [take_cnt (by omega), liveL, List.length_append, this]
    split <;> simp
theorem take_err {cs : List Cl} {f u : Int} {v : Int} (h : chkF cs f u = 0) (he : (takeF cs f u v).2.2.2.2 ≠ 0) : takeF cs f u v = (cs, f, u, 0, 7) ∧ u = 64 := by
  obtain ⟨h1, h2, h3, h4, h5⟩ := (chk_iff cs f u).1 h
  have hc := cnt_le cs
  by_cases h64 : 64 ≤ u
  · exact ⟨by unfold takeF; rw [if_neg (by omega), if_pos h64], by omega⟩
  · exfalso; apply he; unfold takeF; rw [if_neg (by omega), if_neg h64]; split <;> rfl
theorem take_give {cs c1 : List Cl} {f u v f1 u1 p e : Int} (h : chkF cs f u = 0) (hT : takeF cs f u v = (c1, f1, u1, p, e)) (he : e = 0) : findF c1 f1 u1 p = 0 ∧ getV c1 f1 u1 p = v ∧ u1 = u + 1 ∧ u < 64 ∧ 
    ∃ c2 f2, giveF c1 f1 u1 p = (c2, f2, u) ∧ chkF c2 f2 u = 0 ∧ sameS c2 cs f2 f u u = decide (0 < (spareF cs f u).length) ∧ (liveF c2 f2 u).length = u := by
  have hk := take_keeps v h
  rw [hT] at hk
  simp only at hk
  obtain ⟨h1, h2, h3, h4, h5⟩ := (chk_iff cs f u).1 h
  have hc := cnt_le cs
  have h64 : ¬ 64 ≤ u := fun h64 => by
    have hG : takeF cs f u v = (cs, f, u, 0, 7) := by unfold takeF; rw [if_neg (by omega), if_pos h64]
    rw [hG] at hT; simp only [Prod.mk.injEq] at hT; omega
  have main : (0 ≤ p ∧ p < (c1.length : Nat) ∧ c1.getD p.toNat c0 = ⟨true, v, 0⟩) ∧ u1 = u + 1 ∧ ∃ c2 f2, c2 = c1.set p.toNat ⟨false, 0, f1⟩ ∧ f2 = p ∧ sameS c2 cs f2 f u u = decide (0 < (spareF cs f u).length) := by
    have hsp : spareF cs f u = chL cs (cs.length + 1) f := if_pos h
    by_cases hf : f = -1
    · have hG : takeF cs f u v = (cs ++ [⟨true, v, 0⟩], -1, u + 1, ((cs.length : Nat) : Int), 0) := by unfold takeF; rw [if_neg (by omega), if_neg h64, if_pos hf]
      rw [hG] at hT
      simp only [Prod.mk.injEq] at hT
      obtain ⟨rfl, rfl, rfl, rfl, _⟩ := hT
      refine ⟨⟨by omega, by simp; omega, by simp [List.getD]⟩, rfl, _, _, rfl, rfl, ?_⟩
      rw [hsp, chL_neg _ _ (by omega)]
      have : sameC ((cs ++ [(⟨true, v, 0⟩ : Cl)]).set ((cs.length : Nat) : Int).toNat ⟨false, 0, -1⟩) cs = false := by
        unfold sameC
        rw [decide_eq_false_iff_not]
        intro e
        have := congrArg List.length e
        simp at this
      unfold sameS; rw [this]; simp
    · obtain ⟨hz0, hz1, lk, hcell, hk0, hk1⟩ := free_ok h hf
      have hG : takeF cs f u v = (cs.set f.toNat ⟨true, v, 0⟩, lk, u + 1, f, 0) := by unfold takeF; rw [if_neg (by omega), if_neg h64, if_neg hf, hcell]
      rw [hG] at hT
      simp only [Prod.mk.injEq] at hT
      obtain ⟨rfl, rfl, rfl, rfl, _⟩ := hT
      have hlt : f.toNat < cs.length := by omega
      refine ⟨⟨hz0, by simpa using hz1, getD_set_eq _ hlt⟩, rfl, _, _, rfl, rfl, ?_⟩
      rw [hsp, chL_step _ _ hz0]
      have : (cs.set f.toNat ⟨true, v, 0⟩).set f.toNat ⟨false, 0, lk⟩ = cs := by
        rw [List.set_set]
        have e : cs[f.toNat] = ⟨false, 0, lk⟩ := by rw [← hcell]; simp [List.getD, hlt]
        rw [← e]; exact List.set_getElem_self hlt
      rw [this]
      simp [sameS, sameC]
  obtain ⟨⟨p0, p1, pc⟩, hu, c2, f2, rfl, rfl, hs⟩ := main
  subst hu
  have hfd : findF c1 f1 (u + 1) f2 = 0 := by
    unfold findF
    rw [if_neg (by omega), if_pos]
    unfold liveB
    rw [pc, decide_eq_true ⟨p0, p1⟩]; rfl
  have hg : giveF c1 f1 (u + 1) f2 = (c1.set f2.toNat ⟨false, 0, f1⟩, f2, u) := by
    unfold giveF
    rw [if_pos hfd, show u + 1 - 1 = u by omega]
  have hgk := give_keeps f2 hk
  rw [hg] at hgk
  simp only at hgk
  refine ⟨hfd, by unfold getV; rw [if_pos hfd, pc], rfl, by omega, _, _, hg, hgk, hs, ?_⟩
  rw [show liveF (c1.set f2.toNat ⟨false, 0, f1⟩) f2 u = liveL _ _ from if_pos hgk, liveL_cnt _ _ (Nat.le_refl _), List.take_length]
  exact ((chk_iff _ _ _).1 hgk).2.2.2.1.symm

theorem live_ok {cs : List Cl} {z : Int} (h0 : 0 ≤ z) : liveB cs z = (cs.getD z.toNat c0).live := by
  unfold liveB
  by_cases h : z < (cs.length : Nat)
  · rw [decide_eq_true ⟨h0, h⟩, Bool.true_and]
  · rw [decide_eq_false (by omega), Bool.false_and]
    have : cs.getD z.toNat c0 = c0 := by simp [List.getD, show cs.length ≤ z.toNat by omega]
    rw [this]; rfl
def valC (cs : List Cl) (k : Nat) : Int := if (cs.getD k c0).live = true then (cs.getD k c0).val else 0
structure KeepI (cs : List Cl) (f u : Int) (H : List Int) (most last : Int) : Prop where
  chk : chkF cs f u = 0
  most : (cs.length : Int) ≤ most
  last : last = -1 ∨ (0 ≤ last ∧ f = last)
  len : H.length = 64
  val : ∀ k : Nat, k < 64 → H.getD k 0 = valC cs k
  pos : ∀ k : Nat, (cs.getD k c0).live = true → 1 ≤ (cs.getD k c0).val
section
variable {cs : List Cl} {f u most last : Int} {H : List Int}
theorem keep_bd (h : KeepI cs f u H most last) : 0 ≤ u ∧ u ≤ 64 ∧ cs.length ≤ 64 := by
  obtain ⟨h1, h2, h3, h4, h5⟩ := (chk_iff cs f u).1 h.chk
  have := cnt_le cs
  omega
theorem keep_find (h : KeepI cs f u H most last) {z : Int} (h0 : 0 ≤ z) (h1 : z < 64) : (findF cs f u z = 0 ↔ H.getD z.toNat 0 ≠ 0) ∧ getV cs f u z = H.getD z.toNat 0 := by
  have hv := h.val z.toNat (by omega)
  have hp := h.pos z.toNat
  have hf : findF cs f u z = if (cs.getD z.toNat c0).live = true then 0 else 6 := by
    unfold findF; rw [if_neg (by rw [h.chk]; simp), live_ok h0]
  unfold getV
  rw [hf, hv]
  unfold valC
  generalize cs.getD z.toNat c0 = c at hp
  cases hl : c.live
  · simp
  · have := hp hl
    have hne : c.val ≠ 0 := by omega
    simp [hne]
theorem hset {H : List Int} {k : Nat} (h : k < H.length) (v : Int) (n : Nat) : (H.set k v).getD n 0 = if n = k then v else H.getD n 0 := by
  by_cases e : n = k
  · subst e; simp [List.getD, h]
  · rw [if_neg e]; simp [List.getD, List.getElem?_set, Ne.symm e]
theorem cset {k : Nat} (h : k < cs.length) (c : Cl) (n : Nat) : (cs.set k c).getD n c0 = if n = k then c else cs.getD n c0 := by
  by_cases e : n = k
  · subst e; simp [List.getD, h]
  · rw [if_neg e]; simp [List.getD, List.getElem?_set, Ne.symm e]
theorem capp (c : Cl) (n : Nat) : (cs ++ [c]).getD n c0 = if n = cs.length then c else cs.getD n c0 := by
  by_cases e : n = cs.length
  · subst e; simp [List.getD]
  · rw [if_neg e]
    by_cases h : n < cs.length
    · simp [List.getD, List.getElem?_append_left h]
    · simp [List.getD, List.getElem?_append, h, show ¬ n - cs.length = 0 by omega]
theorem keep_take (h : KeepI cs f u H most last) (hu : u ≠ 64) {v : Int} (hv : 1 ≤ v) : ∃ c1 f1 p, takeF cs f u v = (c1, f1, u + 1, p, 0) ∧ 0 ≤ p ∧ p ≤ 63 ∧ H.getD p.toNat 0 = 0 ∧ (0 ≤ last → p = last) ∧ (c1 = [] → cs = []) ∧
    KeepI c1 f1 (u + 1) (H.set p.toNat v) (max most (u + 1)) (-1) := by
  obtain ⟨h1, h2, h3, h4, h5⟩ := (chk_iff cs f u).1 h.chk
  have hc := cnt_le cs
  have hb := keep_bd h
  have hk := take_keeps v h.chk
  have hm := h.most
  have hla := h.last
  by_cases hf : f = -1
  · have hlen : cs.length - cntL cs = 0 := by
      rcases Nat.eq_zero_or_pos (cs.length - cntL cs) with e | e
      · exact e
      · obtain ⟨m, hm⟩ : ∃ m, cs.length - cntL cs = m + 1 := ⟨_, (Nat.succ_pred_eq_of_pos e).symm⟩
        rw [hm, hf] at h5; simp [chF] at h5
    have hG : takeF cs f u v = (cs ++ [⟨true, v, 0⟩], -1, u + 1, ((cs.length : Nat) : Int), 0) := by
      unfold takeF; rw [if_neg (by rw [h.chk]; simp), if_neg (by omega), if_pos hf]
    rw [hG] at hk
    have hz : cs.getD cs.length c0 = c0 := by simp [List.getD]
    refine ⟨_, _, _, hG, by omega, by omega, ?_, fun hh => by omega, fun e => by simp at e, hk, by simp only [List.length_append, List.length_cons, List.length_nil]; omega, .inl rfl, by rw [List.length_set]; exact h.len, fun k hk => ?_, fun k hk => ?_⟩
    · rw [Int.toNat_natCast, h.val _ (by omega)]; unfold valC; rw [hz]; rfl
    · rw [Int.toNat_natCast, hset (by rw [h.len]; omega)]
      unfold valC
      rw [capp]
      by_cases e : k = cs.length
      · rw [if_pos e, if_pos e]; rfl
      · rw [if_neg e, if_neg e, h.val k hk]; rfl
    · rw [capp] at hk ⊢
      by_cases e : k = cs.length
      · rw [if_pos e]; exact hv
      · rw [if_neg e] at hk ⊢; exact h.pos k hk
  · obtain ⟨hz0, hz1, lk, hcell, hk0, hk1⟩ := free_ok h.chk hf
    have hG : takeF cs f u v = (cs.set f.toNat ⟨true, v, 0⟩, lk, u + 1, f, 0) := by
      unfold takeF; rw [if_neg (by rw [h.chk]; simp), if_neg (by omega), if_neg hf, hcell]
    rw [hG] at hk
    have hlt : f.toNat < cs.length := by omega
    refine ⟨_, _, _, hG, hz0, by omega, ?_, fun hh => by omega, fun e => absurd e (set_ne hlt), hk, by simp only [List.length_set]; omega, .inl rfl, by rw [List.length_set]; exact h.len, fun k hk => ?_, fun k hk => ?_⟩
    · rw [h.val _ (by omega)]; unfold valC; rw [hcell]; rfl
    · rw [hset (by rw [h.len]; omega)]
      unfold valC
      rw [cset hlt]
      by_cases e : k = f.toNat
      · rw [if_pos e, if_pos e]; rfl
      · rw [if_neg e, if_neg e, h.val k hk]; rfl
    · rw [cset hlt] at hk ⊢
      by_cases e : k = f.toNat
      · rw [if_pos e]; exact hv
      · rw [if_neg e] at hk ⊢; exact h.pos k hk
theorem keep_full (h : KeepI cs f u H most last) (hu : u = 64) (v : Int) : takeF cs f u v = (cs, f, u, 0, 7) := by
  unfold takeF; rw [if_neg (by rw [h.chk]; simp), if_pos (by omega)]
theorem keep_give (h : KeepI cs f u H most last) {z : Int} (h0 : 0 ≤ z) (h1 : z < 64) (hf : findF cs f u z = 0) : ∃ c1, giveF cs f u z = (c1, z, u - 1) ∧ (c1 = [] → cs = []) ∧ 1 ≤ u ∧ KeepI c1 z (u - 1) (H.set z.toNat 0) most z := by
  have hk := give_keeps z h.chk
  have hG : giveF cs f u z = (cs.set z.toNat ⟨false, 0, f⟩, z, u - 1) := if_pos hf
  rw [hG] at hk
  obtain ⟨_, q0, q1, w, hcell⟩ := find_ok hf
  have hlt : z.toNat < cs.length := by omega
  have hb := keep_bd h
  have hcp := cnt_pos hlt (by rw [hcell])
  have h4 := ((chk_iff cs f u).1 h.chk).2.2.2.1
  refine ⟨_, hG, fun e => absurd e (set_ne hlt), by omega, hk, by rw [List.length_set]; exact h.most, .inr ⟨h0, rfl⟩, by rw [List.length_set]; exact h.len, fun k hk => ?_, fun k hk => ?_⟩
  · rw [hset (by rw [h.len]; omega)]
    unfold valC
    rw [cset hlt]
    by_cases e : k = z.toNat
    · rw [if_pos e, if_pos e]; rfl
    · rw [if_neg e, if_neg e, h.val k hk]; rfl
  · rw [cset hlt] at hk ⊢
    by_cases e : k = z.toNat
    · rw [if_pos e] at hk; cases hk
    · rw [if_neg e] at hk ⊢; exact h.pos k hk
theorem give_none {z : Int} (hf : findF cs f u z ≠ 0) : giveF cs f u z = (cs, f, u) := if_neg hf
theorem find_six (h : KeepI cs f u H most last) {z : Int} (hf : findF cs f u z ≠ 0) : findF cs f u z = 6 := by
  unfold findF at hf ⊢
  rw [if_neg (by rw [h.chk]; simp)] at hf ⊢
  split at hf
  · exact absurd rfl hf
  · rename_i hh; rw [if_neg hh]
theorem keep_nil : KeepI [] (-1) 0 (List.replicate 64 0) 0 (-1) := by
  refine ⟨by decide +kernel, by simp, .inl rfl, List.length_replicate, fun k hk => ?_, fun k hk => by simp [List.getD, c0] at hk⟩
  rw [List.getD_eq_getElem?_getD, List.getElem?_replicate, if_pos hk]
  simp [valC, c0]
end
def ai (H : List Int) : D := .sl 1 (ints .i64 H)
theorem ai_zero (n : Nat) : zrow n (.int .i64 0) = ai (List.replicate n 0) := by simp [zrow, ai, ints]
theorem ai_get {H : List Int} {z : Int} (h0 : 0 ≤ z) (h1 : z < (H.length : Nat)) : (ai H).at_ (.v (.int .i64 z)) = .v (.int .i64 (H.getD z.toNat 0)) := by
  have e : z = ((z.toNat : Nat) : Int) := by omega
  have := IsL.at_ints (zs := H) (kd := .i64) (x := ai H) (.inl rfl) (k := z.toNat) (by omega)
  rw [← e] at this; exact this
theorem ai_inb {H : List Int} {z : Int} (h0 : 0 ≤ z) (h1 : z < (H.length : Nat)) : D.inb 1 (ai H) (.v (.int .i64 z)) := by
  have e : z = ((z.toNat : Nat) : Int) := by omega
  have := IsL.inb_ints (zs := H) (kd := .i64) (x := ai H) (.inl rfl) (k := z.toNat) (by omega)
  rw [← e] at this; exact this
theorem ai_set {H : List Int} {z : Int} (h0 : 0 ≤ z) (h1 : z < (H.length : Nat)) (v : Int) : (ai H).setAt (.v (.int .i64 z)) 0 [.v (.int .i64 v)] = ai (H.set z.toNat v) := by
  have hlt : z.toNat < H.length := by omega
  simp [ai, D.setAt, D.splice, ints, List.getD, hlt, List.map_set]
theorem at_cellI {d e : D} {x : Value} (h : d.at_ e = .v x) : (d.at_ e).cell 0 = .v x := by rw [h]; rfl

end Go.Proofs.Ytlamjfdghhbkpaa