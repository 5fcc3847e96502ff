/-
  Layer 18: the law ArenaBack.
-/
import Derived.Test.YtlamjfdghhbkpaaT1
import Derived.Test.YtlamjfdghhbkpaaT2
import Derived.Test.YtlamjfdghhbkpaaT3
import Derived.Test.YtlamjfdghhbkpaaT4
import Derived.Test.YtlamjfdghhbkpaaT5
import Derived.Test.YtlamjfdghhbkpaaT6
import Derived.Test.YtlamjfdghhbkpaaT7
import Derived.Test.YtlamjfdghhbkpaaT8
import Derived.Test.YtlamjfdghhbkpaaT9
import Derived.Test.YtlamjfdghhbkpaaT10
import Derived.Test.YtlamjfdghhbkpaaT11
import Derived.Test.YtlamjfdghhbkpaaT12
import Derived.Test.YtlamjfdghhbkpaaT13
namespace Go.Proofs.Ytlamjfdghhbkpaa
open Go.RowKit
set_option linter.unusedSimpArgs false
set_option linter.unusedVariables false

/-- A cell among n. -/
def ClOk (n : Nat) (c : Cl) : Prop := (c.live = true → c.link = 0) ∧ (c.live = false → c.val = 0 ∧ -1 ≤ c.link ∧ c.link < (n : Nat))
theorem any_false {cs : List Cl} {p : Cl → Bool} : cs.any p = false ↔ ∀ i, i < cs.length → p (cs.getD i c0) = false := by
  constructor
  · intro h i hi
    cases e : p (cs.getD i c0)
    · rfl
    · rw [any_at hi e] at h; cases h
  · intro h
    rw [List.any_eq_false]
    intro c hc
    obtain ⟨i, hi, rfl⟩ := List.getElem_of_mem hc
    have := h i hi
    rw [List.getD_eq_getElem?_getD, List.getElem?_eq_getElem hi] at this
    simpa using this
theorem chk_iff (cs : List Cl) (f u : Int) : chkF cs f u = 0 ↔ cs.length ≤ 64 ∧ (-1 ≤ f ∧ f < (cs.length : Nat)) ∧ (∀ i, i < cs.length → ClOk cs.length (cs.getD i c0)) ∧ u = (cntL cs : Nat) ∧ chF cs (cs.length - cntL cs) f = true := by
  constructor
  · intro h
    obtain ⟨h1, h2, h3, h4, h5, h6⟩ := chk_ok h
    refine ⟨h1, by simpa [linkB] using h2, fun i hi => ?_, h5, h6⟩
    have g3 := any_false.1 h3 i hi
    have g4 := any_false.1 h4 i hi
    generalize cs.getD i c0 = c at g3 g4
    obtain ⟨l, v, k⟩ := c
    cases l <;> simp_all [ClOk, bl1, bl2, linkB]
  · rintro ⟨h1, h2, h3, h5, h6⟩
    unfold chkF
    rw [if_neg (by omega), if_neg (by simp [linkB, h2]), if_neg, if_neg, if_neg]
    · rintro (h | h)
      · exact h h5
      · rw [h6] at h; cases h
    · rw [Bool.not_eq_true, any_false]
      intro i hi
      have := h3 i hi
      generalize cs.getD i c0 = c at this
      obtain ⟨l, v, k⟩ := c
      cases l <;> simp_all [ClOk, bl2]
    · rw [Bool.not_eq_true, any_false]
      intro i hi
      have := h3 i hi
      generalize cs.getD i c0 = c at this
      obtain ⟨l, v, k⟩ := c
      cases l <;> simp_all [ClOk, bl1, linkB]
theorem getD_set_ne {cs : List Cl} {i j : Nat} (c : Cl) (h : i ≠ j) : (cs.set i c).getD j c0 = cs.getD j c0 := by simp [List.getD, List.getElem?_set, h]
theorem getD_set_eq {cs : List Cl} {i : Nat} (c : Cl) (h : i < cs.length) : (cs.set i c).getD i c0 = c := by simp [List.getD, h]
theorem cnt_set {cs : List Cl} {i : Nat} (c : Cl) (h : i < cs.length) : cntL (cs.set i c) + (if (cs.getD i c0).live then 1 else 0) = cntL cs + (if c.live then 1 else 0) := by
  have hp : (cs.getD i c0).live = true → 0 < cntL cs := cnt_pos h
  unfold cntL at hp ⊢
  rw [List.countP_set h]
  have e : cs.getD i c0 = cs[i] := by simp [List.getD, h]
  rw [e] at hp ⊢
  split
  · rename_i h2; have := hp h2; omega
  · omega
theorem chF_congr {cs cs' : List Cl} (hlo : LinksOk cs) : ∀ {m : Nat} {z : Int}, -1 ≤ z → z < (cs.length : Nat) → chF cs m z = true → (∀ e ∈ chL cs m z, cs'.getD e.toNat c0 = cs.getD e.toNat c0) → chF cs' m z = true
  | 0, z, _, _, h, _ => h
  | m + 1, z, h0, h1, h, he => by
    obtain ⟨h2, h3, h4⟩ := chF_step h
    have hz : 0 ≤ z := by omega
    have hlk := hlo z.toNat (by omega) h3
    rw [chL_step _ _ hz] at he
    have e1 := he z (by simp)
    simp only [chF]
    rw [if_neg h2, e1, if_neg (by rw [h3]; simp)]
    exact chF_congr hlo hlk.1 hlk.2 h4 fun e hm => he e (List.mem_cons_of_mem _ hm)
theorem links_ok {cs : List Cl} (h : ∀ i, i < cs.length → ClOk cs.length (cs.getD i c0)) : LinksOk cs := fun i hi hl => ((h i hi).2 hl).2
theorem chL_spare {cs : List Cl} (hlo : LinksOk cs) {m : Nat} {z : Int} (h0 : -1 ≤ z) (h1 : z < (cs.length : Nat)) (h : chF cs m z = true) : (chL cs m z).Nodup ∧ ∀ e ∈ chL cs m z, 0 ≤ e ∧ e < (cs.length : Nat) ∧ (cs.getD e.toNat c0).live = false := by
  obtain ⟨_, _, g3, g4⟩ := chL_of hlo h0 h1 h 0
  exact ⟨g3, fun e he => (g4 e he).1⟩
theorem take_keeps {cs : List Cl} {f u : Int} (v : Int) (h : chkF cs f u = 0) : chkF (takeF cs f u v).1 (takeF cs f u v).2.1 (takeF cs f u v).2.2.1 = 0 := by
  have hc := cnt_le cs
  by_cases h64 : 64 ≤ u
  · have hG : takeF cs f u v = (cs, f, u, 0, 7) := by unfold takeF; rw [if_neg (by omega), if_pos h64]
    rw [hG]; exact h
  obtain ⟨h1, h2, h3, h4, h5⟩ := (chk_iff cs f u).1 h
  by_cases hf : f = -1
  · have hG : takeF cs f u v = (cs ++ [⟨true, v, 0⟩], -1, u + 1, ((cs.length : Nat) : Int), 0) := by unfold takeF; rw [if_neg (by omega), if_neg h64, if_pos hf]
    rw [hG]
    subst hf
    have hm : cs.length - cntL cs = 0 := chF_uniq (k := 0) h5 (by simp [chF])
    have hcc : cntL (cs ++ [⟨true, v, 0⟩]) = cntL cs + 1 := by simp [cntL, List.countP_append, List.countP_cons]
    rw [chk_iff]
    simp only [List.length_append, List.length_cons, List.length_nil, hcc]
    refine ⟨by omega, by omega, fun i hi => ?_, by omega, ?_⟩
    · by_cases e : i < cs.length
      · rw [show (cs ++ [(⟨true, v, 0⟩ : Cl)]).getD i c0 = cs.getD i c0 by simp [List.getD, List.getElem?_append_left e]]
        have := h3 i e
        refine ⟨this.1, fun hl => ?_⟩
        have := this.2 hl
        omega
      · have : i = cs.length := by omega
        subst this
        rw [show (cs ++ [(⟨true, v, 0⟩ : Cl)]).getD cs.length c0 = ⟨true, v, 0⟩ by simp [List.getD]]
        exact ⟨fun _ => rfl, fun h => by cases h⟩
    · rw [show cs.length + (0 + 1) - (cntL cs + 1) = 0 by omega]; simp [chF]
  · obtain ⟨hz0, hz1, lk, hcell, hk0, hk1⟩ := free_ok h hf
    have hG : takeF cs f u v = (cs.set f.toNat ⟨true, v, 0⟩, lk, u + 1, f, 0) := by unfold takeF; rw [if_neg (by omega), if_neg h64, if_neg hf, hcell]
    rw [hG]
    have hlt : f.toNat < cs.length := by omega
    have hlo := links_ok h3
    have hcs := cnt_set (cs := cs) (i := f.toNat) ⟨true, v, 0⟩ hlt
    rw [hcell] at hcs
    simp only [Bool.false_eq_true, if_false, if_true] at hcs
    have hnd := chL_spare hlo h2.1 h2.2 h5
    obtain ⟨m, hm⟩ : ∃ m, cs.length - cntL cs = m + 1 := ⟨cs.length - cntL cs - 1, by have := cnt_lt hlt (by rw [hcell]); omega⟩
    rw [hm] at h5 hnd
    obtain ⟨_, _, g3⟩ := chF_step h5
    rw [hcell] at g3
    rw [chL_step _ _ hz0, hcell] at hnd
    simp only [List.nodup_cons] at hnd
    rw [chk_iff]
    simp only [List.length_set]
    refine ⟨h1, ⟨hk0, hk1⟩, fun i hi => ?_, by omega, ?_⟩
    · by_cases e : f.toNat = i
      · subst e; rw [getD_set_eq _ hlt]; exact ⟨fun _ => rfl, fun h => by cases h⟩
      · rw [getD_set_ne _ e]; exact h3 i hi
    · rw [show cs.length - cntL (cs.set f.toNat ⟨true, v, 0⟩) = m by omega]
      refine chF_congr hlo hk0 hk1 g3 fun e he => getD_set_ne _ fun e2 => ?_
      have he2 := (hnd.2 e (by simp [he])).1
      have : f = e := by omega
      subst this
      exact hnd.1.1 he
theorem give_keeps {cs : List Cl} {f u : Int} (z : Int) (h : chkF cs f u = 0) : chkF (giveF cs f u z).1 (giveF cs f u z).2.1 (giveF cs f u z).2.2 = 0 := by
  by_cases h0 : findF cs f u z = 0
  · have hG : giveF cs f u z = (cs.set z.toNat ⟨false, 0, f⟩, z, u - 1) := by unfold giveF; rw [if_pos h0]
    rw [hG]
    obtain ⟨_, hz0, hz1, vl, hcell⟩ := find_ok h0
    obtain ⟨h1, h2, h3, h4, h5⟩ := (chk_iff cs f u).1 h
    have hlt : z.toNat < cs.length := by omega
    have hlo := links_ok h3
    have hc := cnt_le cs
    have hcs := cnt_set (cs := cs) (i := z.toNat) ⟨false, 0, f⟩ hlt
    rw [hcell] at hcs
    simp only [Bool.false_eq_true, if_false, if_true] at hcs
    have hnd := chL_spare hlo h2.1 h2.2 h5
    rw [chk_iff]
    simp only [List.length_set]
    refine ⟨h1, ⟨by omega, hz1⟩, fun i hi => ?_, by omega, ?_⟩
    · by_cases e : z.toNat = i
      · subst e; rw [getD_set_eq _ hlt]; exact ⟨(fun h => by cases h), fun _ => ⟨rfl, h2⟩⟩
      · rw [getD_set_ne _ e]; exact h3 i hi
    · rw [show cs.length - cntL (cs.set z.toNat ⟨false, 0, f⟩) = (cs.length - cntL cs) + 1 by omega]
      simp only [chF]
      rw [if_neg (by omega), getD_set_eq _ hlt]
      simp only [Bool.false_eq_true, if_false]
      refine chF_congr hlo h2.1 h2.2 h5 fun e he => getD_set_ne _ fun e2 => ?_
      have he2 := (hnd.2 e he)
      have : z = e := by omega
      subst this
      rw [hcell] at he2; exact absurd he2.2.2 (by simp)
  · have hG : giveF cs f u z = (cs, f, u) := by unfold giveF; rw [if_neg h0]
    rw [hG]; exact h
theorem liveL_cnt (cs : List Cl) : ∀ k, k ≤ cs.length → (liveL cs k).length = cntL (cs.take k)
  | 0, _ => by simp [liveL, cntL]
  | k + 1, h => by
    have := liveL_cnt cs k (by omega)
    rw [take_cnt (by omega), liveL, List.length_append, this]
    split <;> simp
theorem take_err {cs : List Cl} {f u : Int} {v : Int} (h : chkF cs f u = 0) (he : (takeF cs f u v).2.2.2.2 ≠ 0) : takeF cs f u v = (cs, f, u, 0, 7) ∧ u = 64 := by
  obtain ⟨h1, h2, h3, h4, h5⟩ := (chk_iff cs f u).1 h
  have hc := cnt_le cs
  by_cases h64 : 64 ≤ u
  · exact ⟨by unfold takeF; rw [if_neg (by omega), if_pos h64], by omega⟩
  · exfalso; apply he; unfold takeF; rw [if_neg (by omega), if_neg h64]; split <;> rfl
theorem take_give {cs c1 : List Cl} {f u v f1 u1 p e : Int} (h : chkF cs f u = 0) (hT : takeF cs f u v = (c1, f1, u1, p, e)) (he : e = 0) : findF c1 f1 u1 p = 0 ∧ getV c1 f1 u1 p = v ∧ u1 = u + 1 ∧ u < 64 ∧ 
    ∃ c2 f2, giveF c1 f1 u1 p = (c2, f2, u) ∧ chkF c2 f2 u = 0 ∧ sameS c2 cs f2 f u u = decide (0 < (spareF cs f u).length) ∧ (liveF c2 f2 u).length = u := by
  have hk := take_keeps v h
  rw [hT] at hk
  simp only at hk
  obtain ⟨h1, h2, h3, h4, h5⟩ := (chk_iff cs f u).1 h
  have hc := cnt_le cs
  have h64 : ¬ 64 ≤ u := fun h64 => by
    have hG : takeF cs f u v = (cs, f, u, 0, 7) := by unfold takeF; rw [if_neg (by omega), if_pos h64]
    rw [hG] at hT; simp only [Prod.mk.injEq] at hT; omega
  have main : (0 ≤ p ∧ p < (c1.length : Nat) ∧ c1.getD p.toNat c0 = ⟨true, v, 0⟩) ∧ u1 = u + 1 ∧ ∃ c2 f2, c2 = c1.set p.toNat ⟨false, 0, f1⟩ ∧ f2 = p ∧ sameS c2 cs f2 f u u = decide (0 < (spareF cs f u).length) := by
    have hsp : spareF cs f u = chL cs (cs.length + 1) f := if_pos h
    by_cases hf : f = -1
    · have hG : takeF cs f u v = (cs ++ [⟨true, v, 0⟩], -1, u + 1, ((cs.length : Nat) : Int), 0) := by unfold takeF; rw [if_neg (by omega), if_neg h64, if_pos hf]
      rw [hG] at hT
      simp only [Prod.mk.injEq] at hT
      obtain ⟨rfl, rfl, rfl, rfl, _⟩ := hT
      refine ⟨⟨by omega, by simp; omega, by simp [List.getD]⟩, rfl, _, _, rfl, rfl, ?_⟩
      rw [hsp, chL_neg _ _ (by omega)]
      have : sameC ((cs ++ [(⟨true, v, 0⟩ : Cl)]).set ((cs.length : Nat) : Int).toNat ⟨false, 0, -1⟩) cs = false := by
        unfold sameC
        rw [decide_eq_false_iff_not]
        intro e
        have := congrArg List.length e
        simp at this
      unfold sameS; rw [this]; simp
    · obtain ⟨hz0, hz1, lk, hcell, hk0, hk1⟩ := free_ok h hf
      have hG : takeF cs f u v = (cs.set f.toNat ⟨true, v, 0⟩, lk, u + 1, f, 0) := by unfold takeF; rw [if_neg (by omega), if_neg h64, if_neg hf, hcell]
      rw [hG] at hT
      simp only [Prod.mk.injEq] at hT
      obtain ⟨rfl, rfl, rfl, rfl, _⟩ := hT
      have hlt : f.toNat < cs.length := by omega
      refine ⟨⟨hz0, by simpa using hz1, getD_set_eq _ hlt⟩, rfl, _, _, rfl, rfl, ?_⟩
      rw [hsp, chL_step _ _ hz0]
      have : (cs.set f.toNat ⟨true, v, 0⟩).set f.toNat ⟨false, 0, lk⟩ = cs := by
        rw [List.set_set]
        have e : cs[f.toNat] = ⟨false, 0, lk⟩ := by rw [← hcell]; simp [List.getD, hlt]
        rw [← e]; exact List.set_getElem_self hlt
      rw [this]
      simp [sameS, sameC]
  obtain ⟨⟨p0, p1, pc⟩, hu, c2, f2, rfl, rfl, hs⟩ := main
  subst hu
  have hfd : findF c1 f1 (u + 1) f2 = 0 := by
    unfold findF
    rw [if_neg (by omega), if_pos]
    unfold liveB
    rw [pc, decide_eq_true ⟨p0, p1⟩]; rfl
  have hg : giveF c1 f1 (u + 1) f2 = (c1.set f2.toNat ⟨false, 0, f1⟩, f2, u) := by
    unfold giveF
    rw [if_pos hfd, show u + 1 - 1 = u by omega]
  have hgk := give_keeps f2 hk
  rw [hg] at hgk
  simp only at hgk
  refine ⟨hfd, by unfold getV; rw [if_pos hfd, pc], rfl, by omega, _, _, hg, hgk, hs, ?_⟩
  rw [show liveF (c1.set f2.toNat ⟨false, 0, f1⟩) f2 u = liveL _ _ from if_pos hgk, liveL_cnt _ _ (Nat.le_refl _), List.take_length]
  exact ((chk_iff _ _ _).1 hgk).2.2.2.1.symm

theorem vc_backS (y : D) (ls : List Int) (v : Int) : Cond Try.prog (fun k => if k = 5 then some ⟨[6], [], [0, 1, 5], [(5, [1, 2], [0])]⟩ else none) Try.f6 [y, .v (.int .i64 v)] [.v (.bool true)] = ((NotAgg y ∧ NotAgg (D.v (Value.int IntKind.i64 v)) ∧ True) ∧ ∃ (r : D), D.lenT (TypeDesc.slice 5) y = some r ∧ ∃ (r_1 : D), D.bin BinOp.gtr r (D.v (Value.int IntKind.i64 200)) = some r_1 ∧ ∃ (b : Bool), r_1 = D.v (Value.bool b) ∧ (b = true → ∃ (r : D), PureD Try.prog 7 [] [r] ∧ fits [(false, [none])] [r] ∧ ((∃ (y : Value), r = D.v y) ∧ True) ∧ [r] = [D.v (Value.bool true)]) ∧ (b = false → ∃ (r : D), PureD Try.prog 27 [] [r] ∧ fits [(true, [some 3, none, none])] [r] ∧ ∃ (I : List D → Prop), ∃ (μ : List D → Nat), ((D.v (Value.int IntKind.i64 0) = D.v (Value.int IntKind.i64 0) ∧ y = y ∧ D.v (Value.int IntKind.i64 v) = D.v (Value.int IntKind.i64 v) ∧ (true = true ∧ true = true) ∧ True) ∧ ((true = true ∧ r.cell 0 = r.cell 0) ∧ (true = true ∧ r.cell 1 = r.cell 1 ∧ r.cell 2 = r.cell 2 ∧ True) ∧ True) ∧ I [D.v (Value.int IntKind.i64 0), r.cell 1, r.cell 2, r.cell 0]) ∧ ∀ (r r_2 r_3 r_4 : D), I [r, r_2, r_3, r_4] → ∃ (r_5 : D), D.lenT (TypeDesc.slice 5) y = some r_5 ∧ ∃ (r_6 : D), D.bin BinOp.lss r r_5 = some r_6 ∧ ∃ (b : Bool), r_6 = D.v (Value.bool b) ∧ (b = true → D.inb 1 y r ∧ 0 + 1 ≤ (y.at_ r).cells.length ∧ ∃ (r_7 : D), D.bin BinOp.rem ((y.at_ r).cell 0) (D.v (Value.int IntKind.u8 10)) = some r_7 ∧ ∃ (r_8 : D), D.bin BinOp.lss r_7 (D.v (Value.int IntKind.u8 6)) = some r_8 ∧ ∃ (b : Bool), r_8 = D.v (Value.bool b) ∧ (b = true → ∃ (r_9 : D), ∃ (r_10 : D), ∃ (r_11 : D), PureD Try.prog 9 [D.agg [r_4, r_2, r_3], r] [r_9, r_10, r_11] ∧ fits [(true, [some 3, none, none]), (false, [none]), (false, [none])] [r_9, r_10, r_11] ∧ ∃ (r_12 : D), D.bin BinOp.add r (D.v (Value.int IntKind.i64 1)) = some r_12 ∧ (r_12 = r_12 ∧ y = y ∧ D.v (Value.int IntKind.i64 v) = D.v (Value.int IntKind.i64 v) ∧ (true = true ∧ true = true) ∧ True) ∧ ((true = true ∧ r_9.cell 0 = r_9.cell 0) ∧ (true = true ∧ r_9.cell 1 = r_9.cell 1 ∧ r_9.cell 2 = r_9.cell 2 ∧ True) ∧ True) ∧ I [r_12, r_9.cell 1, r_9.cell 2, r_9.cell 0] ∧ μ [r_12, r_9.cell 1, r_9.cell 2, r_9.cell 0] < μ [r, r_2, r_3, r_4]) ∧ (b = false → D.inb 1 y r ∧ 0 + 1 ≤ (y.at_ r).cells.length ∧ ∃ (r_9 : D), D.bin BinOp.quo ((y.at_ r).cell 0) (D.v (Value.int IntKind.u8 10)) = some r_9 ∧ ∃ (r_10 : D), D.conv IntKind.i64 r_9 = some r_10 ∧ ∃ (r_11 : D), D.bin BinOp.rem r_10 (D.v (Value.int IntKind.i64 24)) = some r_11 ∧ ∃ (r_12 : D), ∃ (r_13 : D), PureD Try.prog 11 [D.agg [r_4, r_2, r_3], r_11] [r_12, r_13] ∧ fits [(true, [some 3, none, none]), (false, [none])] [r_12, r_13] ∧ ∃ (r_14 : D), D.bin BinOp.add r (D.v (Value.int IntKind.i64 1)) = some r_14 ∧ (r_14 = r_14 ∧ y = y ∧ D.v (Value.int IntKind.i64 v) = D.v (Value.int IntKind.i64 v) ∧ (true = true ∧ true = true) ∧ True) ∧ ((true = true ∧ r_12.cell 0 = r_12.cell 0) ∧ (true = true ∧ r_12.cell 1 = r_12.cell 1 ∧ r_12.cell 2 = r_12.cell 2 ∧ True) ∧ True) ∧ I [r_14, r_12.cell 1, r_12.cell 2, r_12.cell 0] ∧ μ [r_14, r_12.cell 1, r_12.cell 2, r_12.cell 0] < μ [r, r_2, r_3, r_4])) ∧ (b = false → ∃ (r : D), ∃ (r_7 : D), ∃ (r_8 : D), PureD Try.prog 9 [D.agg [r_4, r_2, r_3], D.v (Value.int IntKind.i64 v)] [r, r_7, r_8] ∧ fits [(true, [some 3, none, none]), (false, [none]), (false, [none])] [r, r_7, r_8] ∧ ∃ (r_9 : D), D.bin BinOp.neq r_8 (D.v (Value.int IntKind.i64 0)) = some r_9 ∧ ∃ (b : Bool), r_9 = D.v (Value.bool b) ∧ (b = true → ∃ (r_10 : D), D.bin BinOp.eql r_8 (D.v (Value.int IntKind.i64 7)) = some r_10 ∧ ∃ (b : Bool), r_10 = D.v (Value.bool b) ∧ (b = true → ∃ (r_11 : D), D.bin BinOp.eql r_3 (D.v (Value.int IntKind.i64 64)) = some r_11 ∧ ∃ (b : Bool), r_11 = D.v (Value.bool b) ∧ (b = true → ∃ (r_12 : D), PureD Try.prog 26 [D.agg [r.cell 0, r.cell 1, r.cell 2], D.agg [r_4, r_2, r_3]] [r_12] ∧ fits [(false, [none])] [r_12] ∧ ∃ (b : Bool), r_12 = D.v (Value.bool b) ∧ (b = true → ∃ (r : D), PureD Try.prog 7 [] [r] ∧ fits [(false, [none])] [r] ∧ ((∃ (y : Value), r = D.v y) ∧ True) ∧ [r] = [D.v (Value.bool true)]) ∧ (b = false → (True ∧ True) ∧ [D.v (Value.bool false)] = [D.v (Value.bool true)])) ∧ (b = false → (True ∧ True) ∧ [D.v (Value.bool false)] = [D.v (Value.bool true)])) ∧ (b = false → (True ∧ True) ∧ [D.v (Value.bool false)] = [D.v (Value.bool true)])) ∧ (b = false → ∃ (r_10 : D), ∃ (r_11 : D), PureD Try.prog 11 [D.agg [r.cell 0, r.cell 1, r.cell 2], r_7] [r_10, r_11] ∧ fits [(true, [some 3, none, none]), (false, [none])] [r_10, r_11] ∧ ∃ (r_12 : D), ∃ (r_13 : D), PureD Try.prog 17 [D.agg [r.cell 0, r.cell 1, r.cell 2], r_7] [r_12, r_13] ∧ fits [(false, [none]), (false, [none])] [r_12, r_13] ∧ ∃ (r_14 : D), PureD Try.prog 24 [D.agg [r_4, r_2, r_3]] [r_14] ∧ fits [(false, [some 1])] [r_14] ∧ ∃ (r_15 : D), D.lenT (TypeDesc.slice 3) r_14 = some r_15 ∧ ∃ (r_16 : D), D.bin BinOp.gtr r_15 (D.v (Value.int IntKind.i64 0)) = some r_16 ∧ ∃ (r_17 : D), D.bin BinOp.eql r_11 (D.v (Value.int IntKind.i64 0)) = some r_17 ∧ ∃ (b : Bool), r_17 = D.v (Value.bool b) ∧ (b = true → ∃ (r_18 : D), PureD Try.prog 26 [D.agg [r_10.cell 0, r_10.cell 1, r_10.cell 2], D.agg [r_4, r_2, r_3]] [r_18] ∧ fits [(false, [none])] [r_18] ∧ ∃ (r_19 : D), r_18.beq r_16 = some r_19 ∧ ∃ (b : Bool), r_19 = D.v (Value.bool b) ∧ (b = true → ∃ (r_20 : D), D.bin BinOp.eql r_12 (D.v (Value.int IntKind.i64 v)) = some r_20 ∧ ∃ (b : Bool), r_20 = D.v (Value.bool b) ∧ (b = true → ∃ (b : Bool), r_13 = D.v (Value.bool b) ∧ (b = true → ∃ (r_21 : D), D.bin BinOp.add r_3 (D.v (Value.int IntKind.i64 1)) = some r_21 ∧ ∃ (r_22 : D), D.bin BinOp.eql (r.cell 2) r_21 = some r_22 ∧ ∃ (b : Bool), r_22 = D.v (Value.bool b) ∧ (b = true → ∃ (r : D), D.bin BinOp.eql (r_10.cell 2) r_3 = some r ∧ ∃ (b : Bool), r = D.v (Value.bool b) ∧ (b = true → ∃ (r : D), PureD Try.prog 22 [D.agg [r_10.cell 0, r_10.cell 1, r_10.cell 2]] [r] ∧ fits [(false, [some 1])] [r] ∧ ∃ (r_23 : D), D.lenT (TypeDesc.slice 3) r = some r_23 ∧ ∃ (r : D), D.bin BinOp.eql r_23 r_3 = some r ∧ ∃ (b : Bool), r = D.v (Value.bool b) ∧ (b = true → ∃ (r : D), PureD Try.prog 7 [] [r] ∧ fits [(false, [none])] [r] ∧ ((∃ (y : Value), r = D.v y) ∧ True) ∧ [r] = [D.v (Value.bool true)]) ∧ (b = false → (True ∧ True) ∧ [D.v (Value.bool false)] = [D.v (Value.bool true)])) ∧ (b = false → (True ∧ True) ∧ [D.v (Value.bool false)] = [D.v (Value.bool true)])) ∧ (b = false → (True ∧ True) ∧ [D.v (Value.bool false)] = [D.v (Value.bool true)])) ∧ (b = false → (True ∧ True) ∧ [D.v (Value.bool false)] = [D.v (Value.bool true)])) ∧ (b = false → (True ∧ True) ∧ [D.v (Value.bool false)] = [D.v (Value.bool true)])) ∧ (b = false → (True ∧ True) ∧ [D.v (Value.bool false)] = [D.v (Value.bool true)])) ∧ (b = false → (True ∧ True) ∧ [D.v (Value.bool false)] = [D.v (Value.bool true)]))))) := by kernel_rfl
set_option maxHeartbeats 16000000 in
theorem backS (y : D) (ls : List Int) (v : Int) (hX : IsL 1 (ints .u8 ls) y) (hb0 : ∀ k, k < ls.length → 0 ≤ ls.getD k 0 ∧ ls.getD k 0 < 256) (h200 : ls.length ≤ 200) : PureD Try.prog 6 [y, .v (.int .i64 v)] [.v (.bool true)] := by
  refine pure_cond (Lp := (fun k => if k = 5 then some ⟨[6], [], [0, 1, 5], [(5, [1, 2], [0])]⟩ else none)) (by kernel_rfl) Try.func6 (by kernel_rfl) (by kernel_rfl) ?_
  rw [vc_backS y ls v]
  simp only [hX.notAgg, hX.lenT, ints_length, Option.some.injEq, exists_eq_left']
  repeat' (first
    | (refine ex_some (by simp (disch := omega) only [bin_shr, bin_shl, bin_and, bin_or, bin_xor, len_str, toStr_ofL, bin_add, bin_sub, bin_mul, bin_quo, bin_rem, bin_lss, bin_leq, bin_gtr, bin_geq, bin_eql, bin_neq, eqs_cn, eqs_ci, eqs_cb, eqs_cs, Option.map_some, lenT_ofL, lst_ofL, lstSz_ofL, chunk_one, lst_nil, lst_sl, lstSz_sl, lstSz_nil, Bool.and_true, Bool.true_and, Bool.and_false, Bool.false_and, beq_self_eq_true, beq_bb, bne_bb, un_not, un_neg, conv_int, min2_int, max2_int, w64, w32, wu8, wu16, wu32, wu64, tdiv_nn, tmod_nn, cell_zero, cell_succ, cell_v, cells_v, cells_agg, Bool.not_true, Bool.not_false, Int.reduceLT, Int.reduceLE, Int.reduceEq, Int.reduceNeg, Int.reduceAdd, Int.reduceSub, Int.reduceMul, intOf_v, decide_true, decide_false]; rfl) ?_)
    | (refine ex_bool ?_)
    | (refine ⟨_, awake, ?_⟩)
    | (refine ⟨_, new, ?_⟩)
    | (refine ⟨_, _, _, T, ?_⟩)
    | (refine ⟨_, _, G, ?_⟩)
    | (refine ⟨_, SP, ?_⟩)
    | (refine ⟨_, _, GI, ?_⟩)
    | (refine ⟨_, _, GE, ?_⟩)
    | (refine ⟨_, LV, ?_⟩)
    | (refine ⟨_, SM, ?_⟩)
    | (exact ⟨k + 1, _, _, _, _, by omega, reD_isL hI1 tl.1, tk, ((chk_iff _ _ _).1 tk).1, rfl⟩)
    | (exact ⟨k + 1, _, _, _, _, by omega, reD_isL hI1 gl.1, gk, ((chk_iff _ _ _).1 gk).1, rfl⟩)
    | (refine ⟨(fun r => ∃ (k : Nat) (cs : List Cl) (f u : Int) (x : D), k ≤ ls.length ∧ IsL 3 (cls cs) x ∧ chkF cs f u = 0 ∧ cs.length ≤ 64 ∧ r = [.v (.int .i64 (k : Nat)), .v (.int .i64 f), .v (.int .i64 u), x]), leftG ls.length, ?_⟩)
    | (refine fun (r1 r2 r3 r4 : D) (hI : (fun r => ∃ (k : Nat) (cs : List Cl) (f u : Int) (x : D), k ≤ ls.length ∧ IsL 3 (cls cs) x ∧ chkF cs f u = 0 ∧ cs.length ≤ 64 ∧ r = [.v (.int .i64 (k : Nat)), .v (.int .i64 f), .v (.int .i64 u), x]) [r1, r2, r3, r4]) => ?_; obtain ⟨k, cs, f, u, x, hk, hI1, hI2, hI3, hl0⟩ := hI; simp only [List.cons.injEq, and_true] at hl0; obtain ⟨rfl, rfl, rfl, rfl⟩ := hl0; by_cases hlt : k < ls.length <;> first | (have hk1 : k < ls.length := (by omega); have a1 := hX.at_ints (k := k) hk1; have i1 := hX.inb_ints (k := k) hk1; have hb := hb0 k hk1; generalize hG : ls.getD k 0 = q at *; have T := take r4 cs f u (k : Nat) hI1 (by omega); have tk := take_keeps (cs := cs) (f := f) (u := u) (k : Nat) hI2; have tl := takeL cs f u (k : Nat); have G := give r4 cs f u ((q / 10) % 24) hI1 (by omega); have gk := give_keeps (cs := cs) (f := f) (u := u) ((q / 10) % 24) hI2; have gl := giveL cs f u ((q / 10) % 24); simp only [a1, cell_v, cells_v, List.length_cons, List.length_nil]; have inl : True := trivial) | (have hkk : k = ls.length := (by omega); have h64 := (chk_iff cs f u).1 hI2; have hu0 : 0 ≤ u := (by rw [h64.2.2.2.1]; omega); have T := take r4 cs f u v hI1 (by omega); have tk := take_keeps (cs := cs) (f := f) (u := u) v hI2; have tl := takeL cs f u v; have te := take_err (cs := cs) (f := f) (u := u) (v := v) hI2; have SP := spare r4 cs f u hI1 (by omega); have out1 : True := trivial; generalize hT : takeF cs f u v = Tk at *; obtain ⟨c1, f1, u1, p, e⟩ := Tk; simp only at *; by_cases he : e = 0; all_goals (first | (have hz : e = 0 := (by omega); obtain ⟨g1, g2, g3, g4, c2, f2, g5, g6, g7, g8⟩ := take_give hI2 hT he; have gl := giveL c1 f1 u1 p; have IS1 := reD_isL hI1 tl.1; have LN1 := ((chk_iff _ _ _).1 tk).1; have GI := give (reD r4 c1) c1 f1 u1 p IS1 (by omega); have GE := get (reD r4 c1) c1 f1 u1 p IS1 (by omega); rw [g5, g1] at GI; rw [g2, show findB c1 f1 u1 p = true from decide_eq_true g1] at GE; rw [g5] at gl; have IS2 := reD_isL IS1 gl.1; have LN2 := ((chk_iff _ _ _).1 g6).1; have LV := live (reD (reD r4 c1) c2) c2 f2 u IS2 (by omega); have SM := same (reD (reD r4 c1) c2) r4 c2 cs f2 u f u IS2 hI1 (by omega) (by omega); rw [g7] at SM; have z1 : True := trivial) | (obtain ⟨hE1, hE2⟩ := te he; simp only [Prod.mk.injEq] at hE1; obtain ⟨rfl, rfl, rfl, rfl, rfl⟩ := hE1; have SM := same (reD r4 c1) r4 c1 c1 f1 u1 f1 u1 (reD_isL hI1 tl.1) hI1 (by omega) (by omega); rw [same_self] at SM; have z2 : True := trivial))))
    | (exact ⟨0, [], -1, 0, .v nilS, Nat.zero_le _, .inr ⟨rfl, rfl⟩, by decide +kernel, by simp, rfl⟩)
    | (refine And.intro ?_ ?_)
    | (intro hx; have hprop := (show ∀ (p : Prop), p → True from fun _ _ => True.intro) _ hx; clear hprop; first | (cases hx; done) | (exfalso; revert hx; simp (disch := omega) only [decide_eq_true_eq, decide_eq_false_iff_not, Bool.not_eq_true', Bool.not_eq_false', Bool.and_eq_true, Bool.and_eq_false_iff, Int.not_lt, Int.not_le, ne_eq, not_false_eq_true, not_true_eq_false, reduceCtorEq, Bool.true_eq_false, Bool.false_eq_true, beq_iff_eq, bne_iff_ne, beq_eq_false_iff_ne, false_or, or_false, true_and, and_true]; done) | (simp (disch := omega) only [decide_eq_true_eq, decide_eq_false_iff_not, Bool.not_eq_true', Bool.not_eq_false', Bool.and_eq_true, Bool.and_eq_false_iff, Int.not_lt, Int.not_le, ne_eq, not_false_eq_true, not_true_eq_false, reduceCtorEq, Bool.true_eq_false, Bool.false_eq_true, beq_iff_eq, bne_iff_ne, beq_eq_false_iff_ne, false_or, or_false, true_and, and_true] at hx; first | (exfalso; omega) | skip) | skip)
    | trivial
    | exact fit_ofL _ _
    | (simp (disch := omega) only [notAgg_v, notAgg_sl, plain_v, fits, fitsOne, fitsCells, xsOf, cell_zero, cell_succ, List.range, List.range.loop, List.map, cond_true, cond_false, D.v.injEq, exists_eq', exists_eq, and_self, and_true, true_and, D.agg.injEq, List.length, exists_eq_left', D.sl.injEq, reduceCtorEq, false_or, true_or, or_true, or_false, cell_zero, cell_succ, cell_v, cells_v, cells_agg, List.length_cons, List.length_nil]; done))
  all_goals first
    | (exfalso; omega)
    | omega
    | rfl
    | exact fit_ofL _ _
    | exact ⟨_, rfl⟩
    | exact .inl rfl
    | exact ⟨_, rfl, rfl⟩
    | exact fitC hX
    | exact plainC hX
    | exact plainS hX
    | exact plainO
    | exact fitRe (isO _)
    | exact fitRe hX
    | (simp only [cell_zero]; first | exact fitRe hX | exact plainS hX)
    | (simp only [cell_zero]; first | exact fitRe hI1 | exact fitRe IS1)
    | (exfalso; rw [ints_length] at hx; exact hx g8)
    | (exfalso; apply hx; rw [ints_length, decide_eq_decide]; omega)
    | (simp only [leftG]; omega)
    | (simp; done)
    | fail

set_option maxHeartbeats 16000000 in
theorem backM (y : D) (ls : List Int) (v : Int) (hX : IsL 1 (ints .u8 ls) y) (hb0 : ∀ k, k < ls.length → 0 ≤ ls.getD k 0 ∧ ls.getD k 0 < 256) (h200 : 200 < ls.length) : PureD Try.prog 6 [y, .v (.int .i64 v)] [.v (.bool true)] := by
  refine pure_cond (Lp := (fun k => if k = 5 then some ⟨[6], [], [0, 1, 5], [(5, [1, 2], [0])]⟩ else none)) (by kernel_rfl) Try.func6 (by kernel_rfl) (by kernel_rfl) ?_
  rw [vc_backS y ls v]
  simp only [hX.notAgg, hX.lenT, ints_length, Option.some.injEq, exists_eq_left']
  repeat' (first
    | (refine ex_some (by simp (disch := omega) only [bin_shr, bin_shl, bin_and, bin_or, bin_xor, len_str, toStr_ofL, bin_add, bin_sub, bin_mul, bin_quo, bin_rem, bin_lss, bin_leq, bin_gtr, bin_geq, bin_eql, bin_neq, eqs_cn, eqs_ci, eqs_cb, eqs_cs, Option.map_some, lenT_ofL, lst_ofL, lstSz_ofL, chunk_one, lst_nil, lst_sl, lstSz_sl, lstSz_nil, Bool.and_true, Bool.true_and, Bool.and_false, Bool.false_and, beq_self_eq_true, beq_bb, bne_bb, un_not, un_neg, conv_int, min2_int, max2_int, w64, w32, wu8, wu16, wu32, wu64, tdiv_nn, tmod_nn, cell_zero, cell_succ, cell_v, cells_v, cells_agg, Bool.not_true, Bool.not_false, Int.reduceLT, Int.reduceLE, Int.reduceEq, Int.reduceNeg, Int.reduceAdd, Int.reduceSub, Int.reduceMul, intOf_v, decide_true, decide_false]; rfl) ?_)
    | (refine ex_bool ?_)
    | (refine ⟨_, awake, ?_⟩)
    | (refine And.intro ?_ ?_)
    | (intro hx; have hprop := (show ∀ (p : Prop), p → True from fun _ _ => True.intro) _ hx; clear hprop; first | (cases hx; done) | (exfalso; revert hx; simp (disch := omega) only [decide_eq_true_eq, decide_eq_false_iff_not, Bool.not_eq_true', Bool.not_eq_false', Bool.and_eq_true, Bool.and_eq_false_iff, Int.not_lt, Int.not_le, ne_eq, not_false_eq_true, not_true_eq_false, reduceCtorEq, Bool.true_eq_false, Bool.false_eq_true, beq_iff_eq, bne_iff_ne, beq_eq_false_iff_ne, false_or, or_false, true_and, and_true]; done) | (simp (disch := omega) only [decide_eq_true_eq, decide_eq_false_iff_not, Bool.not_eq_true', Bool.not_eq_false', Bool.and_eq_true, Bool.and_eq_false_iff, Int.not_lt, Int.not_le, ne_eq, not_false_eq_true, not_true_eq_false, reduceCtorEq, Bool.true_eq_false, Bool.false_eq_true, beq_iff_eq, bne_iff_ne, beq_eq_false_iff_ne, false_or, or_false, true_and, and_true] at hx; first | (exfalso; omega) | skip) | skip)
    | trivial
    | exact fit_ofL _ _
    | (simp (disch := omega) only [notAgg_v, notAgg_sl, plain_v, fits, fitsOne, fitsCells, xsOf, cell_zero, cell_succ, List.range, List.range.loop, List.map, cond_true, cond_false, D.v.injEq, exists_eq', exists_eq, and_self, and_true, true_and, D.agg.injEq, List.length, exists_eq_left', D.sl.injEq, reduceCtorEq, false_or, true_or, or_true, or_false, cell_zero, cell_succ, cell_v, cells_v, cells_agg, List.length_cons, List.length_nil]; done))
  all_goals first
    | (exfalso; omega)
    | omega
    | rfl
    | exact fit_ofL _ _
    | exact ⟨_, rfl⟩
    | exact .inl rfl
    | exact ⟨_, rfl, rfl⟩
    | exact fitC hX
    | exact plainC hX
    | exact plainS hX
    | exact plainO
    | exact fitRe (isO _)
    | exact fitRe hX
    | (simp only [cell_zero]; first | exact fitRe hX | exact plainS hX)
    | (simp only [cell_zero]; first | exact fitRe hI1 | exact fitRe IS1)
    | (exfalso; rw [ints_length] at hx; exact hx g8)
    | (exfalso; apply hx; rw [ints_length, decide_eq_decide]; omega)
    | (simp only [leftG]; omega)
    | (simp; done)
    | fail


theorem law_ArenaBack (xs : List D) (h : All2 TypedA [(false, [.sl false [.int .u8]]), (false, [.int .i64])] xs) : PureD Try.prog 6 xs [.v (.bool true)] := by
  obtain ⟨x, xs, rfl, hx, h⟩ := h.cons_
  obtain ⟨y, xs, rfl, hy, h⟩ := h.cons_
  obtain rfl := h.nil_
  obtain ⟨zs, h1, h2, h3⟩ := hx.one.ints
  obtain ⟨q, rfl, _⟩ := hy.one.int_
  have hb : ∀ k, k < zs.length → 0 ≤ zs.getD k 0 ∧ zs.getD k 0 < 256 := fun k hk => wf_u8 (h3 _ (getD_mem hk))
  by_cases h200 : zs.length ≤ 200
  · exact backS x zs q h1 hb h200
  · exact backM x zs q h1 hb (by omega)

end Go.Proofs.Ytlamjfdghhbkpaa