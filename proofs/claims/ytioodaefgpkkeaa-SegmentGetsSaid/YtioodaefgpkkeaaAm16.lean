/-
  The small machine: code, loops, functions.
-/
import Derived.Test.YtioodaefgpkkeaaAm15
import Derived.Deep.LoopGhost
import Derived.ScopeJumps
namespace Go.Proofs.Ytioodaefgpkkeaa
open Go.RowKit

def keyOf : Code → Nat
  | .region id _ _ => id
  | .seq a _ => keyOf a
  | .block _ b => keyOf b
  | .loop b => keyOf b
  | .scope b => keyOf b
  | _ => 1000000
def allN : Nat → (List D → Prop) → Prop
  | 0, f => f []
  | k + 1, f => ∀ r, allN k fun l => f (r :: l)
theorem allN_at : ∀ {l : List D} {k : Nat} {f : List D → Prop}, l.length = k → allN k f → f l
  | [], k, f, h, ha => by subst h; exact ha
  | x :: l, k, f, h, ha => by subst h; exact allN_at (l := l) (f := fun l => f (x :: l)) rfl (ha x)
def pruneS (S : St) (c : Operand) (b : Bool) : St := match c with
  | .tmp t => { S with s := upd S.s t (.t (.one (.k (.bool b)))) }
  | _ => S
section
variable (P : Program) (nt : Nat) (Lp : Nat → Option Ann)
def labelOf : Code → Option Nat
  | .label l => some l
  | _ => none
def noLab : Code → Bool
  | .seq x y => noLab x && noLab y
  | .label _ => false
  | _ => true
def cleanS : Code → Bool
  | .seq x y => match labelOf x with | some _ => true | none => noLab x && cleanS y
  | _ => false
/-- As K; a jump to the label meets the label's head again, with less left. -/
def jumpK (an : Ann) (S : St) (szs : List Nat) (I : List D → Prop) (μ : List D → Nat) (l : Nat) (K : Exit → St → Prop) (zs : List D) : Exit → St → Prop
  | .goto l', S' => bif Nat.beq l' l then an.fit S szs S' fun zs' => I zs' ∧ μ zs' < μ zs else False
  | e, S' => K e S'
abbrev XR := St → (Exit → St → Prop) → Prop
/-- Where ways are brought together again: behind a region with what hangs on it, behind a block. -/
def cutKey : Code → Option Nat
  | .seq (.region id _ _) _ => some id
  | .block id _ => some (500 + id)
  | _ => none
def cutAnn (Lp : Nat → Option Ann) (x : Code) : Option Ann := match cutKey x with
  | some k => Lp (1000 + k)
  | none => none
/-- The run from the front; and, for what stands right within a scope, with one label that the run jumps back to. -/
def xrun2 : Code → XR × XR
  | .skip => (fun S K => K .normal S, fun _ _ => False)
  | .label _ => (fun S K => K .normal S, fun _ _ => False)
  | .region _ ops draw => (fun S K => xregion P nt ops draw S (K .normal), fun _ _ => False)
  | .seq x y => (fun S K => match cutAnn Lp x with
      | none => (xrun2 x).1 S fun e S' => match e with | .normal => (xrun2 y).1 S' K | e => K e S'
      | some an => match an.rows S with
        | none => False
        | some rw => ∃ I : List D → Prop, ((xrun2 x).1 S fun e S' => match e with | .normal => an.fit S (rw.map (·.2.1)) S' I | e => K e S') ∧
            allN an.nv fun zs => I zs → an.headF S (rw.map (·.2.1)) zs fun S2 => (xrun2 y).1 S2 K,
      fun S K => match labelOf x with
        | some l => match Lp (2000 + l) with
          | none => False
          | some an => match an.rows S with
            | none => False
            | some rw => ∃ (I : List D → Prop) (μ : List D → Nat), an.fit S (rw.map (·.2.1)) S I ∧
                allN an.nv fun zs => I zs → an.headF S (rw.map (·.2.1)) zs fun S2 => (xrun2 y).1 S2 (jumpK an S (rw.map (·.2.1)) I μ l K zs)
        | none => (xrun2 x).1 S fun e S' => match e with | .normal => (xrun2 y).2 S' K | .goto _ => False | e => K e S')
  | .cond c x y => (fun S K => match opAV S.s c with
    | .t (.one (.k (.bool b))) => bif b then (xrun2 x).1 S K else (xrun2 y).1 S K
    | .t (.one (.d d)) => ∃ b, d = .v (.bool b) ∧ (b = true → (xrun2 x).1 (pruneS S c true) K) ∧ (b = false → (xrun2 y).1 (pruneS S c false) K)
    | _ => False, fun _ _ => False)
  | .block id c => (fun S K => (xrun2 c).1 S fun e S' => match e with
    | .exit i => bif Nat.beq i id then K .normal S' else K (.exit i) S'
    | e => K e S', fun _ _ => False)
  | .scope c => (fun S K => bif cleanS c then (xrun2 c).2 S K else (xrun2 c).1 S fun e S' => match e with | .goto _ => False | e => K e S', fun _ _ => False)
  | .loop c => (fun S K => match Lp (keyOf c) with
    | none => False
    | some an => match an.rows S with
      | none => False
      | some rw => ∃ (I : List D → Prop) (μ : List D → Nat), an.fit S (rw.map (·.2.1)) S I ∧
          allN an.nv fun zs => I zs → an.headF S (rw.map (·.2.1)) zs fun S2 => (xrun2 c).1 S2 fun e S' => match e with
            | .normal => an.fit S (rw.map (·.2.1)) S' fun zs' => I zs' ∧ μ zs' < μ zs
            | e => K e S', fun _ _ => False)
  | .exit id => (fun S K => K (.exit id) S, fun _ _ => False)
  | .goto l => (fun S K => K (.goto l) S, fun _ _ => False)
  | .ret => (fun S K => K .ret S, fun _ _ => False)
  | _ => (fun _ _ => False, fun _ _ => False)
def xrun (c : Code) (S : St) (K : Exit → St → Prop) : Prop := (xrun2 P nt Lp c).1 S K
def spineOf : Code → Option (Nat × Code)
  | .seq x y => match labelOf x with | some l => some (l, y) | none => spineOf y
  | _ => none
end
section
variable {P : Program} {nt : Nat} {Lp : Nat → Option Ann} {w0 : Base}
theorem prune_stands {S : St} {c : Operand} {d : D} {b : Bool} (hc : opAV S.s c = .t (.one (.d d))) (hd : d = .v (.bool b)) {a : Act} {w : World} (h : Stands w0 nt S a w) : Stands w0 nt (pruneS S c b) a w := by
  cases c with
  | tmp t =>
    obtain ⟨E, h1, h2, h3, h4, h5⟩ := h
    refine ⟨E, h1, fun u => ?_, h3, h4, h5⟩
    by_cases e : u = t
    · subst e
      have h6 := h2 u
      have hc : S.s u = .t (.one (.d d)) := hc
      rw [hc, hd] at h6
      have h6 : Reads E.im w _ (.v (.bool b)) := h6
      simp only [pruneS, upd_same]
      generalize a.tmps.getD u undef = v at h6
      cases h6
      exact ⟨rfl, rfl⟩
    · simp only [pruneS, upd_ne _ _ e]; exact h2 u
  | _ => exact h
theorem cond_val {S : St} {c : Operand} {d : D} {b : Bool} (hc : opAV S.s c = .t (.one (.d d))) (hd : d = .v (.bool b)) {a : Act} {w : World} (h : Stands w0 nt S a w) : a.eval c = .bool b := by
  obtain ⟨E, h1, h2, h3, h4, h5⟩ := h
  have h6 := h2.eval c
  rw [hc, hd] at h6
  have h6 : Reads E.im w _ (.v (.bool b)) := h6
  generalize a.eval c = v at h6
  cases h6; rfl
theorem cond_valK {S : St} {c : Operand} {b : Bool} (hc : opAV S.s c = .t (.one (.k (.bool b)))) {a : Act} {w : World} (h : Stands w0 nt S a w) : a.eval c = .bool b := by
  obtain ⟨E, h1, h2, h3, h4, h5⟩ := h
  have h6 := h2.eval c
  rw [hc] at h6
  exact h6.1
theorem xseq_wp {x y : Code} {S : St} {K : Exit → St → Prop} {a : Act} {w : World} {Q : Exit → Act → World → Prop}
    (ihx : ∀ (K : Exit → St → Prop) (Q : Exit → Act → World → Prop), xrun P nt Lp x S K → (∀ e S' a w, K e S' → Stands w0 nt S' a w → Q e a w) → x.wp P Q a w)
    (ihy : ∀ (S : St) (a : Act) (w : World), xrun P nt Lp y S K → Stands w0 nt S a w → y.wp P Q a w)
    (h : xrun P nt Lp (.seq x y) S K) (hs : Stands w0 nt S a w) (hQ : ∀ e S' a w, K e S' → Stands w0 nt S' a w → Q e a w) : (Code.seq x y).wp P Q a w := by
  simp only [xrun, xrun2, Ann.headF_eq] at h
  split at h
  · refine wp_seq (ihx _ _ h fun e S' a w hk hst => ?_)
    cases e with
    | normal => exact ihy S' a w hk hst
    | exit i => exact hQ _ _ _ _ hk hst
    | goto i => exact hQ _ _ _ _ hk hst
    | ret => exact hQ _ _ _ _ hk hst
    | panic i => exact hQ _ _ _ _ hk hst
    | outgrown => exact hQ _ _ _ _ hk hst
  · rename_i an _
    split at h
    · exact h.elim
    · rename_i rw _
      obtain ⟨I, h1, h2⟩ := h
      have hnb : w0.nb ≤ S.n := by obtain ⟨_, _, _, _, _, _, hk⟩ := hs; exact hk.nb
      generalize rw.map (fun x => x.2.1) = szs at h1 h2
      refine wp_seq (ihx _ _ h1 fun e S' a w hk hst => ?_)
      cases e with
      | normal =>
        obtain ⟨zs', f', hl', hI', hsub', hf', hn'⟩ := Ann.fit_sub hk
        exact ihy _ a w (allN_at hl' h2 hI') (hsub'.stands (fun q hq => hf' q (Nat.lt_of_lt_of_le hq hnb)) (Nat.le_trans hnb hn') hst)
      | exit i => exact hQ _ _ _ _ hk hst
      | goto i => exact hQ _ _ _ _ hk hst
      | ret => exact hQ _ _ _ _ hk hst
      | panic i => exact hQ _ _ _ _ hk hst
      | outgrown => exact hQ _ _ _ _ hk hst
theorem xcond_wp {c : Operand} {x y : Code} {S : St} {K : Exit → St → Prop} {a : Act} {w : World} {Q : Exit → Act → World → Prop}
    (ihx : ∀ (S : St), xrun P nt Lp x S K → Stands w0 nt S a w → x.wp P Q a w) (ihy : ∀ (S : St), xrun P nt Lp y S K → Stands w0 nt S a w → y.wp P Q a w)
    (h : xrun P nt Lp (.cond c x y) S K) (hs : Stands w0 nt S a w) : (Code.cond c x y).wp P Q a w := by
  simp only [xrun, xrun2, Ann.headF_eq] at h
  split at h
  · rename_i b hc
    refine wp_cond (t := b) (cond_valK hc hs) ?_
    cases b
    · exact ihy S h hs
    · exact ihx S h hs
  · rename_i d hc
    obtain ⟨b, hd, h1, h2⟩ := h
    refine wp_cond (t := b) (cond_val hc hd hs) ?_
    cases b
    · exact ihy _ (h2 rfl) (prune_stands hc hd hs)
    · exact ihx _ (h1 rfl) (prune_stands hc hd hs)
  · exact h.elim
theorem xblock_wp {id : Nat} {c : Code} {S : St} {K : Exit → St → Prop} {a : Act} {w : World} {Q : Exit → Act → World → Prop}
    (ih : ∀ (K : Exit → St → Prop) (Q : Exit → Act → World → Prop), xrun P nt Lp c S K → (∀ e S' a w, K e S' → Stands w0 nt S' a w → Q e a w) → c.wp P Q a w)
    (h : xrun P nt Lp (.block id c) S K) (hQ : ∀ e S' a w, K e S' → Stands w0 nt S' a w → Q e a w) : (Code.block id c).wp P Q a w := by
  refine wp_block (ih _ _ h fun e S' a w hk hst => ?_)
  cases e with
  | exit i =>
    simp only [Exit.inBlock] at hk ⊢
    cases hb : Nat.beq i id
    · rw [hb] at hk
      have hne : i ≠ id := fun e => by subst e; simp at hb
      rw [if_neg hne]; exact hQ _ _ _ _ hk hst
    · rw [hb] at hk
      rw [if_pos (Nat.eq_of_beq_eq_true hb)]; exact hQ _ _ _ _ hk hst
  | normal => exact hQ _ _ _ _ hk hst
  | goto i => exact hQ _ _ _ _ hk hst
  | ret => exact hQ _ _ _ _ hk hst
  | panic i => exact hQ _ _ _ _ hk hst
  | outgrown => exact hQ _ _ _ _ hk hst
theorem noLab_find : ∀ {c : Code} {l : Nat}, noLab c = true → findLabel c l = none
  | .seq x y, l, h => by
    simp only [noLab, Bool.and_eq_true] at h
    simp only [findLabel]
    rw [noLab_find h.1, noLab_find h.2]
  | .label _, l, h => by cases h
  | .skip, l, _ => rfl
  | .region _ _ _, l, _ => rfl
  | .cond _ _ _, l, _ => rfl
  | .block _ _, l, _ => rfl
  | .loop _, l, _ => rfl
  | .scope _, l, _ => rfl
  | .exit _, l, _ => rfl
  | .goto _, l, _ => rfl
  | .ret, l, _ => rfl
  | .rangeFunc _ _ _ _, l, _ => rfl
  | .refuse _, l, _ => rfl
theorem labelOf_some {c : Code} {l : Nat} (h : labelOf c = some l) : c = .label l := by
  cases c with
  | label l' => simp only [labelOf, Option.some.injEq] at h; rw [h]
  | _ => cases h
theorem clean_find {c : Code} : cleanS c = true → ∃ l B, spineOf c = some (l, B) ∧ findLabel c l = some (.seq .skip B) := by
  induction c with
  | seq x y _ ihy =>
    intro h
    simp only [cleanS] at h
    cases hx : labelOf x with
    | some l =>
      have hxl := labelOf_some hx
      subst hxl
      exact ⟨l, y, by simp [spineOf, hx], by simp [findLabel]⟩
    | none =>
      rw [hx] at h
      simp only [Bool.and_eq_true] at h
      obtain ⟨l, B, h1, h2⟩ := ihy h.2
      exact ⟨l, B, by simp only [spineOf, hx]; exact h1, by simp only [findLabel]; rw [noLab_find h.1]; exact h2⟩
  | _ => intro h; cases h
/-- What holds at a jump. -/
def Jn (P : Program) (nt : Nat) (Lp : Nat → Option Ann) (w0 : Base) (l : Nat) (B : Code) (K : Exit → St → Prop) (n : Nat) (a : Act) (w : World) : Prop :=
  ∃ (an : Ann) (S : St) (szs : List Nat) (I : List D → Prop) (μ : List D → Nat) (zs : List D), zs.length = an.nv ∧ I zs ∧ μ zs = n ∧
    (allN an.nv fun zs => I zs → (xrun2 P nt Lp B).1 (an.headN S szs zs) (jumpK an S szs I μ l K zs)) ∧ w0.nb ≤ S.n ∧ Stands w0 nt (an.headN S szs zs) a w
theorem least {p : Nat → Prop} : (∃ n, p n) → ∃ n, p n ∧ ∀ m, p m → n ≤ m := by
  rintro ⟨n, hn⟩
  induction n using Nat.strongRecOn with
  | _ n ih =>
    by_cases h : ∃ m, m < n ∧ p m
    · obtain ⟨m, hm, hp⟩ := h; exact ih m hm hp
    · exact ⟨n, hn, fun m hp => Nat.le_of_not_lt fun hlt => h ⟨m, hlt, hp⟩⟩
open Classical in
noncomputable def Jm (p : Nat → Prop) : Nat := if h : ∃ n, p n then Classical.choose (least h) else 0
theorem Jm_spec {p : Nat → Prop} (h : ∃ n, p n) : p (Jm p) ∧ ∀ m, p m → Jm p ≤ m := by
  unfold Jm
  rw [dif_pos h]
  exact Classical.choose_spec (least h)
section
variable {l : Nat} {B : Code} {K : Exit → St → Prop} {Q : Exit → Act → World → Prop}
/-- One pass from the label. -/
theorem pass_wp (ihB : ∀ (S : St) (a : Act) (w : World) (K : Exit → St → Prop) (Q : Exit → Act → World → Prop), xrun P nt Lp B S K → Stands w0 nt S a w → (∀ e S' a w, K e S' → Stands w0 nt S' a w → Q e a w) → B.wp P Q a w)
    (hQ : ∀ e S' a w, K e S' → Stands w0 nt S' a w → Q e a w) {n : Nat} {a : Act} {w : World} (hJ : Jn P nt Lp w0 l B K n a w) :
    B.wp P (Exit.jump l (fun a' w' => ∃ m, m < n ∧ Jn P nt Lp w0 l B K m a' w') Q) a w := by
  obtain ⟨an, S, szs, I, μ, zs, hl, hI, rfl, hp, hnb, hst⟩ := hJ
  refine ihB _ a w _ _ (allN_at hl hp hI) hst fun e S' a' w' hk hst' => ?_
  cases e with
  | goto l' =>
    simp only [jumpK] at hk
    cases hb : Nat.beq l' l
    · rw [hb] at hk; exact hk.elim
    · rw [hb] at hk
      simp only [cond_true] at hk
      obtain ⟨zs', f', hl', ⟨hI', hlt⟩, hsub', hf', hn'⟩ := Ann.fit_sub hk
      exact ⟨Nat.eq_of_beq_eq_true hb, μ zs', hlt, an, S, szs, I, μ, zs', hl', hI', rfl, hp, hnb, hsub'.stands (fun q hq => hf' q (Nat.lt_of_lt_of_le hq hnb)) (Nat.le_trans hnb hn') hst'⟩
  | normal => exact hQ _ _ _ _ hk hst'
  | exit i => exact hQ _ _ _ _ hk hst'
  | ret => exact hQ _ _ _ _ hk hst'
  | panic i => exact hQ _ _ _ _ hk hst'
  | outgrown => exact hQ _ _ _ _ hk hst'
def RunsOk (P : Program) (nt : Nat) (Lp : Nat → Option Ann) (w0 : Base) (c : Code) : Prop :=
  ∀ (S : St) (a : Act) (w : World) (K : Exit → St → Prop) (Q : Exit → Act → World → Prop), xrun P nt Lp c S K → Stands w0 nt S a w → (∀ e S' a w, K e S' → Stands w0 nt S' a w → Q e a w) → c.wp P Q a w
/-- All that stands on the way to the label, and what is behind it, runs as it should. -/
def SpineOk (P : Program) (nt : Nat) (Lp : Nat → Option Ann) (w0 : Base) : Code → Prop
  | .seq x y => RunsOk P nt Lp w0 x ∧ RunsOk P nt Lp w0 y ∧ SpineOk P nt Lp w0 y
  | _ => True
theorem spine_wp (c : Code) : spineOf c = some (l, B) → SpineOk P nt Lp w0 c → (RunsOk P nt Lp w0 B) ∧
    ∀ (S : St) (a : Act) (w : World), (xrun2 P nt Lp c).2 S K → Stands w0 nt S a w → (∀ e S' a w, K e S' → Stands w0 nt S' a w → Q e a w) →
      c.wp P (Exit.jump l (fun a' w' => ∃ m, Jn P nt Lp w0 l B K m a' w') Q) a w := by
  induction c with
  | seq x y _ ihy =>
    intro hsp hok
    obtain ⟨hx, hy, hsy⟩ := hok
    simp only [spineOf] at hsp
    cases hlx : labelOf x with
    | some l' =>
      rw [hlx] at hsp
      simp only [Option.some.injEq, Prod.mk.injEq] at hsp
      obtain ⟨h1, h2⟩ := hsp
      subst h1; subst h2
      have hxl := labelOf_some hlx
      subst hxl
      refine ⟨hy, fun S a w h hs hQ => ?_⟩
      simp only [xrun2, labelOf, Ann.headF_eq] at h
      split at h
      · exact h.elim
      · rename_i an _
        split at h
        · exact h.elim
        · rename_i rw _
          obtain ⟨I, μ, h1, h2⟩ := h
          obtain ⟨zs0, f0, hl0, hI0, hsub0, hf0, hn0⟩ := Ann.fit_sub h1
          have hnb : w0.nb ≤ S.n := by obtain ⟨_, _, _, _, _, _, hk⟩ := hs; exact hk.nb
          have hst0 := hsub0.stands (fun q hq => hf0 q (Nat.lt_of_lt_of_le hq hnb)) (Nat.le_trans hnb hn0) hs
          refine wp_seq (wp_label ?_)
          generalize rw.map (fun x => x.2.1) = szs at h1 h2 hsub0 hst0 hn0
          have hj : Jn P nt Lp w0 l' y K (μ zs0) a w := by
            unfold Jn
            exact ⟨an, S, szs, I, μ, zs0, hl0, hI0, rfl, h2, hnb, hst0⟩
          have := pass_wp (l := l') (K := K) (Q := Q) hy hQ hj
          refine wp_mono this fun e a' w' hq => ?_
          cases e with
          | goto l2 => exact ⟨hq.1, let ⟨m, _, hm⟩ := hq.2; ⟨m, hm⟩⟩
          | normal => exact hq
          | exit i => exact hq
          | ret => exact hq
          | panic i => exact hq
          | outgrown => exact hq
    | none =>
      rw [hlx] at hsp
      obtain ⟨hB, hw⟩ := ihy hsp hsy
      refine ⟨hB, fun S a w h hs hQ => ?_⟩
      simp only [xrun2, hlx, Ann.headF_eq] at h
      refine wp_seq (hx _ _ _ _ _ h hs fun e S' a' w' hk hst => ?_)
      cases e with
      | normal => exact hw S' a' w' hk hst hQ
      | goto i => exact hk.elim
      | exit i => exact hQ _ _ _ _ hk hst
      | ret => exact hQ _ _ _ _ hk hst
      | panic i => exact hQ _ _ _ _ hk hst
      | outgrown => exact hQ _ _ _ _ hk hst
  | _ => intro h; cases h
end
theorem xscope_wp {c : Code} {S : St} {K : Exit → St → Prop} {a : Act} {w : World} {Q : Exit → Act → World → Prop}
    (ih : ∀ (K : Exit → St → Prop) (Q : Exit → Act → World → Prop), xrun P nt Lp c S K → (∀ e S' a w, K e S' → Stands w0 nt S' a w → Q e a w) → c.wp P Q a w) (hok : SpineOk P nt Lp w0 c)
    (h : xrun P nt Lp (.scope c) S K) (hs : Stands w0 nt S a w) (hQ : ∀ e S' a w, K e S' → Stands w0 nt S' a w → Q e a w) : (Code.scope c).wp P Q a w := by
  simp only [xrun, xrun2, Ann.headF_eq] at h
  cases hc : cleanS c
  · rw [hc] at h
    simp only [cond_false] at h
    refine wp_scope_straight (ih _ _ h fun e S' a w hk hst => ?_)
    cases e with
    | goto l => exact hk.elim
    | normal => exact hQ _ _ _ _ hk hst
    | exit i => exact hQ _ _ _ _ hk hst
    | ret => exact hQ _ _ _ _ hk hst
    | panic i => exact hQ _ _ _ _ hk hst
    | outgrown => exact hQ _ _ _ _ hk hst
  · rw [hc] at h
    simp only [cond_true] at h
    obtain ⟨l, B, h1, h2⟩ := clean_find hc
    obtain ⟨hB, hw⟩ := spine_wp (K := K) (Q := Q) c h1 hok
    refine wp_scope_jumps l (fun a' w' => ∃ m, Jn P nt Lp w0 l B K m a' w') (fun a' w' => Jm fun m => Jn P nt Lp w0 l B K m a' w') h2 (hw S a w h hs hQ) fun a1 w1 hJ => ?_
    obtain ⟨k1, k2⟩ := Jm_spec hJ
    refine wp_seq (wp_skip ?_)
    refine wp_mono (pass_wp (Q := Q) hB hQ k1) fun e a' w' hq => ?_
    cases e with
    | goto l2 =>
      obtain ⟨rfl, m, hm, hj⟩ := hq
      exact ⟨rfl, ⟨m, hj⟩, Nat.lt_of_le_of_lt ((Jm_spec ⟨m, hj⟩).2 m hj) hm⟩
    | normal => exact hq
    | exit i => exact hq
    | ret => exact hq
    | panic i => exact hq
    | outgrown => exact hq
theorem xloop_wp {c : Code} {S : St} {K : Exit → St → Prop} {a : Act} {w : World} {Q : Exit → Act → World → Prop}
    (ih : ∀ (S : St) (a : Act) (w : World) (K : Exit → St → Prop) (Q : Exit → Act → World → Prop), xrun P nt Lp c S K → Stands w0 nt S a w → (∀ e S' a w, K e S' → Stands w0 nt S' a w → Q e a w) → c.wp P Q a w)
    (h : xrun P nt Lp (.loop c) S K) (hs : Stands w0 nt S a w) (hQ : ∀ e S' a w, K e S' → Stands w0 nt S' a w → Q e a w) : (Code.loop c).wp P Q a w := by
  simp only [xrun, xrun2, Ann.headF_eq] at h
  split at h
  · exact h.elim
  · rename_i an _
    split at h
    · exact h.elim
    · rename_i rw _
      obtain ⟨I, μ, h1, h2⟩ := h
      obtain ⟨zs0, f0, hl0, hI0, hsub0, hf0, hn0⟩ := Ann.fit_sub h1
      have hnb : w0.nb ≤ S.n := by obtain ⟨_, _, _, _, _, _, hk⟩ := hs; exact hk.nb
      have hst0 := hsub0.stands (fun q hq => hf0 q (Nat.lt_of_lt_of_le hq hnb)) (Nat.le_trans hnb hn0) hs
      generalize rw.map (fun x => x.2.1) = szs at h1 h2 hsub0 hst0 hn0
      refine wp_loop_ghost (fun n a w => ∃ zs, zs.length = an.nv ∧ I zs ∧ μ zs = n ∧ Stands w0 nt (an.headN S szs zs) a w) (μ zs0) ?_ ?_
      · exact ⟨zs0, hl0, hI0, rfl, hst0⟩
      rintro n a w ⟨zs, hl, hI, rfl, hst⟩
      have hb := allN_at hl h2 hI
      refine ih _ a w _ _ hb hst ?_
      intro e S' a' w' hk hst'
      cases e with
      | normal =>
        obtain ⟨zs', f', hl', ⟨hI', hlt⟩, hsub', hf', hn'⟩ := Ann.fit_sub hk
        exact ⟨μ zs', hlt, zs', hl', hI', rfl, hsub'.stands (fun q hq => hf' q (Nat.lt_of_lt_of_le hq hnb)) (Nat.le_trans hnb hn') hst'⟩
      | exit i => exact hQ _ _ _ _ hk hst'
      | goto i => exact hQ _ _ _ _ hk hst'
      | ret => exact hQ _ _ _ _ hk hst'
      | panic i => exact hQ _ _ _ _ hk hst'
      | outgrown => exact hQ _ _ _ _ hk hst'
theorem xrun_wp2 (hm : P.follows .mixedOrders = true) (c : Code) : RunsOk P nt Lp w0 c ∧ SpineOk P nt Lp w0 c := by
  induction c with
  | skip => exact ⟨fun S a w K Q h hs hQ => wp_skip (hQ _ _ _ _ h hs), trivial⟩
  | label l => exact ⟨fun S a w K Q h hs hQ => wp_label (hQ _ _ _ _ h hs), trivial⟩
  | region id ops draw => exact ⟨fun S a w K Q h hs hQ => xregion_wp hm h hs fun S' a w hk hst => hQ _ _ _ _ hk hst, trivial⟩
  | seq x y ihx ihy => exact ⟨fun S a w K Q h hs hQ => xseq_wp (fun K Q h hQ => ihx.1 S a w K Q h hs hQ) (fun S a w h hs => ihy.1 S a w K Q h hs hQ) h hs hQ, ihx.1, ihy.1, ihy.2⟩
  | cond c x y ihx ihy => exact ⟨fun S a w K Q h hs hQ => xcond_wp (fun S h hs => ihx.1 S a w K Q h hs hQ) (fun S h hs => ihy.1 S a w K Q h hs hQ) h hs, trivial⟩
  | block id c ih => exact ⟨fun S a w K Q h hs hQ => xblock_wp (fun K Q h hQ => ih.1 S a w K Q h hs hQ) h hQ, trivial⟩
  | scope c ih => exact ⟨fun S a w K Q h hs hQ => xscope_wp (fun K Q h hQ => ih.1 S a w K Q h hs hQ) ih.2 h hs hQ, trivial⟩
  | loop c ih => exact ⟨fun S a w K Q h hs hQ => xloop_wp ih.1 h hs hQ, trivial⟩
  | exit id => exact ⟨fun S a w K Q h hs hQ => wp_exit (hQ _ _ _ _ h hs), trivial⟩
  | ret => exact ⟨fun S a w K Q h hs hQ => wp_ret (hQ _ _ _ _ h hs), trivial⟩
  | rangeFunc f ps x y => exact ⟨fun S a w K Q h => h.elim, trivial⟩
  | goto l => exact ⟨fun S a w K Q h hs hQ => wp_goto (hQ _ _ _ _ h hs), trivial⟩
  | refuse l => exact ⟨fun S a w K Q h => h.elim, trivial⟩
theorem xrun_wp (hm : P.follows .mixedOrders = true) : ∀ (c : Code) (S : St) (a : Act) (w : World) (K : Exit → St → Prop) (Q : Exit → Act → World → Prop), xrun P nt Lp c S K → Stands w0 nt S a w → (∀ e S' a w, K e S' → Stands w0 nt S' a w → Q e a w) → c.wp P Q a w :=
  fun c => (xrun_wp2 hm c).1
end
end Go.Proofs.Ytioodaefgpkkeaa
