/-
  The small machine: code, loops, functions.
-/
import Derived.Test.YtfjmfimalibhfaaAm15
import Derived.Deep.LoopGhost
import Derived.ScopeJumps
namespace Go.Proofs.Ytfjmfimalibhfaa
open Go.RowKit

def keyOf : Code → Nat
  | .region id _ _ => id
  | .seq a _ => keyOf a
  | .block _ b => keyOf b
  | .loop b => keyOf b
  | .scope b => keyOf b
  | _ => 1000000
def allN : Nat → (List D → Prop) → Prop
  | 0, f => f []
  | k + 1, f => ∀ r, allN k fun l => f (r :: l)
theorem allN_at : ∀ {l : List D} {k : Nat} {f : List D → Prop}, l.length = k → allN k f → f l
  | [], k, f, h, ha => by subst h; exact ha
  | x :: l, k, f, h, ha => by subst h; exact allN_at (l := l) (f := fun l => f (x :: l)) rfl (ha x)
def pruneS (S : St) (c : Operand) (b : Bool) : St := match c with
  | .tmp t => { S with s := upd S.s t (.t (.one (.k (.bool b)))) }
  | _ => S
section
variable (P : Program) (nt : Nat) (Lp : Nat → Option Ann)
def xrun : Code → St → (Exit → St → Prop) → Prop
  | .skip, S, K => K .normal S
  | .label _, S, K => K .normal S
  | .region _ ops draw, S, K => xregion P nt ops draw S (K .normal)
  | .seq x y, S, K => xrun x S fun e S' => match e with | .normal => xrun y S' K | e => K e S'
  | .cond c x y, S, K => match opAV S.s c with
    | .t (.one (.k (.bool b))) => bif b then xrun x S K else xrun y S K
    | .t (.one (.d d)) => ∃ b, d = .v (.bool b) ∧ (b = true → xrun x (pruneS S c true) K) ∧ (b = false → xrun y (pruneS S c false) K)
    | _ => False
  | .block id c, S, K => xrun c S fun e S' => match e with
    | .exit i => bif Nat.beq i id then K .normal S' else K (.exit i) S'
    | e => K e S'
  | .scope c, S, K => xrun c S fun e S' => match e with | .goto _ => False | e => K e S'
  | .loop c, S, K => match Lp (keyOf c) with
    | none => False
    | some an => match an.rows S with
      | none => False
      | some rw => ∃ (I : List D → Prop) (μ : List D → Nat), an.fit S (rw.map (·.2.1)) S I ∧
          allN an.nv fun zs => I zs → xrun c (an.headN S (rw.map (·.2.1)) zs) fun e S' => match e with
            | .normal => an.fit S (rw.map (·.2.1)) S' fun zs' => I zs' ∧ μ zs' < μ zs
            | e => K e S'
  | .exit id, S, K => K (.exit id) S
  | .ret, S, K => K .ret S
  | _, _, _ => False
end
section
variable {P : Program} {nt : Nat} {Lp : Nat → Option Ann} {w0 : Base}
theorem prune_stands {S : St} {c : Operand} {d : D} {b : Bool} (hc : opAV S.s c = .t (.one (.d d))) (hd : d = .v (.bool b)) {a : Act} {w : World} (h : Stands w0 nt S a w) : Stands w0 nt (pruneS S c b) a w := by
  cases c with
  | tmp t =>
    obtain ⟨E, h1, h2, h3, h4, h5⟩ := h
    refine ⟨E, h1, fun u => ?_, h3, h4, h5⟩
    by_cases e : u = t
    · subst e
      have h6 := h2 u
      have hc : S.s u = .t (.one (.d d)) := hc
      rw [hc, hd] at h6
      have h6 : Reads E.im w _ (.v (.bool b)) := h6
      simp only [pruneS, upd_same]
      generalize a.tmps.getD u undef = v at h6
      cases h6
      exact ⟨rfl, rfl⟩
    · simp only [pruneS, upd_ne _ _ e]; exact h2 u
  | _ => exact h
theorem cond_val {S : St} {c : Operand} {d : D} {b : Bool} (hc : opAV S.s c = .t (.one (.d d))) (hd : d = .v (.bool b)) {a : Act} {w : World} (h : Stands w0 nt S a w) : a.eval c = .bool b := by
  obtain ⟨E, h1, h2, h3, h4, h5⟩ := h
  have h6 := h2.eval c
  rw [hc, hd] at h6
  have h6 : Reads E.im w _ (.v (.bool b)) := h6
  generalize a.eval c = v at h6
  cases h6; rfl
theorem cond_valK {S : St} {c : Operand} {b : Bool} (hc : opAV S.s c = .t (.one (.k (.bool b)))) {a : Act} {w : World} (h : Stands w0 nt S a w) : a.eval c = .bool b := by
  obtain ⟨E, h1, h2, h3, h4, h5⟩ := h
  have h6 := h2.eval c
  rw [hc] at h6
  exact h6.1
theorem xseq_wp {x y : Code} {S : St} {K : Exit → St → Prop} {a : Act} {w : World} {Q : Exit → Act → World → Prop}
    (ihx : ∀ (K : Exit → St → Prop) (Q : Exit → Act → World → Prop), xrun P nt Lp x S K → (∀ e S' a w, K e S' → Stands w0 nt S' a w → Q e a w) → x.wp P Q a w)
    (ihy : ∀ (S : St) (a : Act) (w : World), xrun P nt Lp y S K → Stands w0 nt S a w → y.wp P Q a w)
    (h : xrun P nt Lp (.seq x y) S K) (hQ : ∀ e S' a w, K e S' → Stands w0 nt S' a w → Q e a w) : (Code.seq x y).wp P Q a w := by
  refine wp_seq (ihx _ _ h fun e S' a w hk hst => ?_)
  cases e with
  | normal => exact ihy S' a w hk hst
  | exit i => exact hQ _ _ _ _ hk hst
  | goto i => exact hQ _ _ _ _ hk hst
  | ret => exact hQ _ _ _ _ hk hst
  | panic i => exact hQ _ _ _ _ hk hst
  | outgrown => exact hQ _ _ _ _ hk hst
theorem xcond_wp {c : Operand} {x y : Code} {S : St} {K : Exit → St → Prop} {a : Act} {w : World} {Q : Exit → Act → World → Prop}
    (ihx : ∀ (S : St), xrun P nt Lp x S K → Stands w0 nt S a w → x.wp P Q a w) (ihy : ∀ (S : St), xrun P nt Lp y S K → Stands w0 nt S a w → y.wp P Q a w)
    (h : xrun P nt Lp (.cond c x y) S K) (hs : Stands w0 nt S a w) : (Code.cond c x y).wp P Q a w := by
  simp only [xrun] at h
  split at h
  · rename_i b hc
    refine wp_cond (t := b) (cond_valK hc hs) ?_
    cases b
    · exact ihy S h hs
    · exact ihx S h hs
  · rename_i d hc
    obtain ⟨b, hd, h1, h2⟩ := h
    refine wp_cond (t := b) (cond_val hc hd hs) ?_
    cases b
    · exact ihy _ (h2 rfl) (prune_stands hc hd hs)
    · exact ihx _ (h1 rfl) (prune_stands hc hd hs)
  · exact h.elim
theorem xblock_wp {id : Nat} {c : Code} {S : St} {K : Exit → St → Prop} {a : Act} {w : World} {Q : Exit → Act → World → Prop}
    (ih : ∀ (K : Exit → St → Prop) (Q : Exit → Act → World → Prop), xrun P nt Lp c S K → (∀ e S' a w, K e S' → Stands w0 nt S' a w → Q e a w) → c.wp P Q a w)
    (h : xrun P nt Lp (.block id c) S K) (hQ : ∀ e S' a w, K e S' → Stands w0 nt S' a w → Q e a w) : (Code.block id c).wp P Q a w := by
  refine wp_block (ih _ _ h fun e S' a w hk hst => ?_)
  cases e with
  | exit i =>
    simp only [Exit.inBlock] at hk ⊢
    cases hb : Nat.beq i id
    · rw [hb] at hk
      have hne : i ≠ id := fun e => by subst e; simp at hb
      rw [if_neg hne]; exact hQ _ _ _ _ hk hst
    · rw [hb] at hk
      rw [if_pos (Nat.eq_of_beq_eq_true hb)]; exact hQ _ _ _ _ hk hst
  | normal => exact hQ _ _ _ _ hk hst
  | goto i => exact hQ _ _ _ _ hk hst
  | ret => exact hQ _ _ _ _ hk hst
  | panic i => exact hQ _ _ _ _ hk hst
  | outgrown => exact hQ _ _ _ _ hk hst
theorem xscope_wp {c : Code} {S : St} {K : Exit → St → Prop} {a : Act} {w : World} {Q : Exit → Act → World → Prop}
    (ih : ∀ (K : Exit → St → Prop) (Q : Exit → Act → World → Prop), xrun P nt Lp c S K → (∀ e S' a w, K e S' → Stands w0 nt S' a w → Q e a w) → c.wp P Q a w)
    (h : xrun P nt Lp (.scope c) S K) (hQ : ∀ e S' a w, K e S' → Stands w0 nt S' a w → Q e a w) : (Code.scope c).wp P Q a w := by
  refine wp_scope_straight (ih _ _ h fun e S' a w hk hst => ?_)
  cases e with
  | goto l => exact hk.elim
  | normal => exact hQ _ _ _ _ hk hst
  | exit i => exact hQ _ _ _ _ hk hst
  | ret => exact hQ _ _ _ _ hk hst
  | panic i => exact hQ _ _ _ _ hk hst
  | outgrown => exact hQ _ _ _ _ hk hst
theorem xloop_wp {c : Code} {S : St} {K : Exit → St → Prop} {a : Act} {w : World} {Q : Exit → Act → World → Prop}
    (ih : ∀ (S : St) (a : Act) (w : World) (K : Exit → St → Prop) (Q : Exit → Act → World → Prop), xrun P nt Lp c S K → Stands w0 nt S a w → (∀ e S' a w, K e S' → Stands w0 nt S' a w → Q e a w) → c.wp P Q a w)
    (h : xrun P nt Lp (.loop c) S K) (hs : Stands w0 nt S a w) (hQ : ∀ e S' a w, K e S' → Stands w0 nt S' a w → Q e a w) : (Code.loop c).wp P Q a w := by
  simp only [xrun] at h
  split at h
  · exact h.elim
  · rename_i an _
    split at h
    · exact h.elim
    · rename_i rw _
      obtain ⟨I, μ, h1, h2⟩ := h
      obtain ⟨zs0, f0, hl0, hI0, hsub0, hf0, hn0⟩ := Ann.fit_sub h1
      have hnb : w0.nb ≤ S.n := by obtain ⟨_, _, _, _, _, _, hk⟩ := hs; exact hk.nb
      have hst0 := hsub0.stands (fun q hq => hf0 q (Nat.lt_of_lt_of_le hq hnb)) (Nat.le_trans hnb hn0) hs
      generalize rw.map (fun x => x.2.1) = szs at h1 h2 hsub0 hst0 hn0
      refine wp_loop_ghost (fun n a w => ∃ zs, zs.length = an.nv ∧ I zs ∧ μ zs = n ∧ Stands w0 nt (an.headN S szs zs) a w) (μ zs0) ?_ ?_
      · exact ⟨zs0, hl0, hI0, rfl, hst0⟩
      rintro n a w ⟨zs, hl, hI, rfl, hst⟩
      have hb := allN_at hl h2 hI
      refine ih _ a w _ _ hb hst ?_
      intro e S' a' w' hk hst'
      cases e with
      | normal =>
        obtain ⟨zs', f', hl', ⟨hI', hlt⟩, hsub', hf', hn'⟩ := Ann.fit_sub hk
        exact ⟨μ zs', hlt, zs', hl', hI', rfl, hsub'.stands (fun q hq => hf' q (Nat.lt_of_lt_of_le hq hnb)) (Nat.le_trans hnb hn') hst'⟩
      | exit i => exact hQ _ _ _ _ hk hst'
      | goto i => exact hQ _ _ _ _ hk hst'
      | ret => exact hQ _ _ _ _ hk hst'
      | panic i => exact hQ _ _ _ _ hk hst'
      | outgrown => exact hQ _ _ _ _ hk hst'
theorem xrun_wp (hm : P.follows .mixedOrders = true) : ∀ (c : Code) (S : St) (a : Act) (w : World) (K : Exit → St → Prop) (Q : Exit → Act → World → Prop), xrun P nt Lp c S K → Stands w0 nt S a w → (∀ e S' a w, K e S' → Stands w0 nt S' a w → Q e a w) → c.wp P Q a w := by
  intro c
  induction c with
  | skip => intro S a w K Q h hs hQ; exact wp_skip (hQ _ _ _ _ h hs)
  | label l => intro S a w K Q h hs hQ; exact wp_label (hQ _ _ _ _ h hs)
  | region id ops draw => intro S a w K Q h hs hQ; exact xregion_wp hm h hs fun S' a w hk hst => hQ _ _ _ _ hk hst
  | seq x y ihx ihy => intro S a w K Q h hs hQ; exact xseq_wp (fun K Q h hQ => ihx S a w K Q h hs hQ) (fun S a w h hs => ihy S a w K Q h hs hQ) h hQ
  | cond c x y ihx ihy => intro S a w K Q h hs hQ; exact xcond_wp (fun S h hs => ihx S a w K Q h hs hQ) (fun S h hs => ihy S a w K Q h hs hQ) h hs
  | block id c ih => intro S a w K Q h hs hQ; exact xblock_wp (fun K Q h hQ => ih S a w K Q h hs hQ) h hQ
  | scope c ih => intro S a w K Q h hs hQ; exact xscope_wp (fun K Q h hQ => ih S a w K Q h hs hQ) h hQ
  | loop c ih => intro S a w K Q h hs hQ; exact xloop_wp ih h hs hQ
  | exit id => intro S a w K Q h hs hQ; exact wp_exit (hQ _ _ _ _ h hs)
  | ret => intro S a w K Q h hs hQ; exact wp_ret (hQ _ _ _ _ h hs)
  | rangeFunc f ps x y => intro S a w K Q h; exact h.elim
  | goto l => intro S a w K Q h; exact h.elim
  | refuse l => intro S a w K Q h; exact h.elim
end
end Go.Proofs.Ytfjmfimalibhfaa
