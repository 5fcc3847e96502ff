/-
  The small machine: code, loops, functions.
-/
import Derived.Test.YtjdemohgegldaaaAmU
namespace Go.Proofs.Ytjdemohgegldaaa
set_option linter.unusedSimpArgs false
set_option linter.unusedVariables false
open Go.RowKit

def keyOf : Code → Nat
  | .region id _ _ => id
  | .seq a _ => keyOf a
  | .block _ b => keyOf b
  | .loop b => keyOf b
  | .scope b => keyOf b
  | _ => 1000000
def allN : Nat → (List D → Prop) → Prop
  | 0, f => f []
  | k + 1, f => ∀ r, allN k fun l => f (r :: l)
theorem allN_at : ∀ {l : List D} {k : Nat} {f : List D → Prop}, l.length = k → allN k f → f l
  | [], k, f, h, ha => by subst h; exact ha
  | x :: l, k, f, h, ha => by subst h; exact allN_at (l := l) (f := fun l => f (x :: l)) rfl (ha x)
def pruneS (S : St) (c : Operand) (b : Bool) : St := match c with
  | .tmp t => { S with s := upd S.s t (.t (.one (.k (.bool b)))) }
  | _ => S
section
variable (P : Program) (nt : Nat) (Lp : Nat → Option Ann)
def labelOf : Code → Option Nat
  | .label l => some l
  | _ => none
def noLab : Code → Bool
  | .seq x y => noLab x && noLab y
  | .label _ => false
  | _ => true
def cleanS : Code → Bool
  | .seq x y => match labelOf x with | some _ => true | none => noLab x && cleanS y
  | _ => false
/-- As K; a jump to the label meets the label's head again, with less left. -/
def jumpK (an : Ann) (S : St) (szs : List Nat) (I : List D → Prop) (μ : List D → Nat) (l : Nat) (K : Exit → St → Prop) (zs : List D) : Exit → St → Prop
  | .goto l', S' => bif Nat.beq l' l then an.fit S szs S' fun zs' => I zs' ∧ μ zs' < μ zs else False
  | e, S' => K e S'
abbrev XR := St → (Exit → St → Prop) → Prop
/-- Where ways are brought together again: behind a region with what hangs on it, behind a block. -/
def cutKey : Code → Option Nat
  | .seq (.region id _ _) _ => some id
  | .block id _ => some (500 + id)
  | _ => none
def cutAnn (Lp : Nat → Option Ann) (x : Code) : Option Ann := match cutKey x with
  | some k => Lp (1000 + k)
  | none => none
/-- The iterator's number, as the annotation tells it. -/
def seqFn (Lp : Nat → Option Ann) (k : Nat) : Nat := match Lp k with | some an => an.vs.headD 0 | none => 0
def fitsX (ks : List (Option Nat)) (xs : List (List D)) : Prop := ∀ x ∈ xs, argFits ks x
def rK2 (an : Ann) (S : St) (szs : List Nat) (I : Nat → List D → Prop) (k : Nat) (S2 : St) (K : Exit → St → Prop) : Exit → St → Prop
  | .normal, S' => an.fit S szs (outerS S2 S') (I (k + 1))
  | .exit i, S' => K (.exit i) (outerS S2 S')
  | .ret, S' => K .ret (outerS S2 S')
  | .goto l, S' => K (.goto l) (outerS S2 S')
  | _, _ => False
def rK1 (X : St → Prop) : Exit → St → Prop
  | .normal, S3 => X S3
  | _, _ => False
/-- Rows that stay as they are from a region on, as its annotation tells. -/
def boxRows (S : St) (r : Nat) : List Nat := match S.mem r with | some (.box cs) => cs.flatMap (fun c => match c with | .row q => [q] | _ => []) | _ => []
def frzQ (S : St) (l : List Nat) : List Nat := l.flatMap fun t => match S.s t with | .t (.one (.row q)) => [q] | .t (.one (.ptr r _)) => boxRows S r | _ => []
/-- A row that stays, in a box, is told as the data that it is. -/
def meltC (mem : Nat → Option Ob) (c : C) : C := match c with
  | .row q => match mem q with | some (.imm x) => .d x | _ => .row q
  | c => c
def meltAt (S : St) (mem : Nat → Option Ob) (t : Nat) : Nat → Option Ob := match S.s t with
  | .t (.one (.ptr r _)) => match mem r with
    | some (.box cs) => upd mem r (some (.box (cs.map (meltC mem))))
    | _ => mem
  | _ => mem
def frzA (Lp : Nat → Option Ann) (id : Nat) (S : St) : St := match Lp (5000 + id) with
  | none => S
  | some an => ⟨S.s, an.vs.foldl (meltAt S) (updL S.mem (frzW S.mem (frzQ S an.vs))), S.n⟩
def spineOf : Code → Option (Nat × Code)
  | .seq x y => match labelOf x with | some l => some (l, y) | none => spineOf y
  | _ => none
/-- A scope with a label that the run jumps back to, as its annotation tells. -/
def scopeJ (Lp : Nat → Option Ann) (c : Code) : Bool := cleanS c && match spineOf c with | some (l, _) => (Lp (2000 + l)).isSome | none => false
/-- A loop of so many rounds at most, round by round. -/
def unr (f : XR) : Nat → XR
  | 0 => fun _ _ => False
  | n + 1 => fun S K => f S fun e S' => match e with | .normal => unr f n S' K | e => K e S'
/-- The run from the front; and, for what stands right within a scope, with one label that the run jumps back to. -/
def xrun2 : Bool → Code → XR × XR
  | rd, .skip => (fun S K => K .normal S, fun _ _ => False)
  | rd, .label _ => (fun S K => K .normal S, fun _ _ => False)
  | rd, .region id ops draw => (fun S K => xregion P nt ops draw (frzA Lp id S) (K .normal), fun _ _ => False)
  | rd, .seq x y => (fun S K => match cutAnn Lp x with
      | none => (xrun2 rd x).1 S fun e S' => match e with | .normal => (xrun2 rd y).1 S' K | e => K e S'
      | some an => match an.rows S with
        | none => False
        | some rw => ∃ I : List D → Prop, ((xrun2 rd x).1 S fun e S' => match e with | .normal => an.fit S (rw.map (·.2.1)) S' I | e => K e S') ∧
            allN an.nv fun zs => I zs → an.headF S (rw.map (·.2.1)) zs fun S2 => (xrun2 rd y).1 S2 K,
      fun S K => match labelOf x with
        | some l => match Lp (2000 + l) with
          | none => False
          | some an => match an.rows S with
            | none => False
            | some rw => ∃ (I : List D → Prop) (μ : List D → Nat), an.fit S (rw.map (·.2.1)) S I ∧
                allN an.nv fun zs => I zs → an.headF S (rw.map (·.2.1)) zs fun S2 => (xrun2 rd y).1 S2 (jumpK an S (rw.map (·.2.1)) I μ l K zs)
        | none => (xrun2 rd x).1 S fun e S' => match e with | .normal => (xrun2 rd y).2 S' K | .goto _ => False | e => K e S')
  | rd, .cond c x y => (fun S K => match opAV S.s c with
    | .t (.one (.k (.bool b))) => bif b then (xrun2 rd x).1 S K else (xrun2 rd y).1 S K
    | .t (.one (.d d)) => ∃ b, d = .v (.bool b) ∧ (b = true → (xrun2 rd x).1 (pruneS S c true) K) ∧ (b = false → (xrun2 rd y).1 (pruneS S c false) K)
    | _ => False, fun _ _ => False)
  | rd, .block id c => (fun S K => (xrun2 rd c).1 S fun e S' => match e with
    | .exit i => bif Nat.beq i id then K .normal S' else K (.exit i) S'
    | e => K e S', fun _ _ => False)
  | rd, .scope c => (fun S K => bif scopeJ Lp c then (xrun2 rd c).2 S K else (xrun2 rd c).1 S fun e S' => match e with | .goto _ => False | e => K e S', fun _ _ => False)
  | rd, .loop c => (fun S K => match Lp (6000 + keyOf c) with
   | some an => unr (xrun2 rd c).1 (an.vs.headD 0) S K
   | none => match Lp (keyOf c) with
    | none => False
    | some an => match an.rows S with
      | none => False
      | some rw => ∃ (I : List D → Prop) (μ : List D → Nat), an.fit S (rw.map (·.2.1)) S I ∧
          allN an.nv fun zs => I zs → an.headF S (rw.map (·.2.1)) zs fun S2 => (xrun2 rd c).1 S2 fun e S' => match e with
            | .normal => an.fit S (rw.map (·.2.1)) S' fun zs' => I zs' ∧ μ zs' < μ zs
            | e => K e S', fun _ _ => False)
  | rd, .exit id => (fun S K => K (.exit id) S, fun _ _ => False)
  | rd, .goto l => (fun S K => K (.goto l) S, fun _ _ => False)
  | rd, .ret => (fun S K => K .ret S, fun _ _ => False)
  | rd, .rangeFunc g ps assign body => (fun S K => bif rd then False else match opAV S.s g with
    | .t (.one (.d gx)) => match yieldShapes P (seqFn Lp (4000 + keyOf assign)), Lp (3000 + keyOf assign) with
      | some ks, some an => match an.rows S with
        | some rw => bif Nat.beq ps.toList.length ks.length && ps.toList.all (fun p => Nat.ble (p + 1) nt) then
            ∃ (caps : List D) (xs : List (List D)) (I : Nat → List D → Prop), gx = .fn (seqFn Lp (4000 + keyOf assign)) caps ∧ SeqD P (seqFn Lp (4000 + keyOf assign)) caps xs ∧ fitsX ks xs ∧ an.fit S (rw.map (·.2.1)) S (I 0) ∧
              (∀ k : Nat, allN ks.length fun x => xs[k]? = some x → allN an.nv fun zs => I k zs → an.headF S (rw.map (·.2.1)) zs fun S2 =>
                (xrun2 true assign).1 (roundS S2 ps.toList ks x) (rK1 fun S3 => (xrun2 true body).1 S3 (rK2 an S (rw.map (·.2.1)) I k S2 K))) ∧
              (allN an.nv fun zs => I xs.length zs → an.headF S (rw.map (·.2.1)) zs fun S2 => K .normal S2)
          else False
        | none => False
      | _, _ => False
    | _ => False, fun _ _ => False)
  | _, .refuse _ => (fun _ _ => False, fun _ _ => False)
def xrunR (rd : Bool) (c : Code) (S : St) (K : Exit → St → Prop) : Prop := (xrun2 P nt Lp rd c).1 S K
def xrun (c : Code) (S : St) (K : Exit → St → Prop) : Prop := xrunR P nt Lp false c S K
end
section
variable {ro : Option Nat} {rd : Bool} {P : Program} {nt : Nat} {Lp : Nat → Option Ann} {w0 : Base}
theorem prune_stands {S : St} {c : Operand} {d : D} {b : Bool} (hc : opAV S.s c = .t (.one (.d d))) (hd : d = .v (.bool b)) {a : Act} {w : World} (h : Stands w0 nt S a w) : Stands w0 nt (pruneS S c b) a w := by
  cases c with
  | tmp t =>
    obtain ⟨E, h1, h2, h3, h4, h5⟩ := h
    refine ⟨E, h1, fun u => ?_, h3, h4, h5⟩
    by_cases e : u = t
    · subst e
      have h6 := h2 u
      have hc : S.s u = .t (.one (.d d)) := hc
      rw [hc, hd] at h6
      have h6 : Reads E.im w _ (.v (.bool b)) := h6
      simp only [pruneS, upd_same]
      generalize a.tmps.getD u undef = v at h6
      cases h6
      exact ⟨rfl, rfl⟩
    · simp only [pruneS, upd_ne _ _ e]; exact h2 u
  | _ => exact h
theorem meltC_rep {b0 : World} {E : Env} {mem : Nat → Option Ob} {w : World} (h : Sim b0 E mem w) {c : C} {v : Value} (hc : CRep E w c v) : CRep E w (meltC mem c) v := by
  cases c with
  | row q =>
    simp only [meltC]
    split
    · rename_i x hq
      obtain ⟨_, hr⟩ := h.ob q _ hq
      obtain ⟨_, hv, _⟩ := hc
      rw [hv]; exact hr
    · exact hc
  | _ => exact hc
theorem melt_sim {b0 : World} {E : Env} {mem : Nat → Option Ob} {w : World} (h : Sim b0 E mem w) {r : Nat} {cs : List C} (hr : mem r = some (.box cs)) : Sim b0 E (upd mem r (some (.box (cs.map (meltC mem))))) w := by
  have cases_ : ∀ q o, upd mem r (some (.box (cs.map (meltC mem)))) q = some o → (q = r ∧ o = .box (cs.map (meltC mem))) ∨ (q ≠ r ∧ mem q = some o) := fun q o hq => by
    by_cases e : q = r
    · subst e; rw [upd_same] at hq; injection hq with hq; exact .inl ⟨rfl, hq.symm⟩
    · rw [upd_ne _ _ e] at hq; exact .inr ⟨e, hq⟩
  have old : ∀ q o b, upd mem r (some (.box (cs.map (meltC mem)))) q = some o → obk o (E.ι q) = some b → ∃ o', mem q = some o' ∧ obk o' (E.ι q) = some b := fun q o b hq hb => by
    rcases cases_ q o hq with ⟨rfl, rfl⟩ | ⟨_, hm⟩
    · exact ⟨_, hr, hb⟩
    · exact ⟨_, hm, hb⟩
  refine ⟨h.below, h.im, fun q o hq => ?_, fun q o b hq hb => ?_, fun q q' o o' b hq hq' hb hb' => ?_⟩
  · rcases cases_ q o hq with ⟨rfl, rfl⟩ | ⟨_, hm⟩
    · obtain ⟨h1, b, T, cur, h2, h3, h4, h5⟩ := h.ob q _ hr
      refine ⟨h1, b, T, cur, h2, h3, ?_, h5⟩
      generalize cur.toList = us at h4
      clear h5 h3 h2 hq hr cases_ old
      induction cs generalizing us with
      | nil => exact h4
      | cons c cs ih =>
        cases us with
        | nil => exact h4.elim
        | cons u us => exact ⟨meltC_rep h h4.1, ih us h4.2⟩
    · exact h.ob q o hm
  · obtain ⟨o', hm, hb'⟩ := old q o b hq hb
    exact h.live q o' b hm hb'
  · obtain ⟨p, hm, h1⟩ := old q o b hq hb
    obtain ⟨p', hm', h1'⟩ := old q' o' b hq' hb'
    exact h.dist q q' p p' b hm hm' h1 h1'
theorem meltAt_sim {b0 : World} {E : Env} {S : St} {w : World} : ∀ (l : List Nat) {mem : Nat → Option Ob}, Sim b0 E mem w → Sim b0 E (l.foldl (meltAt S) mem) w
  | [], _, h => h
  | t :: l, mem, h => by
    refine meltAt_sim l (mem := meltAt S mem t) ?_
    unfold meltAt
    split
    · split
      · rename_i hr; exact melt_sim h hr
      · exact h
    · exact h
theorem frzA_stands {id : Nat} {S : St} {a : Act} {w : World} (h : Stands w0 nt S a w) : Stands w0 nt (frzA Lp id S) a w := by
  unfold frzA
  split
  · exact h
  · rename_i an _
    obtain ⟨E, h1, h2, h3, h4, h5, h6⟩ := h
    obtain ⟨E', hle, hbn, hS⟩ := frzW_ok (frzQ S an.vs) S.mem S.mem E h1 fun _ _ => rfl
    exact ⟨E', meltAt_sim an.vs hS, h2.mono hle (Stable.refl _ _), fun r hr => h3 r (hbn r hr), h4, h5.step hle.im (Stable.refl _ _), h6.step hle (fun q hq => .inl (hbn q hq)) (Stable.refl _ _)⟩
theorem cond_val {S : St} {c : Operand} {d : D} {b : Bool} (hc : opAV S.s c = .t (.one (.d d))) (hd : d = .v (.bool b)) {a : Act} {w : World} (h : Stands w0 nt S a w) : a.eval c = .bool b := by
  obtain ⟨E, h1, h2, h3, h4, h5⟩ := h
  have h6 := h2.eval c
  rw [hc, hd] at h6
  have h6 : Reads E.im w _ (.v (.bool b)) := h6
  generalize a.eval c = v at h6
  cases h6; rfl
theorem cond_valK {S : St} {c : Operand} {b : Bool} (hc : opAV S.s c = .t (.one (.k (.bool b)))) {a : Act} {w : World} (h : Stands w0 nt S a w) : a.eval c = .bool b := by
  obtain ⟨E, h1, h2, h3, h4, h5⟩ := h
  have h6 := h2.eval c
  rw [hc] at h6
  exact h6.1
theorem xseq_wp {x y : Code} {S : St} {K : Exit → St → Prop} {a : Act} {w : World} {Q : Exit → Act → World → Prop}
    (ihx : ∀ (K : Exit → St → Prop) (Q : Exit → Act → World → Prop), xrunR P nt Lp rd x S K → (∀ e S' a w, K e S' → Stands w0 nt S' a w → Q e a w) → wpR ro P x Q a w)
    (ihy : ∀ (S : St) (a : Act) (w : World), xrunR P nt Lp rd y S K → Stands w0 nt S a w → wpR ro P y Q a w)
    (h : xrunR P nt Lp rd (.seq x y) S K) (hs : Stands w0 nt S a w) (hQ : ∀ e S' a w, K e S' → Stands w0 nt S' a w → Q e a w) : wpR ro P (Code.seq x y) Q a w := by
  simp only [xrunR, xrun2, Ann.headF_eq] at h
  split at h
  · refine wpR_seq (ihx _ _ h fun e S' a w hk hst => ?_)
    cases e with
    | normal => exact ihy S' a w hk hst
    | exit i => exact hQ _ _ _ _ hk hst
    | goto i => exact hQ _ _ _ _ hk hst
    | ret => exact hQ _ _ _ _ hk hst
    | panic i => exact hQ _ _ _ _ hk hst
    | outgrown => exact hQ _ _ _ _ hk hst
  · rename_i an _
    split at h
    · exact h.elim
    · rename_i rw _
      obtain ⟨I, h1, h2⟩ := h
      have hnb : w0.nb ≤ S.n := by obtain ⟨_, _, _, _, _, _, hk⟩ := hs; exact hk.nb
      generalize rw.map (fun x => x.2.1) = szs at h1 h2
      refine wpR_seq (ihx _ _ h1 fun e S' a w hk hst => ?_)
      cases e with
      | normal =>
        obtain ⟨zs', f', hl', hI', hsub', hf', hn'⟩ := Ann.fit_sub hk
        exact ihy _ a w (allN_at hl' h2 hI') (hsub'.stands (fun q hq => hf' q (Nat.lt_of_lt_of_le hq hnb)) (Nat.le_trans hnb hn') hst)
      | exit i => exact hQ _ _ _ _ hk hst
      | goto i => exact hQ _ _ _ _ hk hst
      | ret => exact hQ _ _ _ _ hk hst
      | panic i => exact hQ _ _ _ _ hk hst
      | outgrown => exact hQ _ _ _ _ hk hst
theorem xcond_wp {c : Operand} {x y : Code} {S : St} {K : Exit → St → Prop} {a : Act} {w : World} {Q : Exit → Act → World → Prop}
    (ihx : ∀ (S : St), xrunR P nt Lp rd x S K → Stands w0 nt S a w → wpR ro P x Q a w) (ihy : ∀ (S : St), xrunR P nt Lp rd y S K → Stands w0 nt S a w → wpR ro P y Q a w)
    (h : xrunR P nt Lp rd (.cond c x y) S K) (hs : Stands w0 nt S a w) : wpR ro P (Code.cond c x y) Q a w := by
  simp only [xrunR, xrun2, Ann.headF_eq] at h
  split at h
  · rename_i b hc
    refine wpR_cond (t := b) (cond_valK hc hs) ?_
    cases b
    · exact ihy S h hs
    · exact ihx S h hs
  · rename_i d hc
    obtain ⟨b, hd, h1, h2⟩ := h
    refine wpR_cond (t := b) (cond_val hc hd hs) ?_
    cases b
    · exact ihy _ (h2 rfl) (prune_stands hc hd hs)
    · exact ihx _ (h1 rfl) (prune_stands hc hd hs)
  · exact h.elim
theorem xblock_wp {id : Nat} {c : Code} {S : St} {K : Exit → St → Prop} {a : Act} {w : World} {Q : Exit → Act → World → Prop}
    (ih : ∀ (K : Exit → St → Prop) (Q : Exit → Act → World → Prop), xrunR P nt Lp rd c S K → (∀ e S' a w, K e S' → Stands w0 nt S' a w → Q e a w) → wpR ro P c Q a w)
    (h : xrunR P nt Lp rd (.block id c) S K) (hQ : ∀ e S' a w, K e S' → Stands w0 nt S' a w → Q e a w) : wpR ro P (Code.block id c) Q a w := by
  refine wpR_block (ih _ _ h fun e S' a w hk hst => ?_)
  cases e with
  | exit i =>
    simp only [Exit.inBlock] at hk ⊢
    cases hb : Nat.beq i id
    · rw [hb] at hk
      have hne : i ≠ id := fun e => by subst e; simp at hb
      rw [if_neg hne]; exact hQ _ _ _ _ hk hst
    · rw [hb] at hk
      rw [if_pos (Nat.eq_of_beq_eq_true hb)]; exact hQ _ _ _ _ hk hst
  | normal => exact hQ _ _ _ _ hk hst
  | goto i => exact hQ _ _ _ _ hk hst
  | ret => exact hQ _ _ _ _ hk hst
  | panic i => exact hQ _ _ _ _ hk hst
  | outgrown => exact hQ _ _ _ _ hk hst
theorem noLab_find : ∀ {c : Code} {l : Nat}, noLab c = true → findLabel c l = none
  | .seq x y, l, h => by
    simp only [noLab, Bool.and_eq_true] at h
    simp only [findLabel]
    rw [noLab_find h.1, noLab_find h.2]
  | .label _, l, h => by cases h
  | .skip, l, _ => rfl
  | .region _ _ _, l, _ => rfl
  | .cond _ _ _, l, _ => rfl
  | .block _ _, l, _ => rfl
  | .loop _, l, _ => rfl
  | .scope _, l, _ => rfl
  | .exit _, l, _ => rfl
  | .goto _, l, _ => rfl
  | .ret, l, _ => rfl
  | .rangeFunc _ _ _ _, l, _ => rfl
  | .refuse _, l, _ => rfl
theorem labelOf_some {c : Code} {l : Nat} (h : labelOf c = some l) : c = .label l := by
  cases c with
  | label l' => simp only [labelOf, Option.some.injEq] at h; rw [h]
  | _ => cases h
theorem clean_find {c : Code} : cleanS c = true → ∃ l B, spineOf c = some (l, B) ∧ findLabel c l = some (.seq .skip B) := by
  induction c with
  | seq x y _ ihy =>
    intro h
    simp only [cleanS] at h
    cases hx : labelOf x with
    | some l =>
      have hxl := labelOf_some hx
      subst hxl
      exact ⟨l, y, by simp [spineOf, hx], by simp [findLabel]⟩
    | none =>
      rw [hx] at h
      simp only [Bool.and_eq_true] at h
      obtain ⟨l, B, h1, h2⟩ := ihy h.2
      exact ⟨l, B, by simp only [spineOf, hx]; exact h1, by simp only [findLabel]; rw [noLab_find h.1]; exact h2⟩
  | _ => intro h; cases h
/-- What holds at a jump. -/
def Jn (P : Program) (nt : Nat) (Lp : Nat → Option Ann) (rd : Bool) (w0 : Base) (l : Nat) (B : Code) (K : Exit → St → Prop) (n : Nat) (a : Act) (w : World) : Prop :=
  ∃ (an : Ann) (S : St) (szs : List Nat) (I : List D → Prop) (μ : List D → Nat) (zs : List D), zs.length = an.nv ∧ I zs ∧ μ zs = n ∧
    (allN an.nv fun zs => I zs → (xrun2 P nt Lp rd B).1 (an.headN S szs zs) (jumpK an S szs I μ l K zs)) ∧ w0.nb ≤ S.n ∧ Stands w0 nt (an.headN S szs zs) a w
theorem least {p : Nat → Prop} : (∃ n, p n) → ∃ n, p n ∧ ∀ m, p m → n ≤ m := by
  rintro ⟨n, hn⟩
  induction n using Nat.strongRecOn with
  | _ n ih =>
    by_cases h : ∃ m, m < n ∧ p m
    · obtain ⟨m, hm, hp⟩ := h; exact ih m hm hp
    · exact ⟨n, hn, fun m hp => Nat.le_of_not_lt fun hlt => h ⟨m, hlt, hp⟩⟩
open Classical in
noncomputable def Jm (p : Nat → Prop) : Nat := if h : ∃ n, p n then Classical.choose (least h) else 0
theorem Jm_spec {p : Nat → Prop} (h : ∃ n, p n) : p (Jm p) ∧ ∀ m, p m → Jm p ≤ m := by
  unfold Jm
  rw [dif_pos h]
  exact Classical.choose_spec (least h)
section
variable {l : Nat} {B : Code} {K : Exit → St → Prop} {Q : Exit → Act → World → Prop}
/-- One pass from the label. -/
theorem pass_wp (ihB : ∀ (S : St) (a : Act) (w : World) (K : Exit → St → Prop) (Q : Exit → Act → World → Prop), xrunR P nt Lp rd B S K → Stands w0 nt S a w → (∀ e S' a w, K e S' → Stands w0 nt S' a w → Q e a w) → wpR ro P B Q a w)
    (hQ : ∀ e S' a w, K e S' → Stands w0 nt S' a w → Q e a w) {n : Nat} {a : Act} {w : World} (hJ : Jn P nt Lp rd w0 l B K n a w) :
    wpR ro P B (Exit.jump l (fun a' w' => ∃ m, m < n ∧ Jn P nt Lp rd w0 l B K m a' w') Q) a w := by
  obtain ⟨an, S, szs, I, μ, zs, hl, hI, rfl, hp, hnb, hst⟩ := hJ
  refine ihB _ a w _ _ (allN_at hl hp hI) hst fun e S' a' w' hk hst' => ?_
  cases e with
  | goto l' =>
    simp only [jumpK] at hk
    cases hb : Nat.beq l' l
    · rw [hb] at hk; exact hk.elim
    · rw [hb] at hk
      simp only [cond_true] at hk
      obtain ⟨zs', f', hl', ⟨hI', hlt⟩, hsub', hf', hn'⟩ := Ann.fit_sub hk
      exact ⟨Nat.eq_of_beq_eq_true hb, μ zs', hlt, an, S, szs, I, μ, zs', hl', hI', rfl, hp, hnb, hsub'.stands (fun q hq => hf' q (Nat.lt_of_lt_of_le hq hnb)) (Nat.le_trans hnb hn') hst'⟩
  | normal => exact hQ _ _ _ _ hk hst'
  | exit i => exact hQ _ _ _ _ hk hst'
  | ret => exact hQ _ _ _ _ hk hst'
  | panic i => exact hQ _ _ _ _ hk hst'
  | outgrown => exact hQ _ _ _ _ hk hst'
def RunsOk (ro : Option Nat) (P : Program) (nt : Nat) (Lp : Nat → Option Ann) (rd : Bool) (w0 : Base) (c : Code) : Prop :=
  ∀ (S : St) (a : Act) (w : World) (K : Exit → St → Prop) (Q : Exit → Act → World → Prop), xrunR P nt Lp rd c S K → Stands w0 nt S a w → (∀ e S' a w, K e S' → Stands w0 nt S' a w → Q e a w) → wpR ro P c Q a w
/-- All that stands on the way to the label, and what is behind it, runs as it should. -/
def SpineOk (ro : Option Nat) (P : Program) (nt : Nat) (Lp : Nat → Option Ann) (rd : Bool) (w0 : Base) : Code → Prop
  | .seq x y => RunsOk ro P nt Lp rd w0 x ∧ RunsOk ro P nt Lp rd w0 y ∧ SpineOk ro P nt Lp rd w0 y
  | _ => True
theorem spine_wp (c : Code) : spineOf c = some (l, B) → SpineOk ro P nt Lp rd w0 c → (RunsOk ro P nt Lp rd w0 B) ∧
    ∀ (S : St) (a : Act) (w : World), (xrun2 P nt Lp rd c).2 S K → Stands w0 nt S a w → (∀ e S' a w, K e S' → Stands w0 nt S' a w → Q e a w) →
      wpR ro P c (Exit.jump l (fun a' w' => ∃ m, Jn P nt Lp rd w0 l B K m a' w') Q) a w := by
  induction c with
  | seq x y _ ihy =>
    intro hsp hok
    obtain ⟨hx, hy, hsy⟩ := hok
    simp only [spineOf] at hsp
    cases hlx : labelOf x with
    | some l' =>
      rw [hlx] at hsp
      simp only [Option.some.injEq, Prod.mk.injEq] at hsp
      obtain ⟨h1, h2⟩ := hsp
      subst h1; subst h2
      have hxl := labelOf_some hlx
      subst hxl
      refine ⟨hy, fun S a w h hs hQ => ?_⟩
      simp only [xrun2, labelOf, Ann.headF_eq] at h
      split at h
      · exact h.elim
      · rename_i an _
        split at h
        · exact h.elim
        · rename_i rw _
          obtain ⟨I, μ, h1, h2⟩ := h
          obtain ⟨zs0, f0, hl0, hI0, hsub0, hf0, hn0⟩ := Ann.fit_sub h1
          have hnb : w0.nb ≤ S.n := by obtain ⟨_, _, _, _, _, _, hk⟩ := hs; exact hk.nb
          have hst0 := hsub0.stands (fun q hq => hf0 q (Nat.lt_of_lt_of_le hq hnb)) (Nat.le_trans hnb hn0) hs
          refine wpR_seq (wpR_label ?_)
          generalize rw.map (fun x => x.2.1) = szs at h1 h2 hsub0 hst0 hn0
          have hj : Jn P nt Lp rd w0 l' y K (μ zs0) a w := by
            unfold Jn
            exact ⟨an, S, szs, I, μ, zs0, hl0, hI0, rfl, h2, hnb, hst0⟩
          have := pass_wp (l := l') (K := K) (Q := Q) hy hQ hj
          refine wpR_mono this fun e a' w' hq => ?_
          cases e with
          | goto l2 => exact ⟨hq.1, let ⟨m, _, hm⟩ := hq.2; ⟨m, hm⟩⟩
          | normal => exact hq
          | exit i => exact hq
          | ret => exact hq
          | panic i => exact hq
          | outgrown => exact hq
    | none =>
      rw [hlx] at hsp
      obtain ⟨hB, hw⟩ := ihy hsp hsy
      refine ⟨hB, fun S a w h hs hQ => ?_⟩
      simp only [xrun2, hlx, Ann.headF_eq] at h
      refine wpR_seq (hx _ _ _ _ _ h hs fun e S' a' w' hk hst => ?_)
      cases e with
      | normal => exact hw S' a' w' hk hst hQ
      | goto i => exact hk.elim
      | exit i => exact hQ _ _ _ _ hk hst
      | ret => exact hQ _ _ _ _ hk hst
      | panic i => exact hQ _ _ _ _ hk hst
      | outgrown => exact hQ _ _ _ _ hk hst
  | _ => intro h; cases h
end
theorem xscope_wp {c : Code} {S : St} {K : Exit → St → Prop} {a : Act} {w : World} {Q : Exit → Act → World → Prop}
    (ih : ∀ (K : Exit → St → Prop) (Q : Exit → Act → World → Prop), xrunR P nt Lp rd c S K → (∀ e S' a w, K e S' → Stands w0 nt S' a w → Q e a w) → wpR ro P c Q a w) (hok : SpineOk ro P nt Lp rd w0 c)
    (h : xrunR P nt Lp rd (.scope c) S K) (hs : Stands w0 nt S a w) (hQ : ∀ e S' a w, K e S' → Stands w0 nt S' a w → Q e a w) : wpR ro P (Code.scope c) Q a w := by
  simp only [xrunR, xrun2, Ann.headF_eq] at h
  cases hc : scopeJ Lp c
  · rw [hc] at h
    simp only [cond_false] at h
    refine wpR_scope_straight (ih _ _ h fun e S' a w hk hst => ?_)
    cases e with
    | goto l => exact hk.elim
    | normal => exact hQ _ _ _ _ hk hst
    | exit i => exact hQ _ _ _ _ hk hst
    | ret => exact hQ _ _ _ _ hk hst
    | panic i => exact hQ _ _ _ _ hk hst
    | outgrown => exact hQ _ _ _ _ hk hst
  · rw [hc] at h
    simp only [cond_true] at h
    simp only [scopeJ, Bool.and_eq_true] at hc
    obtain ⟨l, B, h1, h2⟩ := clean_find hc.1
    obtain ⟨hB, hw⟩ := spine_wp (K := K) (Q := Q) c h1 hok
    refine wpR_scope_jumps l (fun a' w' => ∃ m, Jn P nt Lp rd w0 l B K m a' w') (fun a' w' => Jm fun m => Jn P nt Lp rd w0 l B K m a' w') h2 (hw S a w h hs hQ) fun a1 w1 hJ => ?_
    obtain ⟨k1, k2⟩ := Jm_spec hJ
    refine wpR_seq (wpR_skip ?_)
    refine wpR_mono (pass_wp (Q := Q) hB hQ k1) fun e a' w' hq => ?_
    cases e with
    | goto l2 =>
      obtain ⟨rfl, m, hm, hj⟩ := hq
      exact ⟨rfl, ⟨m, hj⟩, Nat.lt_of_le_of_lt ((Jm_spec ⟨m, hj⟩).2 m hj) hm⟩
    | normal => exact hq
    | exit i => exact hq
    | ret => exact hq
    | panic i => exact hq
    | outgrown => exact hq
theorem xloop_wp {c : Code} {S : St} {K : Exit → St → Prop} {a : Act} {w : World} {Q : Exit → Act → World → Prop}
    (ih : ∀ (S : St) (a : Act) (w : World) (K : Exit → St → Prop) (Q : Exit → Act → World → Prop), xrunR P nt Lp rd c S K → Stands w0 nt S a w → (∀ e S' a w, K e S' → Stands w0 nt S' a w → Q e a w) → wpR ro P c Q a w)
    (h : xrunR P nt Lp rd (.loop c) S K) (hs : Stands w0 nt S a w) (hQ : ∀ e S' a w, K e S' → Stands w0 nt S' a w → Q e a w) : wpR ro P (Code.loop c) Q a w := by
  simp only [xrunR, xrun2, Ann.headF_eq] at h
  split at h
  · rename_i an _
    generalize an.vs.headD 0 = n0 at h
    refine wpR_loop_ghost (fun n a w => ∃ S, unr (xrun2 P nt Lp rd c).1 n S K ∧ Stands w0 nt S a w) n0 ⟨S, h, hs⟩ ?_
    rintro n a w ⟨S, h, hst⟩
    cases n with
    | zero => exact h.elim
    | succ n =>
      refine ih S a w _ _ h hst ?_
      intro e S' a' w' hk hst'
      cases e with
      | normal => exact ⟨n, Nat.lt_succ_self n, S', hk, hst'⟩
      | exit i => exact hQ _ _ _ _ hk hst'
      | goto i => exact hQ _ _ _ _ hk hst'
      | ret => exact hQ _ _ _ _ hk hst'
      | panic i => exact hQ _ _ _ _ hk hst'
      | outgrown => exact hQ _ _ _ _ hk hst'
  split at h
  · exact h.elim
  · rename_i an _
    split at h
    · exact h.elim
    · rename_i rw _
      obtain ⟨I, μ, h1, h2⟩ := h
      obtain ⟨zs0, f0, hl0, hI0, hsub0, hf0, hn0⟩ := Ann.fit_sub h1
      have hnb : w0.nb ≤ S.n := by obtain ⟨_, _, _, _, _, _, hk⟩ := hs; exact hk.nb
      have hst0 := hsub0.stands (fun q hq => hf0 q (Nat.lt_of_lt_of_le hq hnb)) (Nat.le_trans hnb hn0) hs
      generalize rw.map (fun x => x.2.1) = szs at h1 h2 hsub0 hst0 hn0
      refine wpR_loop_ghost (fun n a w => ∃ zs, zs.length = an.nv ∧ I zs ∧ μ zs = n ∧ Stands w0 nt (an.headN S szs zs) a w) (μ zs0) ?_ ?_
      · exact ⟨zs0, hl0, hI0, rfl, hst0⟩
      rintro n a w ⟨zs, hl, hI, rfl, hst⟩
      have hb := allN_at hl h2 hI
      refine ih _ a w _ _ hb hst ?_
      intro e S' a' w' hk hst'
      cases e with
      | normal =>
        obtain ⟨zs', f', hl', ⟨hI', hlt⟩, hsub', hf', hn'⟩ := Ann.fit_sub hk
        exact ⟨μ zs', hlt, zs', hl', hI', rfl, hsub'.stands (fun q hq => hf' q (Nat.lt_of_lt_of_le hq hnb)) (Nat.le_trans hnb hn') hst'⟩
      | exit i => exact hQ _ _ _ _ hk hst'
      | goto i => exact hQ _ _ _ _ hk hst'
      | ret => exact hQ _ _ _ _ hk hst'
      | panic i => exact hQ _ _ _ _ hk hst'
      | outgrown => exact hQ _ _ _ _ hk hst'
/-- How a round may leave the loop. -/
def jmp (c : Code) (e : Exit) : Prop := (c = .ret ∧ e = .ret) ∨ (∃ i, c = .exit i ∧ e = .exit i) ∨ ∃ i, c = .goto i ∧ e = .goto i
theorem xrange_wp {g : Operand} {ps : Array Tmp} {assign body : Code} (iha : ∀ l B, RunsOk (some l) P nt Lp true B assign) (ihb : ∀ l B, RunsOk (some l) P nt Lp true B body) {S : St} {K : Exit → St → Prop} {a : Act} {w : World} {Q : Exit → Act → World → Prop}
    (h : xrunR P nt Lp false (.rangeFunc g ps assign body) S K) (hs : Stands w0 nt S a w) (hQ : ∀ e S' a w, K e S' → Stands w0 nt S' a w → Q e a w) : wpR none P (.rangeFunc g ps assign body) Q a w := by
  simp only [xrunR, xrun2, Ann.headF_eq, cond_false] at h
  split at h
  rotate_left
  · exact h.elim
  rename_i gx hg
  generalize hff : seqFn Lp (4000 + keyOf assign) = f at h
  split at h
  rotate_left
  · exact h.elim
  rename_i ks an hks hLp
  split at h
  rotate_left
  · exact h.elim
  rename_i rw hrw
  cases hc : (Nat.beq ps.toList.length ks.length && ps.toList.all (fun p => Nat.ble (p + 1) nt))
  · rw [hc] at h; exact h.elim
  rw [hc] at h
  simp only [cond_true] at h
  simp only [Bool.and_eq_true, List.all_eq_true] at hc
  obtain ⟨hpl, hpn⟩ := hc
  have hpl := Nat.eq_of_beq_eq_true hpl
  obtain ⟨caps, xs, I, rfl, hseq, hfit, h1, h2, h3⟩ := h
  generalize rw.map (fun x => x.2.1) = szs at h1 h2 h3
  obtain ⟨zs0, f0, hl0, hI0, hsub0, hf0, hn0⟩ := Ann.fit_sub h1
  obtain ⟨fn0, hfn, hname, hbody⟩ := yieldShapes_fn hks
  obtain ⟨E0, hE0⟩ := hs
  have hE0' := hE0
  obtain ⟨g1, g2, g3, g4, g5, g6⟩ := hE0
  have hnb : w0.nb ≤ S.n := g6.nb
  obtain ⟨cvs, hgv, hcv⟩ : ∃ cvs : List Value, a.eval g = .func (.func f) ⟨[]⟩ ⟨cvs⟩ ∧ All2 (Reads E0.im w) cvs caps := by
    have hr := g2.eval g
    rw [hg] at hr
    have hr : Reads E0.im w (a.eval g) (.fn f caps) := hr
    generalize a.eval g = v at hr
    cases hr with
    | fn cvs hn hr => exact ⟨cvs, rfl, All2.mk hn fun k v d hv hd => hr k d v hd hv⟩
  refine wpIn_rangeFunc ?_
  intro fn _
  obtain ⟨rec, hrec⟩ : ∃ rec : LoopState → Option Code → Loop, rec = fun st pe => { state := st, pending := pe, fn, tmps := a.tmps, params := ps, assign, body, defers := w.heap.size } := ⟨_, rfl⟩
  have rfn : ∀ st pe, (rec st pe).fn = fn := fun st pe => by rw [hrec]
  have rtm : ∀ st pe, (rec st pe).tmps = a.tmps := fun st pe => by rw [hrec]
  have rps : ∀ st pe, (rec st pe).params = ps := fun st pe => by rw [hrec]
  have ras : ∀ st pe, (rec st pe).assign = assign := fun st pe => by rw [hrec]
  have rbd : ∀ st pe, (rec st pe).body = body := fun st pe => by rw [hrec]
  have rst : ∀ st pe, (rec st pe).state = st := fun st pe => by rw [hrec]
  have rpe : ∀ st pe, (rec st pe).pending = pe := fun st pe => by rw [hrec]
  have rmk : ∀ st pe st' pe', ({ { rec st pe with state := .busy } with state := st', pending := pe' } : Loop) = rec st' pe' := fun st pe st' pe' => by rw [hrec]
  obtain ⟨W1, hW1⟩ : ∃ W1, (w.alloc (.deferred (some []))).alloc (.loop (rec .ready none)) = W1 := ⟨_, rfl⟩
  have hL1 : W1.heap[w.heap.size + 1]? = some (.loop (rec .ready none)) := by
    rw [← hW1]; have := World.alloc_heap_new (w.alloc (.deferred (some []))) (.loop (rec .ready none)); rwa [World.size_alloc] at this
  have hK1 : W1.heap[w.heap.size]? = some (.deferred (some [])) := by
    rw [← hW1]; exact (Below.heap_alloc _ _ _ (by simp)).trans (World.alloc_heap_new w _)
  have hb1 : Below w.heap.size w W1 := by
    rw [← hW1]; exact ((Below.refl _ w).alloc (Nat.le_refl _) _).alloc (by simp) _
  have hs1 : Stable E0.im w W1 := g1.stable hb1
  have hlt1 : w.heap.size < W1.heap.size := (Array.getElem?_eq_some_iff.1 hK1).1
  have hlt0 : ∀ b, E0.im b → b < w.heap.size := fun b hb => (g1.im b hb).1
  -- the state behind the loop's beginning
  have hstart : StL w0 E0.im W1 (w.heap.size + 1) (rec .ready none) nt S { a with defers := { target := .collected w.heap.size, args := #[] } :: a.defers } W1 := by
    have hS1 := g1.step hb1
    have hle : E0.le ⟨E0.ι, E0.bn, fun b => E0.im b ∨ b = w.heap.size, E0.od⟩ := ⟨fun _ h => h, fun _ _ => rfl, fun _ h => .inl h, fun _ h => h⟩
    refine ⟨⟨E0.ι, E0.bn, fun b => E0.im b ∨ b = w.heap.size, E0.od⟩, ⟨⟨hS1.below, fun b hb => ?_, fun r ob hr => ?_, fun r ob b hr hb => ?_, hS1.dist⟩, g2.mono hle hs1, g3, g4, ⟨?_, fun d hd => ?_⟩, ⟨g6.nb, fun b hb => .inl (g6.im b hb), g6.st.trans (hs1.mono g6.im), g6.ι, g6.od⟩⟩, fun hi => ?_, hL1, ?_, fun hF => ?_, fun b hb => .inl hb, Stable.refl _ _⟩
    · rcases hb with hb | rfl
      · exact hS1.im b hb
      · exact ⟨hlt1, .inr g1.below.size⟩
    · obtain ⟨k1, k2⟩ := hS1.ob r ob hr
      exact ⟨k1, k2.mono k1 hle (Stable.refl _ _) (Nat.le_refl _) (fun _ _ => rfl)⟩
    · obtain ⟨k1, k2, k3⟩ := hS1.live r ob b hr hb
      exact ⟨k1, k2, fun hi => hi.elim k3 (not_owned hS1 hK1 rfl hr hb)⟩
    · refine List.nodup_cons.2 ⟨fun hm => ?_, g5.1⟩
      obtain ⟨D, k1, k2, _⟩ := g5.2 _ hm
      injection k1 with k1 _
      injection k1 with k1
      have := hlt0 D k2
      omega
    · rcases List.mem_cons.1 hd with rfl | hd
      · exact ⟨w.heap.size, rfl, .inr rfl, fun hF => by have := hlt0 _ (g6.im _ hF); omega, g1.below.size, hK1⟩
      · obtain ⟨D, k1, k2, k3, k4, k5⟩ := g5.2 d hd
        exact ⟨D, k1, .inl k2, k3, k4, (hs1 D k2).trans k5⟩
    · rcases hi with hi | hi
      · have := hlt0 _ hi; omega
      · omega
    · have := g1.below.size; omega
    · have := hlt0 _ (g6.im _ hF); omega
  refine ⟨w.heap.size + 1, [{ target := .collected w.heap.size, args := #[] }], W1, { target := .fn (.func f) ⟨cvs⟩, args := #[.func (.yield (w.heap.size + 1)) #[] #[]] }, W1, f, #[.func (.yield (w.heap.size + 1)) #[] #[]] ++ cvs.toArray, W1, ?_, ?_, fun _ _ => trivial, ?_, (fun hh => by cases hh), ?_⟩
  · have := run_enterLoop_outer (P := P) (w := w) fn a.tmps ps assign body
    rw [← hW1, hrec]; exact this
  · simp only [resolve, hgv]
    simp [go_sem]
  · have hn' : ¬ fn0.name = "runtime.NumGoroutine" := by simpa using hname
    have hb' : ¬ fn0.body = none := by intro e; rw [e] at hbody; cases hbody
    simp [invoke, callFunc, go_sem, hfn, hn', hb']
  · refine (hseq E0.im W1 cvs (fun b hb => by have := hlt0 b hb; omega) (hcv.imp fun _ _ q => q.mono hs1 (fun _ h => h)) (w.heap.size + 1)
      (fun k W => ∃ zs, zs.length = an.nv ∧ I k zs ∧ StL w0 E0.im W1 (w.heap.size + 1) (rec .ready none) nt (an.headN S szs zs) { a with defers := { target := .collected w.heap.size, args := #[] } :: a.defers } W)
      (fun W => ∃ c e S', jmp c e ∧ K e S' ∧ StL w0 E0.im W1 (w.heap.size + 1) (rec .done (some c)) nt S' { a with defers := { target := .collected w.heap.size, args := #[] } :: a.defers } W)
      ?_ ?_ ?_ ?_).mono ?_
    · rintro k W W' ⟨zs, p1, p2, p3⟩ hb; exact ⟨zs, p1, p2, p3.step hb⟩
    · rintro W W' ⟨c, e, S', p1, p2, p3⟩ hb; exact ⟨c, e, S', p1, p2, p3.step hb⟩
    · rintro k x vs W hx ⟨zs, hzl, hI, hst⟩ hstab hvs
      have hfx := hfit x (List.mem_of_getElem? hx)
      have hxl := argFits_len hfx
      have hvl := hvs.length
      have hy := run_yield (P := P) (args := vs.toArray) hst.recd (by rw [rps, ← Array.length_toList (xs := ps), hpl, ← hxl, hvl]; simp)
      rw [rfn, rps, rtm, ras, rbd] at hy
      refine ⟨fn, _, assign, body, hy, roundIn_of_wpIn trivial ?_⟩
      have hrun := allN_at hzl (allN_at hxl (h2 k) hx) hI
      obtain ⟨E2, hE2⟩ := hst
      have hE2' := hE2
      obtain ⟨⟨k1, k2, k3, k4, k5, k6⟩, kim, kl, k0, kF, kX, kst⟩ := hE2
      obtain ⟨q1, q2⟩ := putPs_rep (E := E2) (w := W) (ps := ps.toList) (ks := ks) (ds := x) (vs := vs) (s := (an.headN S szs zs).s) (t := a.tmps) k2 hfx
        (hvs.imp fun d v hr => ArgV.grow hr kX) hpl (fun p hp => by have := ble1 (hpn p hp); have k4 : a.tmps.size = nt := k4; omega)
      have hfold : (ps.zip vs.toArray).foldl (fun tmps (x : Tmp × Value) => match x with | (t, a) => tmps.setIfInBounds t a) a.tmps = (ps.toList.zip vs).foldl (fun t (q : Nat × Value) => t.setIfInBounds q.1 q.2) a.tmps := by
        rw [← Array.foldl_toList, Array.toList_zip]
      rw [hfold]
      have hstR := StL.round hE2' (S' := roundS (an.headN S szs zs) ps.toList ks x) (a' := ⟨(ps.toList.zip vs).foldl (fun t (q : Nat × Value) => t.setIfInBounds q.1 q.2) a.tmps, []⟩) rfl rfl q1 (q2.trans k4) rfl
      have hA := iha (w.heap.size + 1) _ _ _ _ _ (fun e a1 W' => ∃ S3, rK1 (fun S3 => xrunR P nt Lp true body S3 (rK2 an S szs I k (an.headN S szs zs) K)) e S3 ∧ StL (roundBase w0 E2 (an.headN S szs zs).n W) (fun _ => False) W (w.heap.size + 1) (rec .ready none) nt S3 a1 W') hrun (hstR.enter (fun _ h => h)) (fun e S3 a1 w1 hk hst3 => ⟨S3, hk, hstR.leave hst3⟩)
      refine wpIn_mono hA ?_
      rintro e a1 W2 ⟨S3, hk, hst3⟩
      cases e with
      | normal =>
        refine ⟨_, run_beginRound hst3.recd (rst _ _), ?_⟩
        have hst4 := hst3.turn { rec .ready none with state := .busy }
        have hB := ihb (w.heap.size + 1) _ _ _ _ _ (fun e a1 W' => ∃ S', rK2 an S szs I k (an.headN S szs zs) K e S' ∧ StL (roundBase w0 E2 (an.headN S szs zs).n W) (fun _ => False) W (w.heap.size + 1) { rec .ready none with state := .busy } nt S' a1 W') hk (hst4.enter (fun _ h => h)) (fun e S' a1 w1 hk hst3 => ⟨S', hk, hst4.leave hst3⟩)
        refine wpIn_mono hB ?_
        rintro e a3 W3 ⟨S', hk', hst'⟩
        have hbk := StL.back hE2' hst'
        have hlt3 := (Array.getElem?_eq_some_iff.1 hst'.recd).1
        have hend : ∀ jump : Option Code, (Instr.endRound (w.heap.size + 1) jump).run P W3 = .ok (.bool jump.isNone) (W3.putObj (w.heap.size + 1) (.loop (rec (if jump.isNone then .ready else .done) jump))) := fun jump => by
          rw [run_endRound jump hst'.recd, rmk]
        have htn : ∀ st pe, StL w0 E0.im W1 (w.heap.size + 1) (rec st pe) nt (outerS (an.headN S szs zs) S') { a with defers := { target := .collected w.heap.size, args := #[] } :: a.defers } (W3.putObj (w.heap.size + 1) (.loop (rec st pe))) := fun st pe => hbk.turn (rec st pe)
        cases e with
        | normal =>
          refine ⟨_, _, hend none, .inl ⟨rfl, ?_, ?_⟩⟩
          · obtain ⟨zs', f', hl', hI', hsub', hf', hn'⟩ := Ann.fit_sub hk'
            exact ⟨zs', hl', hI', hsub'.stL (fun q hq => hf' q (Nat.lt_of_lt_of_le hq hnb)) (Nat.le_trans hnb hn') (htn .ready none)⟩
          · have h5 : Stable E2.im W W3 := hst'.kept
            exact (h5.mono kX).trans (fun b hb => World.putObj_heap_other (fun e => kim (e ▸ kX b hb)))
        | ret => exact ⟨_, _, hend (some .ret), .inr ⟨rfl, .ret, .ret, _, .inl ⟨rfl, rfl⟩, hk', htn .done (some .ret)⟩⟩
        | exit i => exact ⟨_, _, hend (some (.exit i)), .inr ⟨rfl, .exit i, .exit i, _, .inr (.inl ⟨i, rfl, rfl⟩), hk', htn .done (some (.exit i))⟩⟩
        | goto i => exact ⟨_, _, hend (some (.goto i)), .inr ⟨rfl, .goto i, .goto i, _, .inr (.inr ⟨i, rfl, rfl⟩), hk', htn .done (some (.goto i))⟩⟩
        | panic i => exact hk'.elim
        | outgrown => exact hk'.elim
      | exit i => exact hk.elim
      | ret => exact hk.elim
      | goto i => exact hk.elim
      | panic i => exact hk.elim
      | outgrown => exact hk.elim
    · exact ⟨zs0, hl0, hI0, hsub0.stL (fun q hq => hf0 q (Nat.lt_of_lt_of_le hq hnb)) (Nat.le_trans hnb hn0) hstart⟩
    · rintro e W' ⟨⟨v, rfl⟩, hJ | hJ⟩
      · obtain ⟨zs, hzl, hI, hst⟩ := hJ
        refine ⟨none, _, (run_endLoop hst.recd (by rw [rst]; intro hh; cases hh)).trans (congrArg (fun p => Result.ok p _) (rpe _ _)), ?_⟩
        exact hQ .normal _ _ _ (allN_at hzl h3 hI) (hst.turn _).stands
      · obtain ⟨c, e, S', hj, hk, hst⟩ := hJ
        refine ⟨some c, _, (run_endLoop hst.recd (by rw [rst]; intro hh; cases hh)).trans (congrArg (fun p => Result.ok p _) (rpe _ _)), ?_⟩
        have hq := hQ e _ _ _ hk (hst.turn { rec .done (some c) with state := .exhausted }).stands
        rcases hj with ⟨rfl, rfl⟩ | ⟨i, rfl, rfl⟩ | ⟨i, rfl, rfl⟩
        · exact wpIn_ret hq
        · exact wpIn_exit hq
        · exact wpIn_goto hq
theorem xrun_wp2 (hm : P.follows .mixedOrders = true) (c : Code) : ∀ (ro : Option Nat) (rd : Bool) (w0 : Base), (rd = false → ro = none) → RunsOk ro P nt Lp rd w0 c ∧ SpineOk ro P nt Lp rd w0 c := by
  induction c with
  | skip => exact fun ro rd w0 hro => ⟨fun S a w K Q h hs hQ => wpR_skip (hQ _ _ _ _ h hs), trivial⟩
  | label l => exact fun ro rd w0 hro => ⟨fun S a w K Q h hs hQ => wpR_label (hQ _ _ _ _ h hs), trivial⟩
  | region id ops draw => exact fun ro rd w0 hro => ⟨fun S a w K Q h hs hQ => xregion_wp hm h (frzA_stands hs) fun S' a w hk hst => hQ _ _ _ _ hk hst, trivial⟩
  | seq x y ihx ihy => exact fun ro rd w0 hro => ⟨fun S a w K Q h hs hQ => xseq_wp (fun K Q h hQ => (ihx ro rd w0 hro).1 S a w K Q h hs hQ) (fun S a w h hs => (ihy ro rd w0 hro).1 S a w K Q h hs hQ) h hs hQ, (ihx ro rd w0 hro).1, (ihy ro rd w0 hro).1, (ihy ro rd w0 hro).2⟩
  | cond c x y ihx ihy => exact fun ro rd w0 hro => ⟨fun S a w K Q h hs hQ => xcond_wp (fun S h hs => (ihx ro rd w0 hro).1 S a w K Q h hs hQ) (fun S h hs => (ihy ro rd w0 hro).1 S a w K Q h hs hQ) h hs, trivial⟩
  | block id c ih => exact fun ro rd w0 hro => ⟨fun S a w K Q h hs hQ => xblock_wp (fun K Q h hQ => (ih ro rd w0 hro).1 S a w K Q h hs hQ) h hQ, trivial⟩
  | scope c ih => exact fun ro rd w0 hro => ⟨fun S a w K Q h hs hQ => xscope_wp (fun K Q h hQ => (ih ro rd w0 hro).1 S a w K Q h hs hQ) (ih ro rd w0 hro).2 h hs hQ, trivial⟩
  | loop c ih => exact fun ro rd w0 hro => ⟨fun S a w K Q h hs hQ => xloop_wp (ih ro rd w0 hro).1 h hs hQ, trivial⟩
  | exit id => exact fun ro rd w0 hro => ⟨fun S a w K Q h hs hQ => wpR_exit (hQ _ _ _ _ h hs), trivial⟩
  | ret => exact fun ro rd w0 hro => ⟨fun S a w K Q h hs hQ => wpR_ret (hQ _ _ _ _ h hs), trivial⟩
  | rangeFunc f ps x y ihx ihy =>
    intro ro rd w0 hro
    refine ⟨fun S a w K Q h hs hQ => ?_, trivial⟩
    cases rd with
    | true => exact h.elim
    | false =>
      have := hro rfl
      subst this
      exact xrange_wp (fun l B => (ihx (some l) true B (fun e => by cases e)).1) (fun l B => (ihy (some l) true B (fun e => by cases e)).1) h hs hQ
  | goto l => exact fun ro rd w0 hro => ⟨fun S a w K Q h hs hQ => wpR_goto (hQ _ _ _ _ h hs), trivial⟩
  | refuse l => exact fun ro rd w0 hro => ⟨fun S a w K Q h => h.elim, trivial⟩
theorem xrun_wp (hm : P.follows .mixedOrders = true) : ∀ (c : Code) (S : St) (a : Act) (w : World) (K : Exit → St → Prop) (Q : Exit → Act → World → Prop), xrun P nt Lp c S K → Stands w0 nt S a w → (∀ e S' a w, K e S' → Stands w0 nt S' a w → Q e a w) → wpR none P c Q a w :=
  fun c => (xrun_wp2 hm c none false w0 (fun _ => rfl)).1
end
end Go.Proofs.Ytjdemohgegldaaa
