/-
  The small machine's memory: an object more; an object written; an object let go; a row that stays as it is from now on.
-/
import Derived.Test.YtjdemohgegldaaaAm1
namespace Go.Proofs.Ytjdemohgegldaaa
set_option linter.unusedSimpArgs false
set_option linter.unusedVariables false
open Go.RowKit

def Env.add (E : Env) (r : Nat) (v : Value) : Env := ⟨upd E.ι r v, fun q => E.bn q ∨ q = r, E.im, E.od⟩
theorem Env.le_add (E : Env) (r : Nat) (v : Value) (h : ¬ E.bn r) : E.le (E.add r v) :=
  ⟨fun _ k => .inl k, fun q k => upd_ne _ _ (fun e => h (e ▸ k)), fun _ k => k, fun _ k => k⟩
theorem Sim.add {w0 : World} {E : Env} {mem : Nat → Option Ob} {w : World} (h : Sim w0 E mem w) (r : Nat) (hr : ¬ E.bn r) (v : Value) (ob : Ob) (hob : ObRep (E.add r v) w r ob)
    (hv : ∀ b, obk ob v = some b → w0.heap.size ≤ b ∧ b < w.heap.size ∧ ¬ E.im b ∧ ∀ q o, mem q = some o → obk o (E.ι q) ≠ some b) : Sim w0 (E.add r v) (upd mem r (some ob)) w := by
  have hnew : (E.add r v).ι r = v := upd_same _ _ _
  have hold : ∀ q o, mem q = some o → q ≠ r := fun q o hq e => hr (e ▸ (h.ob q o hq).1)
  have hι : ∀ q o, mem q = some o → (E.add r v).ι q = E.ι q := fun q o hq => upd_ne _ _ (hold q o hq)
  have hmr : mem r = none := by
    cases hm : mem r with
    | none => rfl
    | some o => exact absurd (h.ob r o hm).1 hr
  have cases_ : ∀ q o, upd mem r (some ob) q = some o → (q = r ∧ o = ob) ∨ mem q = some o := fun q o hq => by
    by_cases e : q = r
    · subst e; rw [upd_same] at hq; injection hq with hq; exact .inl ⟨rfl, hq.symm⟩
    · rw [upd_ne _ _ e] at hq; exact .inr hq
  refine ⟨h.below, h.im, fun q o hq => ?_, fun q o b hq hb => ?_, fun q q' o o' b hq hq' hb hb' => ?_⟩
  · rcases cases_ q o hq with ⟨rfl, rfl⟩ | hq
    · exact ⟨.inr rfl, hob⟩
    · obtain ⟨h1, h2⟩ := h.ob q o hq
      exact ⟨.inl h1, h2.mono h1 (E.le_add r v hr) (Stable.refl _ _) (Nat.le_refl _) (fun _ _ => rfl)⟩
  · rcases cases_ q o hq with ⟨e1, e2⟩ | hq
    · subst e1; subst e2
      rw [hnew] at hb
      obtain ⟨h1, h2, h3, _⟩ := hv b hb
      exact ⟨h1, h2, h3⟩
    · rw [hι q o hq] at hb
      exact h.live q o b hq hb
  · rcases cases_ q o hq with ⟨e1, e2⟩ | p <;> rcases cases_ q' o' hq' with ⟨e3, e4⟩ | p'
    · rw [e1, e3]
    · subst e1; subst e2
      rw [hnew] at hb
      rw [hι q' o' p'] at hb'
      exact absurd hb' ((hv b hb).2.2.2 q' o' p')
    · subst e3; subst e4
      rw [hnew] at hb'
      rw [hι q o p] at hb
      exact absurd hb ((hv b hb').2.2.2 q o p)
    · rw [hι q o p] at hb
      rw [hι q' o' p'] at hb'
      exact h.dist q q' o o' b p p' hb hb'
/-- A fresh block of the world's. -/
theorem Sim.fresh {w0 : World} {E : Env} {mem : Nat → Option Ob} {w : World} (h : Sim w0 E mem w) (q : Nat) (o : Ob) (hq : mem q = some o) : obk o (E.ι q) ≠ some w.heap.size := fun e => by
  have := (h.live q o _ hq e).2.1
  omega
theorem Sim.alloc {w0 : World} {E : Env} {mem : Nat → Option Ob} {w : World} (h : Sim w0 E mem w) (o : Obj) : Sim w0 E mem (w.alloc o) := h.step ((Below.refl _ _).alloc (Nat.le_refl _) o)

theorem All2.imp_mem {α β : Type} {R S : α → β → Prop} : ∀ {xs : List α} {ys : List β}, (∀ a b, a ∈ xs → R a b → S a b) → All2 R xs ys → All2 S xs ys
  | [], [], _, _ => trivial
  | a :: xs, b :: ys, hi, h => ⟨hi _ _ (by simp) h.1, All2.imp_mem (fun a b ha => hi a b (by simp [ha])) h.2⟩
  | [], b :: ys, _, h => h.elim
  | a :: xs, [], _, h => h.elim

/-- A new block. -/
theorem Sim.box {w0 : World} {E : Env} {mem : Nat → Option Ob} {w : World} (h : Sim w0 E mem w) (r : Nat) (hr : ¬ E.bn r) (cs : List C) (vs : List Value) (t : TypeId)
    (hc : All2 (CRep E w) cs vs) (h1 : ∀ u ∈ vs, u.oneCell' = true) :
    Sim w0 (E.add r (.pointer (some ⟨w.heap.size, 0, none⟩))) (upd mem r (some (.box cs))) (w.alloc (.cells vs.toArray t)) := by
  have hb := (Below.refl w.heap.size w).alloc (Nat.le_refl _) (.cells vs.toArray t)
  refine (h.alloc _).add r hr _ _ ?_ ?_
  · refine ⟨w.heap.size, t, vs.toArray, upd_same _ _ _, heap_alloc_new w _, ?_, by simpa using h1⟩
    simp only [List.toList_toArray]
    exact hc.imp fun _ _ q => q.mono (E.le_add r _ hr) (h.stable hb)
  · intro b hx
    simp only [obk, blk, Option.some.injEq] at hx
    subst hx
    exact ⟨h.below.size, by simp, fun hi => by have := (h.im _ hi).1; omega, fun q o hq => h.fresh q o hq⟩

/-- An object written in place. -/
theorem Sim.write {w0 : World} {E : Env} {mem : Nat → Option Ob} {w w' : World} (h : Sim w0 E mem w) {r b : Nat} {o : Ob} (hr : mem r = some o) (hb : obk o (E.ι r) = some b) (hg : w.grownBy w' (some b)) (o' : Ob) (ho2 : ∀ k, obk o' (E.ι r) = some k → k = b) (ho : ObRep E w' r o') :
    Sim w0 E (upd mem r (some o')) w' ∧ Stable E.im w w' := by
  have hst : Stable E.im w w' := fun k hk => hg.block k (h.im k hk).1 (fun e => by injection e with e; subst e; exact (h.live r o k hr hb).2.2 hk)
  have cases_ : ∀ q x, upd mem r (some o') q = some x → (q = r ∧ x = o') ∨ (q ≠ r ∧ mem q = some x) := fun q x hq => by
    by_cases e : q = r
    · subst e; rw [upd_same] at hq; injection hq with hq; exact .inl ⟨rfl, hq.symm⟩
    · rw [upd_ne _ _ e] at hq; exact .inr ⟨e, hq⟩
  refine ⟨⟨h.below.grown hg h.below.size (fun k hk => by injection hk with hk; subst hk; exact (h.live r o b hr hb).1), fun k hk => ⟨Nat.lt_of_lt_of_le (h.im k hk).1 hg.size, (h.im k hk).2⟩, fun q x hq => ?_, fun q x k hq hk => ?_, fun q q' x x' k hq hq' hk hk' => ?_⟩, hst⟩
  · rcases cases_ q x hq with ⟨e1, e2⟩ | ⟨hne, hq⟩
    · subst e1; subst e2; exact ⟨(h.ob _ _ hr).1, ho⟩
    · obtain ⟨h1, h2⟩ := h.ob q x hq
      refine ⟨h1, h2.mono h1 (Env.le.refl E) hst hg.size (fun k hk => hg.block k (h.live q x k hq hk).2.1 (fun e => ?_))⟩
      injection e with e
      subst e
      exact hne (h.dist q r x o k hq hr hk hb)
  · rcases cases_ q x hq with ⟨e1, e2⟩ | ⟨_, hq⟩
    · subst e1; subst e2
      have := ho2 k hk
      subst this
      obtain ⟨h1, h2, h3⟩ := h.live _ o k hr hb
      exact ⟨h1, Nat.lt_of_lt_of_le h2 hg.size, h3⟩
    · obtain ⟨h1, h2, h3⟩ := h.live q x k hq hk
      exact ⟨h1, Nat.lt_of_lt_of_le h2 hg.size, h3⟩
  · rcases cases_ q x hq with ⟨e1, e2⟩ | ⟨_, p⟩ <;> rcases cases_ q' x' hq' with ⟨e3, e4⟩ | ⟨_, p'⟩
    · rw [e1, e3]
    · subst e1; subst e2
      have := ho2 k hk
      subst this
      exact h.dist _ _ o x' k hr p' hb hk'
    · subst e3; subst e4
      have := ho2 k hk'
      subst this
      exact h.dist _ _ x o k p hr hk hb
    · exact h.dist _ _ x x' k p p' hk hk'

/-- A row reads as its data. -/
theorem flat_get {es : List D} {sz : Nat} (hw : ∀ e ∈ es, e.cells.length = sz) : (flat es).length = es.length * sz := by
  induction es with
  | nil => simp [flat]
  | cons e es ih =>
    have := ih (fun x hx => hw x (by simp [hx]))
    have h0 := hw e (by simp)
    simp only [flat, List.flatMap_cons, List.length_append, List.length_cons] at *
    rw [this, h0, Nat.succ_mul]; omega
theorem cell_row {w : World} {b : Nat} {cur : Array Value} {t : TypeId} {fz : Nat × Nat} (h : w.heap[b]? = some (.cells cur t fz)) (k : Nat) : w.cell? ⟨b, k, none⟩ = cur[k]? := by
  simp [World.cell?, h]
theorem RowRep.reads {E : Env} {w : World} {sz : Nat} {v : Value} {x : D} (h : RowRep E w sz v x) (ok : Nat → Prop) (hok : ∀ b, E.im b → ok b) (hb : ∀ b o n c, v = .slice (some ⟨b, o, none⟩) n c → c ≠ 0 → ok b) : Reads ok w v x := by
  rcases h with ⟨rfl, rfl⟩ | ⟨es, rfl, hw, ⟨rfl, b, o, rfl, _⟩ | ⟨b, c, T, cur, rfl, k2, k3, k4, k5, k6, k7⟩⟩
  · exact .v rfl
  · exact .sl (fun _ => undef) (fun _ => rfl) (fun h => absurd rfl h) rfl (Nat.le_refl _) (Nat.zero_le _) (by simp) (by simp [flat]) (by simp [flat])
  · refine .sl (fun k => (cur[k]?).getD undef) (fun _ => rfl) (fun _ => hb _ _ _ _ rfl (by omega)) rfl k3 k5 hw (fun k d hk => ?_) (fun k d hk => ?_)
    · obtain ⟨u, hu, _⟩ := k7.getR hk
      rw [List.getElem?_take] at hu
      split at hu
      · rw [Nat.zero_add, cell_row k2]
        have : cur[k]? = some u := by simpa using hu
        rw [this]; rfl
      · cases hu
    · obtain ⟨u, hu, hr⟩ := k7.getR hk
      rw [List.getElem?_take] at hu
      split at hu
      · have : cur[k]? = some u := by simpa using hu
        simp only [this, Option.getD_some]
        exact hr.mono (Stable.refl _ _) hok
      · cases hu
/-- A row that stays as it is from now on. -/
def Env.frz (E : Env) (r : Nat) : Env := ⟨E.ι, E.bn, fun b => E.im b ∨ ∃ o n c, E.ι r = .slice (some ⟨b, o, none⟩) n c ∧ c ≠ 0, E.od⟩
theorem Sim.freeze {w0 : World} {E : Env} {mem : Nat → Option Ob} {w : World} (h : Sim w0 E mem w) {r sz : Nat} {x : D} (hr : mem r = some (.row sz x)) : Sim w0 (E.frz r) (upd mem r (some (.imm x))) w ∧ E.le (E.frz r) := by
  have hle : E.le (E.frz r) := ⟨fun _ h => h, fun _ _ => rfl, fun _ h => .inl h, fun _ h => h⟩
  obtain ⟨hbn, hrow⟩ := h.ob r _ hr
  have cases_ : ∀ q y, upd mem r (some (.imm x)) q = some y → (q = r ∧ y = .imm x) ∨ (q ≠ r ∧ mem q = some y) := fun q y hq => by
    by_cases e : q = r
    · subst e; rw [upd_same] at hq; injection hq with hq; exact .inl ⟨rfl, hq.symm⟩
    · rw [upd_ne _ _ e] at hq; exact .inr ⟨e, hq⟩
  have hb : ∀ b o n c, E.ι r = .slice (some ⟨b, o, none⟩) n c → c ≠ 0 → (b < w.heap.size ∧ w0.heap.size ≤ b) ∧ ∀ q y, q ≠ r → mem q = some y → obk y (E.ι q) ≠ some b := fun b o n c hv h0 => by
    have hk : obk (.row sz x) (E.ι r) = some b := by rw [hv]; simp [obk, blk, h0]
    exact ⟨⟨(h.live r _ b hr hk).2.1, (h.live r _ b hr hk).1⟩, fun q y hne hq hk' => hne (h.dist q r y _ b hq hr hk' hk)⟩
  refine ⟨⟨h.below, fun b hi => ?_, fun q y hq => ?_, fun q y b hq hk => ?_, fun q q' y y' b hq hq' hk hk' => ?_⟩, hle⟩
  · rcases hi with hi | ⟨o, n, c, hv, h0⟩
    · exact h.im b hi
    · exact ⟨(hb b o n c hv h0).1.1, .inr (hb b o n c hv h0).1.2⟩
  · rcases cases_ q y hq with ⟨e1, e2⟩ | ⟨_, hq⟩
    · subst e1; subst e2
      exact ⟨hbn, RowRep.reads (E := E) hrow _ (fun b hb => .inl hb) (fun b o n c hv h0 => .inr ⟨o, n, c, hv, h0⟩)⟩
    · obtain ⟨h1, h2⟩ := h.ob q y hq
      exact ⟨h1, h2.mono h1 hle (Stable.refl _ _) (Nat.le_refl _) (fun _ _ => rfl)⟩
  · rcases cases_ q y hq with ⟨e1, e2⟩ | ⟨hne, hq⟩
    · subst e2; cases hk
    · obtain ⟨h1, h2, h3⟩ := h.live q y b hq hk
      exact ⟨h1, h2, fun hi => by rcases hi with hi | ⟨o, n, c, hv, h0⟩; exact h3 hi; exact (hb b o n c hv h0).2 q y hne hq hk⟩
  · rcases cases_ q y hq with ⟨e1, e2⟩ | ⟨_, p⟩ <;> rcases cases_ q' y' hq' with ⟨e3, e4⟩ | ⟨_, p'⟩
    · rw [e1, e3]
    · subst e2; cases hk
    · subst e4; cases hk'
    · exact h.dist _ _ y y' b p p' hk hk'
end Go.Proofs.Ytjdemohgegldaaa
