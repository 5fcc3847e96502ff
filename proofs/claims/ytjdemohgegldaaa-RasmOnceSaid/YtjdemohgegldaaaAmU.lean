/-
  The small machine: what an iterator does, as data; rounds.
-/
import Derived.Test.YtjdemohgegldaaaAm15
import Derived.RangeFuncSeq
namespace Go.Proofs.Ytjdemohgegldaaa
set_option linter.unusedSimpArgs false
set_option linter.unusedVariables false
open Go.RowKit

def argFit : Option Nat → D → Prop
  | some k, d => ∃ cs, d = .agg cs ∧ cs.length = k
  | none, d => NotAgg d
def argAV : Option Nat → D → AV
  | some k, d => .t (.agg ((List.range k).map fun j => .d (d.cell j)))
  | none, d => .t (.one (.d d))
def argFits : List (Option Nat) → List D → Prop
  | [], [] => True
  | k :: ks, d :: ds => argFit k d ∧ argFits ks ds
  | _, _ => False
def argSlots : List (Option Nat) → List D → Nat → AV
  | k :: _, d :: _, 0 => argAV k d
  | _ :: ks, _ :: ds, n + 1 => argSlots ks ds n
  | _, _, _ => undefAV
def shapeArg (P : Program) (t : TypeId) : Option Nat := match P.underlying t with
  | some d => bif aggD d then some (P.cellsOf t) else none
  | none => none
section
variable {P : Program}
theorem argAV_rep {E : Env} {w : World} : ∀ {k : Option Nat} {d : D} {v : Value}, argFit k d → ArgV E.im w d v → AVRep E w (argAV k d) v
  | none, d, v, hf, h => by
    cases d with
    | agg cs => exact hf.out.elim
    | v x => exact h
    | sl sz es => exact h
    | fn _ _ => exact h
    | pt _ => exact h
  | some k, d, v, hf, h => by
    obtain ⟨cs, rfl, hl⟩ := hf
    obtain ⟨vs, rfl, hall⟩ := h
    refine ⟨vs, rfl, ?_, fun u hu => ?_⟩
    · refine All2.mk (by simp [← hl, hall.length]) fun j c u hc hu => ?_
      have hj : j < k := by have := (List.getElem?_eq_some_iff.1 hc).1; simpa using this
      have : c = .d ((D.agg cs).cell j) := by simpa [hj] using hc.symm
      subst this
      obtain ⟨d, hd, hr⟩ := hall.get hu
      have : (D.agg cs).cell j = d := by simp [D.cell, D.cells, List.getD, hd]
      rw [this]; exact hr
    · obtain ⟨j, hj⟩ := List.getElem?_of_mem hu
      obtain ⟨d, _, hr⟩ := hall.get hj
      exact hr.one
theorem argSlots_rep {E : Env} {w : World} : ∀ {ks : List (Option Nat)} {ds : List D} {vs : List Value}, argFits ks ds → All2 (ArgV E.im w) ds vs → ∀ t, AVRep E w (argSlots ks ds t) (vs.getD t undef)
  | [], ds, vs, hf, h, t => by
    cases ds with
    | cons _ _ => exact hf.elim
    | nil =>
      cases vs with
      | cons _ _ => exact h.elim
      | nil => simp [argSlots]; exact undef_rep E w
  | k :: ks, ds, vs, hf, h, t => by
    cases ds with
    | nil => exact hf.elim
    | cons d ds =>
      cases vs with
      | nil => exact h.elim
      | cons v vs =>
        cases t with
        | zero => exact argAV_rep hf.1 h.1
        | succ t => simpa [argSlots] using argSlots_rep hf.2 h.2 t

end
/-- An iterator: called with yield it yields these data, one behind the other, until it is told to stop; it turns nothing that was there. -/
def SeqD (P : Program) (f : FuncId) (caps : List D) (xs : List (List D)) : Prop :=
  ∀ (im : Nat → Prop) (w : World) (cvs : List Value), (∀ b, im b → b < w.heap.size) → All2 (Reads im w) cvs caps →
    ∀ (l : Nat) (J : Nat → World → Prop) (Jx : World → Prop),
      (∀ k W W', J k W → Below W.heap.size W W' → J k W') → (∀ W W', Jx W → Below W.heap.size W W' → Jx W') →
      (∀ k x vs W, xs[k]? = some x → J k W → Stable im w W → All2 (ArgV im W) x vs → YieldAt (Fr none) 0 P l vs.toArray W fun e W' =>
        (e = .returned (.bool true) ∧ J (k + 1) W' ∧ Stable im W W') ∨ (e = .returned (.bool false) ∧ Jx W')) →
      J 0 w → CallsIn (Fr none) 0 P f (#[.func (.yield l) #[] #[]] ++ cvs.toArray) w fun e W' => (∃ v, e = .returned v) ∧ (J xs.length W' ∨ Jx W')

theorem Below.putObj {B : Nat} {w : World} {l : Nat} {o : Obj} (h : B ≤ l) : Below B w (w.putObj l o) := ⟨rfl, rfl, rfl, by simp, fun k hk => World.putObj_heap_other (by omega)⟩
def cellsB : Obj → Bool
  | .cells .. => true
  | _ => false
theorem noCell {w : World} {l : Nat} {o : Obj} (h : w.heap[l]? = some o) (hc : cellsB o = false) : ∀ j, w.cell? ⟨l, j, none⟩ = none := fun j => by
  unfold World.cell?
  simp only [h]
  cases o <;> first | rfl | (simp [cellsB] at hc)
theorem owned_cells {E : Env} {w : World} {r b : Nat} {ob : Ob} (h : ObRep E w r ob) (hb : obk ob (E.ι r) = some b) : ∃ o, w.heap[b]? = some o ∧ cellsB o = true := by
  cases ob with
  | box cs =>
    obtain ⟨b', T, cur, h1, h2, _⟩ := h
    rw [h1] at hb
    simp only [obk, blk, Option.some.injEq] at hb
    subst hb
    exact ⟨_, h2, rfl⟩
  | row sz x =>
    have h : RowRep E w sz (E.ι r) x := h
    have hb : blk (E.ι r) = some b := hb
    rcases h with ⟨_, h⟩ | ⟨es, _, _, ⟨_, b', o, h, _⟩ | ⟨b', c, T, cur, h, h2, _, h4, _⟩⟩
    · rw [h] at hb; cases hb
    · rw [h] at hb; simp [blk] at hb
    · rw [h] at hb
      simp only [blk] at hb
      rw [if_neg (by omega)] at hb
      injection hb with hb; subst hb
      exact ⟨_, h2, rfl⟩
  | imm x => cases hb
theorem not_owned {w0 : World} {E : Env} {mem : Nat → Option Ob} {w : World} (h : Sim w0 E mem w) {l : Nat} {o : Obj} (hl : w.heap[l]? = some o) (hc : cellsB o = false) {r b : Nat} {ob : Ob} (hr : mem r = some ob) (hb : obk ob (E.ι r) = some b) : b ≠ l := by
  obtain ⟨o', h1, h2⟩ := owned_cells (h.ob r ob hr).2 hb
  rintro rfl
  rw [hl] at h1; cases h1; rw [hc] at h2; cases h2
/-- A block that is nobody's turns. -/
theorem Sim.turn {w0 : World} {E : Env} {mem : Nat → Option Ob} {w : World} (h : Sim w0 E mem w) {l : Nat} {o : Obj} (hl : w.heap[l]? = some o) (hc : cellsB o = false) (h0 : w0.heap.size ≤ l) (him : ¬ E.im l) (o' : Obj) : Sim w0 E mem (w.putObj l o') := by
  have hst : Stable E.im w (w.putObj l o') := fun b hb => World.putObj_heap_other (fun e => him (e ▸ hb))
  refine ⟨h.below.trans (Below.putObj h0), fun b hb => by simpa using h.im b hb, fun r ob hr => ?_, fun r ob b hr hb => by simpa using h.live r ob b hr hb, h.dist⟩
  obtain ⟨h1, h2⟩ := h.ob r ob hr
  exact ⟨h1, h2.mono h1 (Env.le.refl E) hst (by simp) (fun b hb => World.putObj_heap_other (not_owned h hl hc hr hb))⟩
theorem Slots.turn {E : Env} {w : World} {s : Nat → AV} {a : Act} (h : Slots E w s a) {l : Nat} (him : ¬ E.im l) (o' : Obj) : Slots E (w.putObj l o') s a :=
  h.mono (Env.le.refl E) (fun b hb => World.putObj_heap_other (fun e => him (e ▸ hb)))
/-- Blocks that stay: all but one that holds no cells. -/
def Env.but (E : Env) (l : Nat) : Env := ⟨E.ι, E.bn, fun b => E.im b ∧ b ≠ l, E.od⟩
section
variable {E : Env} {w : World} {l : Nat}
theorem CRep.but (hl : ∀ j, w.cell? ⟨l, j, none⟩ = none) {c : C} {v : Value} (h : CRep E w c v) : CRep (E.but l) w c v := by
  cases c with
  | d x => exact Reads.less h hl
  | pd x j =>
    obtain ⟨b, o, us, h1, h2, h3⟩ := h
    refine ⟨b, o, us, h1, fun hne => ⟨h2 hne, ?_⟩, fun k d hk => ⟨(h3 k d hk).1, (h3 k d hk).2.less hl⟩⟩
    rintro rfl
    cases he : x.cells with
    | nil => exact hne he
    | cons d es => have := (h3 0 d (by simp [he])).1; rw [hl] at this; cases this
  | _ => exact h
theorem TRep.but (hl : ∀ j, w.cell? ⟨l, j, none⟩ = none) {t : Go.Proofs.Ytjdemohgegldaaa.T} {v : Value} (h : TRep E w t v) : TRep (E.but l) w t v := by
  cases t with
  | one c => exact CRep.but hl h
  | agg cs => obtain ⟨vs, h1, h2, h3⟩ := h; exact ⟨vs, h1, h2.imp fun _ _ q => CRep.but hl q, h3⟩
theorem AVRep.but (hl : ∀ j, w.cell? ⟨l, j, none⟩ = none) {t : AV} {v : Value} (h : AVRep E w t v) : AVRep (E.but l) w t v := by
  cases t with
  | t x => exact TRep.but hl h
  | tup xs => obtain ⟨vs, h1, h2⟩ := h; exact ⟨vs, h1, h2.imp fun _ _ q => TRep.but hl q⟩
theorem ObRep.but (hl : ∀ j, w.cell? ⟨l, j, none⟩ = none) {r : Nat} {ob : Ob} (h : ObRep E w r ob) : ObRep (E.but l) w r ob := by
  cases ob with
  | box cs => obtain ⟨b, T, cur, h1, h2, h3, h4⟩ := h; exact ⟨b, T, cur, h1, h2, h3.imp fun _ _ q => CRep.but hl q, h4⟩
  | row sz x =>
    have h : RowRep E w sz (E.ι r) x := h
    show RowRep (E.but l) w sz (E.ι r) x
    rcases h with h | ⟨es, h1, h2, h3⟩
    · exact .inl h
    · refine .inr ⟨es, h1, h2, h3.imp_right ?_⟩
      rintro ⟨b, c, T, cur, k1, k2, k3, k4, k5, k6, k7⟩
      exact ⟨b, c, T, cur, k1, k2, k3, k4, k5, k6, k7.imp fun _ _ q => q.less hl⟩
  | imm x => exact Reads.less h hl
theorem Sim.but {w0 : World} {mem : Nat → Option Ob} (h : Sim w0 E mem w) (hl : ∀ j, w.cell? ⟨l, j, none⟩ = none) : Sim w0 (E.but l) mem w :=
  ⟨h.below, fun b hb => h.im b hb.1, fun r ob hr => ⟨(h.ob r ob hr).1, (h.ob r ob hr).2.but hl⟩, fun r ob b hr hb => ⟨(h.live r ob b hr hb).1, (h.live r ob b hr hb).2.1, fun hi => (h.live r ob b hr hb).2.2 hi.1⟩, h.dist⟩
end
/-- A state stands for a frame and a world in which a loop's record lies; what X names is as it was in w1. -/
def StLE (B : Base) (X : Nat → Prop) (w1 : World) (l : Nat) (rec : Loop) (nt : Nat) (S : St) (a : Act) (w : World) (E : Env) : Prop :=
  StandsE B nt S a w E ∧ ¬ E.im l ∧ w.heap[l]? = some (.loop rec) ∧ B.w0.heap.size ≤ l ∧ ¬ B.F l ∧ (∀ b, X b → E.im b) ∧ Stable X w1 w
def StL (B : Base) (X : Nat → Prop) (w1 : World) (l : Nat) (rec : Loop) (nt : Nat) (S : St) (a : Act) (w : World) : Prop := ∃ E, StLE B X w1 l rec nt S a w E
section
variable {B : Base} {X : Nat → Prop} {w1 : World} {l : Nat} {rec : Loop} {nt : Nat} {S : St} {a : Act} {w : World} {E : Env}
theorem StL.stands (h : StL B X w1 l rec nt S a w) : Stands B nt S a w := let ⟨E, h, _⟩ := h; ⟨E, h⟩
theorem StLE.turn (h : StLE B X w1 l rec nt S a w E) (rec' : Loop) : StLE B X w1 l rec' nt S a (w.putObj l (.loop rec')) E := by
  obtain ⟨⟨h1, h2, h3, h4, h5, h6⟩, him, hl, h0, hF, hX, hst⟩ := h
  have hlt := (Array.getElem?_eq_some_iff.1 hl).1
  have hs : Stable E.im w (w.putObj l (.loop rec')) := fun b hb => World.putObj_heap_other (fun e => him (e ▸ hb))
  exact ⟨⟨h1.turn hl rfl h0 him _, h2.turn him _, h3, h4, h5.step (fun _ h => h) hs, ⟨h6.nb, h6.im, h6.st.trans (hs.mono h6.im), h6.ι, h6.od⟩⟩, him, World.putObj_heap_same hlt, h0, hF, hX, hst.trans (hs.mono hX)⟩
theorem StL.turn (h : StL B X w1 l rec nt S a w) (rec' : Loop) : StL B X w1 l rec' nt S a (w.putObj l (.loop rec')) := let ⟨E, h⟩ := h; ⟨E, h.turn rec'⟩
theorem StL.recd (h : StL B X w1 l rec nt S a w) : w.heap[l]? = some (.loop rec) := let ⟨E, h⟩ := h; h.2.2.1
theorem StL.step (h : StL B X w1 l rec nt S a w) {w' : World} (hb : Below w.heap.size w w') : StL B X w1 l rec nt S a w' := by
  obtain ⟨E, ⟨h1, h2, h3, h4, h5, h6⟩, him, hl, h0, hF, hX, hst⟩ := h
  have hlt := (Array.getElem?_eq_some_iff.1 hl).1
  have hs := h1.stable hb
  exact ⟨E, ⟨h1.step hb, h2.mono (Env.le.refl E) hs, h3, h4, h5.step (fun _ h => h) hs, ⟨h6.nb, h6.im, h6.st.trans (hs.mono h6.im), h6.ι, h6.od⟩⟩, him, (hb.block l hlt).trans hl, h0, hF, hX, hst.trans (hs.mono hX)⟩
/-- The loop's record is kept in mind while code runs. -/
theorem StL.enter (h : StL B X w1 l rec nt S a w) (hX0 : ∀ b, ¬ X b) : Stands ⟨B.w0, fun b => B.F b ∨ X b ∨ b = l, w, B.ι, B.nb, B.G⟩ nt S a w := by
  obtain ⟨E, ⟨h1, h2, h3, h4, h5, h6⟩, him, hl, h0, hF, hX, hst⟩ := h
  have hlt := (Array.getElem?_eq_some_iff.1 hl).1
  have hle : E.le ⟨E.ι, E.bn, fun b => E.im b ∨ b = l, E.od⟩ := ⟨fun _ h => h, fun _ _ => rfl, fun _ h => .inl h, fun _ h => h⟩
  refine ⟨⟨E.ι, E.bn, fun b => E.im b ∨ b = l, E.od⟩, ⟨h1.below, fun b hb => ?_, fun r ob hr => ?_, fun r ob b hr hb => ?_, h1.dist⟩, h2.mono hle (Stable.refl _ _), h3, h4, ⟨h5.1, fun d hd => ?_⟩, ⟨h6.nb, fun b hb => ?_, Stable.refl _ _, h6.ι, h6.od⟩⟩
  · rcases hb with hb | rfl
    · exact h1.im b hb
    · exact ⟨hlt, .inr h0⟩
  · obtain ⟨g1, g2⟩ := h1.ob r ob hr
    exact ⟨g1, g2.mono g1 hle (Stable.refl _ _) (Nat.le_refl _) (fun _ _ => rfl)⟩
  · obtain ⟨g1, g2, g3⟩ := h1.live r ob b hr hb
    exact ⟨g1, g2, fun hi => hi.elim g3 (not_owned h1 hl rfl hr hb)⟩
  · obtain ⟨D, k1, k2, k3, k4, k5⟩ := h5.2 d hd
    refine ⟨D, k1, .inl k2, fun hb => ?_, k4, k5⟩
    rcases hb with hb | hb | rfl
    · exact k3 hb
    · exact hX0 _ hb
    · rw [hl] at k5; cases k5
  · rcases hb with hb | hb | hb
    · exact .inl (h6.im b hb)
    · exact .inl (hX b hb)
    · exact .inr hb
theorem StL.leave {S' : St} {a' : Act} {w' : World} (h : StL B X w1 l rec nt S a w) (h' : Stands ⟨B.w0, fun b => B.F b ∨ X b ∨ b = l, w, B.ι, B.nb, B.G⟩ nt S' a' w') : StL B X w1 l rec nt S' a' w' := by
  obtain ⟨E, ⟨h1, h2, h3, h4, h5, h6⟩, him, hl, h0, hF, hX, hst⟩ := h
  obtain ⟨E', g1, g2, g3, g4, g5, g6⟩ := h'
  have hl' : w'.heap[l]? = some (.loop rec) := (g6.st l (.inr (.inr rfl))).trans hl
  have hn := noCell hl' rfl
  refine ⟨E'.but l, ⟨g1.but hn, fun t => (g2 t).but hn, g3, g4, ⟨g5.1, fun d hd => ?_⟩, ⟨g6.nb, fun b hb => ⟨g6.im b (.inl hb), fun e => hF (e ▸ hb)⟩, h6.st.trans (fun b hb => g6.st b (.inl hb)), g6.ι, g6.od⟩⟩, fun hi => hi.2 rfl, hl', h0, hF, fun b hb => ⟨g6.im b (.inr (.inl hb)), fun e => him (e ▸ hX b hb)⟩, hst.trans (fun b hb => g6.st b (.inr (.inl hb)))⟩
  obtain ⟨D, k1, k2, k3, k4, k5⟩ := g5.2 d hd
  refine ⟨D, k1, ⟨k2, ?_⟩, fun hb => k3 (.inl hb), k4, k5⟩
  rintro rfl
  rw [hl'] at k5; cases k5
end
theorem All2.impM {α β : Type} {R S : α → β → Prop} : ∀ {xs : List α} {ys : List β}, All2 R xs ys → (∀ a b, a ∈ xs → R a b → S a b) → All2 S xs ys
  | [], [], _, _ => trivial
  | a :: xs, b :: ys, h, hi => ⟨hi _ _ (by simp) h.1, All2.impM h.2 (fun a b ha => hi a b (by simp [ha]))⟩
  | [], b :: ys, h, _ => h.elim
  | a :: xs, [], h, _ => h.elim
/-- The outer frame's slots, over what a round has left. -/
def outerS (S2 S' : St) : St := ⟨fun t => bif (S2.s t).names.all (fun r => match S'.mem r with | some _ => true | none => false) then S2.s t else .t (.one .bot), S'.mem, S'.n⟩
theorem CRep.carry {E E' : Env} {w w' : World} (him : ∀ b, E.im b → E'.im b) (hst : Stable E.im w w') {c : C} {v : Value} (hn : ∀ r ∈ c.names, E'.bn r ∧ (E.bn r → E'.ι r = E.ι r)) (h : CRep E w c v) : CRep E' w' c v := by
  cases c with
  | d x => exact Reads.mono h hst him
  | k x => exact h
  | ptr r o => obtain ⟨hb, b, h1, h2⟩ := h; obtain ⟨g1, g2⟩ := hn r (by simp [C.names]); exact ⟨g1, b, (g2 hb).trans h1, h2⟩
  | pd x j =>
    obtain ⟨b, o, us, h1, h2, h3⟩ := h
    exact ⟨b, o, us, h1, fun h => him _ (h2 h), fun k d hk => ⟨(hst.cell (h2 (fun e => by rw [e] at hk; simp at hk))).trans (h3 k d hk).1, (h3 k d hk).2.mono hst him⟩⟩
  | ep r i sz j => obtain ⟨hb, b, n, c, m, k, h1, h2⟩ := h; obtain ⟨g1, g2⟩ := hn r (by simp [C.names]); exact ⟨g1, b, n, c, m, k, (g2 hb).trans h1, h2⟩
  | row r => obtain ⟨g1, g2⟩ := hn r (by simp [C.names]); exact ⟨g1, h.2.1.trans (g2 h.1).symm, by rw [g2 h.1]; exact h.2.2⟩
  | sub r sz lo hi => obtain ⟨hb, b, n, c, l, m, k, k', h1, h2⟩ := h; obtain ⟨g1, g2⟩ := hn r (by simp [C.names]); exact ⟨g1, b, n, c, l, m, k, k', (g2 hb).trans h1, h2⟩
  | bot => trivial
theorem TRep.carry {E E' : Env} {w w' : World} (him : ∀ b, E.im b → E'.im b) (hst : Stable E.im w w') {c : Go.Proofs.Ytjdemohgegldaaa.T} {v : Value} (hn : ∀ r ∈ c.names, E'.bn r ∧ (E.bn r → E'.ι r = E.ι r)) (h : TRep E w c v) : TRep E' w' c v := by
  cases c with
  | one c => exact CRep.carry him hst hn h
  | agg cs =>
    obtain ⟨vs, h1, h2, h3⟩ := h
    exact ⟨vs, h1, h2.impM fun c v hc hr => CRep.carry him hst (fun r hr => hn r (List.mem_flatMap.2 ⟨c, hc, hr⟩)) hr, h3⟩
theorem AVRep.carry {E E' : Env} {w w' : World} (him : ∀ b, E.im b → E'.im b) (hst : Stable E.im w w') {c : AV} {v : Value} (hn : ∀ r ∈ c.names, E'.bn r ∧ (E.bn r → E'.ι r = E.ι r)) (h : AVRep E w c v) : AVRep E' w' c v := by
  cases c with
  | t x => exact TRep.carry him hst hn h
  | tup xs =>
    obtain ⟨vs, h1, h2⟩ := h
    exact ⟨vs, h1, h2.impM fun c v hc hr => TRep.carry him hst (fun r hr => hn r (List.mem_flatMap.2 ⟨c, hc, hr⟩)) hr⟩
open Classical in
/-- What was known where a round began. -/
noncomputable def roundBase (B : Base) (E : Env) (n : Nat) (W : World) : Base := ⟨B.w0, E.im, W, fun r => if E.bn r then E.ι r else B.ι r, n, B.G⟩
theorem StL.round {B : Base} {X : Nat → Prop} {w1 : World} {l : Nat} {rec : Loop} {nt : Nat} {S : St} {a : Act} {w : World} {E : Env} (h : StLE B X w1 l rec nt S a w E) {S' : St} {a' : Act} (hm : S'.mem = S.mem) (hn : S'.n = S.n) (hs : Slots E w S'.s a') (hsz : a'.tmps.size = nt) (hd : a'.defers = []) :
    StL (roundBase B E S.n w) (fun _ => False) w l rec nt S' a' w := by
  obtain ⟨⟨h1, h2, h3, h4, h5, h6⟩, him, hl, h0, hF, hX, hst⟩ := h
  refine ⟨E, ⟨by rw [hm]; exact h1, hs, by rw [hn]; exact h3, hsz, by rw [hd]; exact Marks.nil _ _ _, ⟨by rw [hn]; exact Nat.le_refl _, fun _ h => h, Stable.refl _ _, fun r _ hb => ?_, h6.od⟩⟩, him, hl, h0, him, fun _ h => h.elim, fun _ h => h.elim⟩
  simp only [roundBase, if_pos hb]
theorem StL.back {B : Base} {X : Nat → Prop} {w1 : World} {l : Nat} {rec rec' : Loop} {nt : Nat} {S : St} {a : Act} {w w' : World} {E : Env} (h : StLE B X w1 l rec nt S a w E) {S' : St} {a' : Act} (h' : StL (roundBase B E S.n w) (fun _ => False) w l rec' nt S' a' w') :
    StL B X w1 l rec' nt (outerS S S') a w' := by
  obtain ⟨⟨h1, h2, h3, h4, h5, h6⟩, him, hl, h0, hF, hX, hst⟩ := h
  obtain ⟨E', ⟨g1, g2, g3, g4, g5, g6⟩, gim, gl, g0, gF, gX, gst⟩ := h'
  have kim : ∀ b, E.im b → E'.im b := g6.im
  have kst : Stable E.im w w' := g6.st
  have hnb : S.n ≤ S'.n := g6.nb
  refine ⟨E', ⟨g1, fun t => ?_, g3, h4, h5.step kim kst, ⟨Nat.le_trans h6.nb hnb, fun b hb => kim b (h6.im b hb), h6.st.trans (kst.mono h6.im), fun r hr hb => ?_, g6.od⟩⟩, gim, gl, h0, hF, fun b hb => kim b (hX b hb), hst.trans (kst.mono hX)⟩
  · show AVRep E' w' (bif (S.s t).names.all (fun r => match S'.mem r with | some _ => true | none => false) then S.s t else .t (.one .bot)) _
    cases hc : (S.s t).names.all (fun r => match S'.mem r with | some _ => true | none => false)
    · trivial
    · refine AVRep.carry kim kst (fun r hr => ?_) (h2 t)
      have := (List.all_eq_true.1 hc) r hr
      split at this
      · rename_i o ho
        obtain ⟨k1, _⟩ := g1.ob r o ho
        refine ⟨k1, fun hb => ?_⟩
        have := g6.ι r (h3 r hb) k1
        rw [this]; simp only [roundBase, if_pos hb]
      · cases this
  · have hlt : r < S.n := Nat.lt_of_lt_of_le hr h6.nb
    have := g6.ι r hlt hb
    rw [this]
    simp only [roundBase]
    split
    · rename_i hb'; exact h6.ι r hr hb'
    · rfl
theorem StL.kept {B : Base} {X : Nat → Prop} {w1 : World} {l : Nat} {rec : Loop} {nt : Nat} {S : St} {a : Act} {w w' : World} {E : Env} {n : Nat} (h : StL (roundBase B E n w) X w1 l rec nt S a w') : Stable E.im w w' := let ⟨_, h, _⟩ := h; h.2.2.2.2.2.st
def putPs (s : Nat → AV) : List Nat → List (Option Nat) → List D → Nat → AV
  | p :: ps, k :: ks, d :: ds => putPs (upd s p (argAV k d)) ps ks ds
  | _, _, _ => s
def roundS (S : St) (ps : List Nat) (ks : List (Option Nat)) (x : List D) : St := ⟨putPs S.s ps ks x, S.mem, S.n⟩
theorem putPs_rep {E : Env} {w : World} : ∀ {ps : List Nat} {ks : List (Option Nat)} {ds : List D} {vs : List Value} {s : Nat → AV} {t : Array Value}, Slots E w s ⟨t, []⟩ → argFits ks ds → All2 (ArgV E.im w) ds vs → ps.length = ks.length → (∀ p ∈ ps, p < t.size) →
    Slots E w (putPs s ps ks ds) ⟨(ps.zip vs).foldl (fun t (q : Nat × Value) => t.setIfInBounds q.1 q.2) t, []⟩ ∧ ((ps.zip vs).foldl (fun t (q : Nat × Value) => t.setIfInBounds q.1 q.2) t).size = t.size
  | [], ks, ds, vs, s, t, h, _, _, _, _ => ⟨by cases ks <;> exact h, rfl⟩
  | p :: ps, [], ds, vs, s, t, h, _, _, hl, _ => by simp at hl
  | p :: ps, k :: ks, ds, vs, s, t, h, hf, hr, hl, hp => by
    cases ds with
    | nil => exact hf.elim
    | cons d ds =>
      cases vs with
      | nil => exact hr.elim
      | cons v vs =>
        have hlt : p < t.size := hp p (by simp)
        have h1 : Slots E w (upd s p (argAV k d)) ⟨t.setIfInBounds p v, []⟩ := Slots.put (dst := some p) (a := ⟨t, []⟩) h (argAV_rep hf.1 hr.1) (fun q e => by injection e with e; subst e; exact hlt)
        obtain ⟨g1, g2⟩ := putPs_rep (ps := ps) (ks := ks) h1 hf.2 hr.2 (by simpa using hl) (fun q hq => by simpa using hp q (by simp [hq]))
        exact ⟨g1, by rw [List.zip_cons_cons, List.foldl_cons, g2]; simp⟩
def yieldShapes (P : Program) (f : Nat) : Option (List (Option Nat)) := match P.funcs[f]? with
  | some fn => bif !(fn.name == "runtime.NumGoroutine") && !fn.body.isNone then
      match fn.params.toList with
      | t :: _ => match P.underlying t with
        | some (.func ps _ _) => some (ps.toList.map (shapeArg P))
        | _ => none
      | [] => none
    else none
  | none => none
theorem yieldShapes_fn {P : Program} {f : Nat} {ks : List (Option Nat)} (h : yieldShapes P f = some ks) : ∃ fn, P.funcs[f]? = some fn ∧ (fn.name == "runtime.NumGoroutine") = false ∧ fn.body.isNone = false := by
  unfold yieldShapes at h
  split at h
  · rename_i fn hf
    cases hc : (!(fn.name == "runtime.NumGoroutine") && !fn.body.isNone)
    · rw [hc] at h; cases h
    · simp only [Bool.and_eq_true, Bool.not_eq_true'] at hc
      exact ⟨fn, hf, hc.1, hc.2⟩
  · cases h
theorem argFits_len : ∀ {ks : List (Option Nat)} {ds : List D}, argFits ks ds → ds.length = ks.length
  | [], [], _ => rfl
  | k :: ks, d :: ds, h => by simp [argFits_len h.2]
  | [], _ :: _, h => h.elim
  | _ :: _, [], h => h.elim
theorem ArgV.grow {ok ok' : Nat → Prop} {w : World} {d : D} {v : Value} (h : ArgV ok w d v) (him : ∀ b, ok b → ok' b) : ArgV ok' w d v := by
  cases d with
  | agg cs => obtain ⟨vs, h1, h2⟩ := h; exact ⟨vs, h1, h2.imp fun _ _ q => q.mono (Stable.refl _ _) him⟩
  | _ => exact Reads.mono h (Stable.refl _ _) him
theorem Sub.stL {f : Nat → Nat} {H S : St} (hS : Sub f H S) {B : Base} (hf : ∀ q, q < B.nb → f q = q) (hn : B.nb ≤ H.n) {X : Nat → Prop} {w1 : World} {l : Nat} {rec : Loop} {nt : Nat} {a : Act} {w : World} (h : StL B X w1 l rec nt S a w) : StL B X w1 l rec nt H a w := by
  obtain ⟨E, h, him, hr⟩ := h
  exact ⟨envOf f H E, hS.standsE hf hn h, him, hr⟩
end Go.Proofs.Ytjdemohgegldaaa
