/-
  The small machine: a region, in the text's order; and that every other order that the region allows comes to the same.
-/
import Derived.Test.YtjdemohgegldaaaAmW
namespace Go.Proofs.Ytjdemohgegldaaa
set_option linter.unusedSimpArgs false
set_option linter.unusedVariables false
open Go.RowKit

structure St where
  s : Nat → AV
  mem : Nat → Option Ob
  n : Nat
def undefAV : AV := .tup []
def putO (s : Nat → AV) : Option Nat → AV → Nat → AV
  | some t, x => upd s t x
  | none, _ => s
/-- Where a run began: the world that nothing below is turned of; blocks that stay, as they were then; the objects that were there. -/
structure Base where
  w0 : World
  F : Nat → Prop
  w1 : World
  ι : Nat → Value
  nb : Nat
  G : Nat → Prop
structure Kept (B : Base) (n : Nat) (E : Env) (w : World) : Prop where
  nb : B.nb ≤ n
  im : ∀ b, B.F b → E.im b
  st : Stable B.F B.w1 w
  ι : ∀ r, r < B.nb → E.bn r → E.ι r = B.ι r
  od : ∀ b, E.od b → B.G b
theorem Kept.step {B : Base} {n : Nat} {E E' : Env} {w w' : World} (h : Kept B n E w) (hE : E.le E') (hbn : ∀ q, E'.bn q → E.bn q ∨ n ≤ q) (hst : Stable E.im w w') : Kept B n E' w' :=
  ⟨h.nb, fun b hb => hE.im b (h.im b hb), h.st.trans (hst.mono h.im), fun r hr hb => by
    rcases hbn r hb with hb | hb
    · exact (hE.ι r hb).trans (h.ι r hr hb)
    · have := h.nb; omega, fun b hb => h.od b (hE.od b hb)⟩
theorem Kept.more {B : Base} {n m : Nat} {E : Env} {w : World} (h : Kept B n E w) (hm : n ≤ m) : Kept B m E w := ⟨Nat.le_trans h.nb hm, h.im, h.st, h.ι, h.od⟩
/-- The marks of loops over functions: nothing was deferred in their rounds. -/
def Marks (B : Base) (E : Env) (w : World) (ds : List Deferred) : Prop :=
  ds.Nodup ∧ ∀ d ∈ ds, ∃ D, d = { target := .collected D, args := #[] } ∧ E.im D ∧ ¬ B.F D ∧ B.w0.heap.size ≤ D ∧ w.heap[D]? = some (.deferred (some []))
theorem Marks.nil (B : Base) (E : Env) (w : World) : Marks B E w [] := ⟨List.nodup_nil, fun _ h => by cases h⟩
theorem Marks.step {B : Base} {E E' : Env} {w w' : World} {ds : List Deferred} (h : Marks B E w ds) (hE : ∀ b, E.im b → E'.im b) (hs : Stable E.im w w') : Marks B E' w' ds :=
  ⟨h.1, fun d hd => let ⟨D, h1, h2, h3, h4, h5⟩ := h.2 d hd; ⟨D, h1, hE D h2, h3, h4, (hs D h2).trans h5⟩⟩
/-- The state stands for a frame and a world. -/
def StandsE (w0 : Base) (nt : Nat) (S : St) (a : Act) (w : World) (E : Env) : Prop :=
  Sim w0.w0 E S.mem w ∧ Slots E w S.s a ∧ (∀ r, E.bn r → r < S.n) ∧ a.tmps.size = nt ∧ Marks w0 E w a.defers ∧ Kept w0 S.n E w
def Stands (w0 : Base) (nt : Nat) (S : St) (a : Act) (w : World) : Prop :=
  ∃ E, Sim w0.w0 E S.mem w ∧ Slots E w S.s a ∧ (∀ r, E.bn r → r < S.n) ∧ a.tmps.size = nt ∧ Marks w0 E w a.defers ∧ Kept w0 S.n E w

structure Rec where
  dst : Option Nat
  av : AV
  wr : List (Nat × Option Ob)
  m : Nat
  acc : List Nat
  rd : List Nat
def Rec.app (r : Rec) (S : St) : St := ⟨putO S.s r.dst r.av, updL S.mem r.wr, r.m⟩
def Ref (x y : AV) : Prop := ∀ E w v, AVRep E w x v → AVRep E w y v
theorem Ref.refl (x : AV) : Ref x x := fun _ _ _ h => h
def tmpsOf (o : Oper) : List Nat := o.op.operands.toList.filterMap fun | .tmp t => some t | _ => none
structure StepOk (P : Program) (nt : Nat) (ops : Array Oper) (i : Nat) (S : St) (r : Rec) : Prop where
  ex : ∃ o, ops[i]? = some o ∧ r.dst = o.dst ∧ S.n ≤ r.m ∧ (∀ d, o.dst = some d → d < nt) ∧
    ((∃ j want t, o.guard = some (j, want) ∧ (ops[j]?).bind (·.dst) = some t ∧ t ∈ r.rd ∧ (∀ E w v, AVRep E w (S.s t) v → v ≠ .bool want) ∧ r.av = undefAV ∧ r.wr = []) ∨
     ((o.guard = none ∨ ∃ j want t, o.guard = some (j, want) ∧ (ops[j]?).bind (·.dst) = some t ∧ t ∈ r.rd ∧ (∀ E w v, AVRep E w (S.s t) v → v = .bool want)) ∧
       (∀ c, o.op ≠ .defer c) ∧ (∀ t ∈ tmpsOf o, t ∈ r.rd) ∧ ∃ ρ, (∀ x ∈ o.op.operands, Ref (opAV S.s x) (ρ x)) ∧ OpOk P o ρ S.mem r.av r.acc (fresh S.n r.m) r.wr))

theorem getD_put {a : Act} {d : Nat} {v : Value} (hd : d < a.tmps.size) (t : Nat) : (a.put (some d) v).tmps.getD t undef = if t = d then v else a.tmps.getD t undef := by
  by_cases e : t = d
  · subst e; simp [Act.put, hd]
  · simp [Act.put, Array.getElem?_setIfInBounds_ne (Ne.symm e), if_neg e]
theorem Slots.put {E : Env} {w : World} {s : Nat → AV} {a : Act} {dst : Option Nat} {v : Value} {x : AV} (h : Slots E w s a) (hx : AVRep E w x v) (hd : ∀ d, dst = some d → d < a.tmps.size) : Slots E w (putO s dst x) (a.put dst v) := by
  cases dst with
  | none => exact h
  | some d =>
    intro t
    rw [getD_put (hd d rfl)]
    by_cases e : t = d
    · subst e; simp only [putO, upd_same, if_pos]; exact hx
    · simp only [putO, upd_ne _ _ e, if_neg e]; exact h t
theorem Slots.mono {E E' : Env} {w w' : World} {s : Nat → AV} {a : Act} (h : Slots E w s a) (hE : E.le E') (hs : Stable E.im w w') : Slots E' w' s a := fun t => (h t).mono hE hs
theorem put_size (a : Act) (dst : Option Nat) (v : Value) : (a.put dst v).tmps.size = a.tmps.size := by cases dst <;> simp [Act.put]
theorem put_defers' (a : Act) (dst : Option Nat) (v : Value) : (a.put dst v).defers = a.defers := by cases dst <;> rfl
theorem yielded_of {ops : Array Oper} {tmps : Array Value} {j t : Nat} (h : (ops[j]?).bind (·.dst) = some t) (want : Bool) : yielded ops tmps j = some want ↔ tmps.getD t undef = .bool want := by
  unfold yielded
  rw [h]
  simp only [Option.bind_some]
  cases ht : tmps[t]? with
  | none => simp [ht, undef]
  | some v =>
    have : tmps.getD t undef = v := by simp [ht]
    rw [this]
    cases v <;> simp
theorem undef_rep (E : Env) (w : World) : AVRep E w undefAV undef := ⟨[], rfl, trivial⟩

/-- One operation at a state that stands for the frame at what the operation reads. -/
theorem step_wp {ro : Option Nat} {P : Program} {nt : Nat} {ops : Array Oper} {i : Nat} {S : St} {r : Rec} (hr : StepOk P nt ops i S r) {w0 : World} {E : Env} {mem' : Nat → Option Ob} {s' : Nat → AV} {w : World} {a : Act} (hS : Sim w0 E mem' w) (hs : Slots E w s' a) (hsz : a.tmps.size = nt)
    (hmem : ∀ q ∈ r.acc, mem' q = S.mem q) (hslot : ∀ t ∈ r.rd, s' t = S.s t) (hfr : ∀ q ∈ fresh S.n r.m, ¬ E.bn q) {K : Act → World → Prop} {Q : Exit → Act → World → Prop}
    (hK : ∀ E' w' a', E.le E' → (∀ q, E'.bn q → E.bn q ∨ q ∈ fresh S.n r.m) → Stable E.im w w' → Sim w0 E' (updL mem' r.wr) w' → Slots E' w' (putO s' r.dst r.av) a' → a'.tmps.size = nt → a'.defers = a.defers → K a' w') : wpOpIn (Fr ro) 0 P ops Q i K a w := by
  obtain ⟨o, ho, hdst, hn, hlt, hcase⟩ := hr.ex
  have hd : ∀ d, o.dst = some d → d < a.tmps.size := fun d h => by rw [hsz]; exact hlt d h
  unfold wpOpIn
  simp only [ho]
  rcases hcase with ⟨j, want, t, hg, ht, htr, hne, hav, hwr⟩ | ⟨hg, hnd, hrd, ρ, href, hok⟩
  · have hy : ¬ yielded ops a.tmps j = some want := fun e => by
      have := (yielded_of ht want).1 e
      have h1 := hs t
      rw [hslot t htr] at h1
      exact hne _ _ _ h1 this
    have hw : Region.wanted o (yielded ops a.tmps) = false := by simp [Region.wanted, hg, hy]
    simp only [hw, Bool.false_eq_true, if_false]
    refine ⟨fun _ _ => trivial, hK E w _ (Env.le.refl E) (fun q h => .inl h) (Stable.refl _ _) (by rw [hwr]; exact hS) ?_ (by rw [put_size]; exact hsz) (put_defers' _ _ _)⟩
    rw [hdst, hav]
    exact hs.put (undef_rep E w) hd
  · have hw : Region.wanted o (yielded ops a.tmps) = true := by
      rcases hg with hg | ⟨j, want, t, hg, ht, htr, heq⟩
      · simp [Region.wanted, hg]
      · have h1 := hs t
        rw [hslot t htr] at h1
        have := (yielded_of ht want).2 (heq _ _ _ h1)
        simp [Region.wanted, hg, this]
    simp only [hw, if_true]
    refine op_fr hnd (hok w0 E mem' w a K Q hS hmem hfr (fun x hx => ?_) (fun E' w' v hE hbn hst hv hS' => ?_))
    · refine href x hx _ _ _ ?_
      cases x with
      | tmp t =>
        have h1 := hs t
        rw [hslot t (hrd t (by simp only [tmpsOf, List.mem_filterMap]; exact ⟨.tmp t, by simpa using hx, rfl⟩))] at h1
        exact h1
      | const v => exact AVRep.const a S.s v
      | global g => trivial
      | func f => exact ⟨rfl, rfl⟩
    · refine hK E' w' _ hE hbn hst hS' ?_ (by rw [put_size]; exact hsz) (put_defers' _ _ _)
      rw [hdst]
      exact (hs.mono hE hst).put hv hd

/-- The records of a region's operations, one behind the other. -/
inductive Tr (P : Program) (nt : Nat) (ops : Array Oper) : Nat → St → List Rec → Prop
  | nil (i : Nat) (S : St) : Tr P nt ops i S []
  | cons {i : Nat} {S : St} {r : Rec} {rs : List Rec} (h : StepOk P nt ops i S r) (t : Tr P nt ops (i + 1) (r.app S) rs) : Tr P nt ops i S (r :: rs)
def run (S : St) (rs : List Rec) : St := rs.foldl (fun S r => r.app S) S

theorem fresh_lt {n m q : Nat} (h : q ∈ fresh n m) : n ≤ q ∧ q < m := by
  obtain ⟨k, hk, rfl⟩ := List.mem_map.1 h
  have := List.mem_range.1 hk
  omega
theorem tr_seq {ro : Option Nat} {P : Program} {nt : Nat} {ops : Array Oper} {w0 : Base} {Q : Exit → Act → World → Prop} {rs : List Rec} : ∀ {i : Nat} {S : St} {a : Act} {w : World}, Tr P nt ops i S rs → Stands w0 nt S a w → (∀ a w, Stands w0 nt (run S rs) a w → Q .normal a w) → wpOpsIn (Fr ro) 0 P ops Q ((List.range rs.length).map (i + ·)) a w := by
  induction rs with
  | nil => intro i S a w _ hs hQ; exact hQ a w hs
  | cons r rs ih =>
    intro i S a w ht hs hQ
    cases ht with
    | cons h t =>
      obtain ⟨E, h1, h2, h3, h4, h5⟩ := hs
      rw [show ((List.range (r :: rs).length).map (i + ·)) = i :: (List.range rs.length).map (i + 1 + ·) by
        rw [List.length_cons, List.range_succ_eq_map]; simp [Function.comp_def, Nat.add_assoc, Nat.add_comm 1]]
      rw [wpOpsIn_cons]
      refine step_wp h h1 h2 h4 (fun _ _ => rfl) (fun _ _ => rfl) (fun q hq hb => by have := h3 q hb; have := (fresh_lt hq).1; omega) (fun E' w' a' hE hbn hst hS' hsl hsz hdef => ?_)
      obtain ⟨o, _, _, hn, _⟩ := h.ex
      refine ih t ⟨E', hS', hsl, fun q hq => ?_, hsz, hdef ▸ h5.1.step hE.im hst, (h5.2.step hE (fun q hq => (hbn q hq).imp_right fun hb => (fresh_lt hb).1) hst).more hn⟩ hQ
      show q < r.m
      rcases hbn q hq with hb | hb
      · have := h3 q hb; omega
      · exact (fresh_lt hb).2
theorem Tr.length_le {P : Program} {nt : Nat} {ops : Array Oper} : ∀ {i : Nat} {S : St} {rs : List Rec}, Tr P nt ops i S rs → i + rs.length ≤ ops.size ∨ rs = []
  | _, _, _, .nil _ _ => .inr rfl
  | i, S, _, .cons h t => by
    obtain ⟨o, ho, _⟩ := h.ex
    have hlt := (Array.getElem?_eq_some_iff.1 ho).1
    rcases t.length_le with h | h
    · left; simp; omega
    · left; subst h; simp; omega
theorem region_seq {ro : Option Nat} {P : Program} {nt : Nat} {ops : Array Oper} {w0 : Base} {Q : Exit → Act → World → Prop} {rs : List Rec} {id : Nat} {S : St} {a : Act} {w : World} (ht : Tr P nt ops 0 S rs) (hl : rs.length = ops.size) (hs : Stands w0 nt S a w) (hQ : ∀ a w, Stands w0 nt (run S rs) a w → Q .normal a w) : wpR ro P (.region id ops false) Q a w := by
  refine wpR_region ?_
  have := tr_seq (ro := ro) ht hs hQ
  rw [hl] at this
  simpa using this
end Go.Proofs.Ytjdemohgegldaaa
