/-
  What a function does with objects that it is given: a contract with memory, and a call of it.
-/
import Derived.Test.YtjdemohgegldaaaAmB
namespace Go.Proofs.Ytjdemohgegldaaa
set_option linter.unusedSimpArgs false
set_option linter.unusedVariables false
open Go.RowKit

/-- A slice whose elements' cells lead nowhere. -/
def Plain : D → Prop
  | .v _ => True
  | .sl _ es => ∀ c ∈ flat es, ∃ y, c = .v y
  | _ => False
structure PlainD (x : D) : Prop where
  out : Plain x
def nthO : List (Option Ob) → Nat → Option Ob
  | [], _ => none
  | x :: _, 0 => x
  | _ :: l, n + 1 => nthO l n
theorem nthO_get : ∀ {l : List (Option Ob)} {i : Nat} {o : Ob}, nthO l i = some o ↔ l[i]? = some (some o)
  | [], i, o => by simp [nthO]
  | x :: l, 0, o => by simp [nthO]
  | x :: l, i + 1, o => by simpa [nthO] using nthO_get (l := l) (i := i)
theorem nthO_lt {l : List (Option Ob)} {i : Nat} {o : Ob} (h : nthO l i = some o) : i < l.length := (List.getElem?_eq_some_iff.1 (nthO_get.1 h)).1
def C.ren (f : Nat → Nat) : C → C
  | .ptr r o => .ptr (f r) o
  | .row r => .row (f r)
  | .ep _ _ _ _ => .bot
  | .sub _ _ _ _ => .bot
  | c => c
def T.ren (f : Nat → Nat) : T → T
  | .one c => .one (c.ren f)
  | .agg cs => .agg (cs.map (C.ren f))
def Ob.ren (f : Nat → Nat) : Ob → Ob
  | .box cs => .box (cs.map (C.ren f))
  | o => o
def C.nm : C → List Nat
  | .ptr r _ => [r]
  | .row r => [r]
  | .ep r _ _ _ => [r]
  | .sub r _ _ _ => [r]
  | _ => []
def T.nm : T → List Nat
  | .one c => c.nm
  | .agg cs => cs.flatMap C.nm
def Ob.nm : Ob → List Nat
  | .box cs => cs.flatMap C.nm
  | _ => []
def C.fine (M : Nat → Option Ob) : C → Prop
  | .d x => ∃ y, x = .v y
  | .k _ => True
  | .ptr r _ => ∃ o, M r = some o
  | .row r => ∃ o, M r = some o
  | _ => False
def Ob.fine (M : Nat → Option Ob) : Ob → Prop
  | .box cs => ∀ c ∈ cs, c.fine M
  | .row _ x => Plain x
  | .imm _ => False
/-- Called with values that stand for these, and objects, a function returns what stands for those; its objects are then so. -/
def MemD (P : Program) (f : FuncId) (args : List T) (obs : List Ob) (res : List T) (obs' : List (Option Ob)) : Prop :=
  (∀ t ∈ res, ∀ c ∈ t.cells, c.fine (nthO obs')) ∧ (∀ i o, nthO obs' i = some o → o.fine (nthO obs')) ∧
  ∀ (w0 : World) (E : Env) (w : World) (vs : List Value), Sim w0 E (nthO (obs.map some)) w → (∀ r, E.bn r → r < obs.length) → All2 (TRep E w) args vs →
    Calls P f vs.toArray w fun e w' => ∃ E' us, e = .returned (pack us) ∧ Sim w0 E' (nthO obs') w' ∧ All2 (TRep E' w') res us ∧ Stable E.im w w' ∧ (∀ b, E.im b → E'.im b) ∧ ∀ r o, r < obs.length → nthO obs' r = some o → E'.ι r = E.ι r

theorem All2.map1 {α β γ : Type} {R : α → β → Prop} {S : γ → β → Prop} {g : α → γ} : ∀ {xs : List α} {ys : List β}, (∀ a b, a ∈ xs → R a b → S (g a) b) → All2 R xs ys → All2 S (xs.map g) ys
  | [], [], _, _ => trivial
  | a :: xs, b :: ys, hi, h => ⟨hi _ _ (by simp) h.1, All2.map1 (fun a b ha => hi a b (by simp [ha])) h.2⟩
  | [], b :: ys, _, h => h.elim
  | a :: xs, [], _, h => h.elim
def idx : List Nat → Nat → Nat
  | [], _ => 0
  | a :: l, r => bif Nat.beq a r then 0 else idx l r + 1
theorem idx_mem : ∀ {qs : List Nat} {r : Nat}, r ∈ qs → idx qs r < qs.length ∧ qs.getD (idx qs r) 0 = r
  | a :: l, r, h => by
    simp only [idx]
    cases hb : Nat.beq a r
    · have hne : r ≠ a := fun e => by subst e; simp at hb
      obtain ⟨h1, h2⟩ := idx_mem (qs := l) (r := r) (by simpa [hne] using h)
      exact ⟨by simp; omega, by simpa using h2⟩
    · have := Nat.eq_of_beq_eq_true hb
      subst this
      exact ⟨by simp, by simp⟩
def back (qs : List Nat) (n r : Nat) : Nat := bif Nat.ble (r + 1) qs.length then qs.getD r 0 else n + (r - qs.length)
theorem back_lt {qs : List Nat} {n r : Nat} (h : r < qs.length) : back qs n r = qs.getD r 0 := by
  unfold back; rw [Nat.ble_eq_true_of_le h]; rfl
theorem back_ge {qs : List Nat} {n r : Nat} (h : qs.length ≤ r) : back qs n r = n + (r - qs.length) := by
  unfold back
  have : Nat.ble (r + 1) qs.length = false := by rw [Bool.eq_false_iff]; intro e; have := Nat.le_of_ble_eq_true e; omega
  rw [this]; rfl
theorem updL_out {α : Type} : ∀ {l : List (Nat × Option α)} {f : Nat → Option α} {q : Nat}, q ∉ l.map (·.1) → updL f l q = f q
  | [], _, _, _ => rfl
  | (i, x) :: l, f, q, h => by
    simp only [List.map_cons, List.mem_cons, not_or] at h
    exact (updL_out (l := l) h.2).trans (upd_ne _ _ h.1)
theorem updL_at {α : Type} (g : Nat → Nat) (h : Nat → Option α) : ∀ (l : List Nat) (f : Nat → Option α), l.Nodup → (∀ i ∈ l, ∀ j ∈ l, g i = g j → i = j) → ∀ i ∈ l, updL f (l.map fun i => (g i, h i)) (g i) = h i
  | a :: l, f, hn, hi, i, hm => by
    simp only [List.nodup_cons] at hn
    rcases List.mem_cons.1 hm with rfl | hm
    · show updL (upd f (g i) (h i)) (l.map fun i => (g i, h i)) (g i) = _
      rw [updL_out, upd_same]
      rw [List.map_map]
      intro hx
      obtain ⟨j, hj, e⟩ := List.mem_map.1 hx
      have := hi j (by simp [hj]) i (by simp) e
      subst this; exact hn.1 hj
    · exact updL_at g h l _ hn.2 (fun i hi' j hj => hi i (by simp [hi']) j (by simp [hj])) i hm

section
variable {E Ec : Env} {w : World} {qs : List Nat}
/-- Into the callee's names. -/
theorem cr_in (him : ∀ b, E.im b → Ec.im b) (hb : ∀ i, i < qs.length → Ec.bn i) (hι : ∀ i, i < qs.length → Ec.ι i = E.ι (qs.getD i 0)) {c : C} {v : Value} (hn : ∀ r ∈ c.nm, r ∈ qs) (h : CRep E w c v) : CRep Ec w (c.ren (idx qs)) v := by
  cases c with
  | d x => exact Reads.mono h (Stable.refl _ _) him
  | k x => exact h
  | ptr r o =>
    obtain ⟨h1, h2⟩ := idx_mem (hn r (by simp [C.nm]))
    obtain ⟨_, b, h3, h4⟩ := h
    exact ⟨hb _ h1, b, by rw [hι _ h1, h2]; exact h3, h4⟩
  | row r =>
    obtain ⟨h1, h2⟩ := idx_mem (hn r (by simp [C.nm]))
    obtain ⟨_, h3, h4⟩ := h
    have e : Ec.ι (idx qs r) = E.ι r := by rw [hι _ h1, h2]
    exact ⟨hb _ h1, by rw [e]; exact h3, by rw [e]; exact h4⟩
  | pd x j =>
    obtain ⟨b, o, us, h1, h2, h3⟩ := h
    exact ⟨b, o, us, h1, fun h => him _ (h2 h), fun k d hk => ⟨(h3 k d hk).1, (h3 k d hk).2.mono (Stable.refl _ _) him⟩⟩
  | ep r i sz j => trivial
  | sub r sz lo hi => trivial
  | bot => trivial
theorem tr_in (him : ∀ b, E.im b → Ec.im b) (hb : ∀ i, i < qs.length → Ec.bn i) (hι : ∀ i, i < qs.length → Ec.ι i = E.ι (qs.getD i 0)) {t : Go.Proofs.Ytjdemohgegldaaa.T} {v : Value} (hn : ∀ r ∈ t.nm, r ∈ qs) (h : TRep E w t v) : TRep Ec w (t.ren (idx qs)) v := by
  cases t with
  | one c => exact cr_in him hb hι hn h
  | agg cs =>
    obtain ⟨vs, h1, h2, h3⟩ := h
    exact ⟨vs, h1, h2.map1 fun c v hc hr => cr_in him hb hι (fun r hr => hn r (List.mem_flatMap.2 ⟨c, hc, hr⟩)) hr, h3⟩
theorem row_in {E' : Env} {sz : Nat} {v : Value} {x : D} (him : ∀ b, E.im b → E'.im b) (h : RowRep E w sz v x) : RowRep E' w sz v x := by
  have := RowRep.mono (E' := ⟨E.ι, E.bn, E'.im, E.od⟩) h ⟨fun _ h => h, fun _ _ => rfl, him, fun _ h => h⟩ (Stable.refl _ _) (Nat.le_refl _) (fun _ _ => rfl)
  exact this
theorem ob_in (him : ∀ b, E.im b → Ec.im b) (hb : ∀ i, i < qs.length → Ec.bn i) (hι : ∀ i, i < qs.length → Ec.ι i = E.ι (qs.getD i 0)) {o : Ob} {i : Nat} (hi : i < qs.length) (hn : ∀ r ∈ o.nm, r ∈ qs) (h : ObRep E w (qs.getD i 0) o) : ObRep Ec w i (o.ren (idx qs)) := by
  have e := hι i hi
  cases o with
  | box cs =>
    obtain ⟨b, T, cur, h1, h2, h3, h4⟩ := h
    exact ⟨b, T, cur, by rw [e]; exact h1, h2, h3.map1 fun c v hc hr => cr_in him hb hι (fun r hr => hn r (List.mem_flatMap.2 ⟨c, hc, hr⟩)) hr, h4⟩
  | row sz x =>
    show RowRep Ec w sz (Ec.ι i) x
    rw [e]; exact row_in him h
  | imm x =>
    show Reads Ec.im w (Ec.ι i) x
    rw [e]; exact Reads.mono h (Stable.refl _ _) him
theorem obk_ren (f : Nat → Nat) (o : Ob) (v : Value) : obk (o.ren f) v = obk o v := by cases o <;> rfl
end
section
variable {E' En : Env} {w : World} {M : Nat → Option Ob} {g : Nat → Nat}
/-- Back into the caller's names. -/
theorem cr_out (hg : ∀ r o, M r = some o → En.bn (g r) ∧ En.ι (g r) = E'.ι r) {c : C} {v : Value} (hf : c.fine M) (h : CRep E' w c v) : CRep En w (c.ren g) v := by
  cases c with
  | d x =>
    obtain ⟨y, rfl⟩ := hf
    have h : Reads E'.im w v (.v y) := h
    cases h with
    | v hs => exact .v hs
  | k x => exact h
  | ptr r o =>
    obtain ⟨q, hq⟩ := hf
    obtain ⟨h1, h2⟩ := hg r q hq
    obtain ⟨_, b, h3, h4⟩ := h
    exact ⟨h1, b, by rw [h2]; exact h3, h4⟩
  | row r =>
    obtain ⟨q, hq⟩ := hf
    obtain ⟨h1, h2⟩ := hg r q hq
    obtain ⟨_, h3, h4⟩ := h
    exact ⟨h1, by rw [h2]; exact h3, by rw [h2]; exact h4⟩
  | pd x j => exact hf.elim
  | ep r i sz j => exact hf.elim
  | sub r sz lo hi => exact hf.elim
  | bot => exact hf.elim
theorem tr_out (hg : ∀ r o, M r = some o → En.bn (g r) ∧ En.ι (g r) = E'.ι r) {t : Go.Proofs.Ytjdemohgegldaaa.T} {v : Value} (hf : ∀ c ∈ t.cells, c.fine M) (h : TRep E' w t v) : TRep En w (t.ren g) v := by
  cases t with
  | one c => exact cr_out hg (hf c (by simp [T.cells])) h
  | agg cs =>
    obtain ⟨vs, h1, h2, h3⟩ := h
    exact ⟨vs, h1, h2.map1 fun c v hc hr => cr_out hg (hf c hc) hr, h3⟩
theorem ob_out (hg : ∀ r o, M r = some o → En.bn (g r) ∧ En.ι (g r) = E'.ι r) {o : Ob} {i : Nat} (hi : En.ι (g i) = E'.ι i) (hf : o.fine M) (h : ObRep E' w i o) : ObRep En w (g i) (o.ren g) := by
  cases o with
  | box cs =>
    obtain ⟨b, T, cur, h1, h2, h3, h4⟩ := h
    exact ⟨b, T, cur, by rw [hi]; exact h1, h2, h3.map1 fun c v hc hr => cr_out hg (hf c hc) hr, h4⟩
  | row sz x =>
    show RowRep En w sz (En.ι (g i)) x
    rw [hi]
    have h : RowRep E' w sz (E'.ι i) x := h
    rcases h with h | ⟨es, rfl, hw, h | ⟨b, c, T, cur, k1, k2, k3, k4, k5, k6, k7⟩⟩
    · exact .inl h
    · exact .inr ⟨es, rfl, hw, .inl h⟩
    · refine .inr ⟨es, rfl, hw, .inr ⟨b, c, T, cur, k1, k2, k3, k4, k5, k6, All2.mk k7.length fun j u d hu hd => ?_⟩⟩
      obtain ⟨u', hu', hr⟩ := k7.getR hd
      rw [hu] at hu'; injection hu' with hu'; subst hu'
      have hf : ∀ c ∈ flat es, ∃ y, c = .v y := hf
      obtain ⟨y, rfl⟩ := hf d (List.mem_of_getElem? hd)
      cases hr with
      | v hs => exact .v hs
  | imm x => exact hf.elim
end

def argT : AV → Option T
  | .t x => some x
  | _ => none
def C.norm : C → C
  | .k v => .d (.v v)
  | c => c
def T.norm : T → T
  | .one c => .one c.norm
  | .agg cs => .agg (cs.map C.norm)
def argTs (ρ : Operand → AV) : List Operand → Option (List T)
  | [] => some []
  | x :: xs => match argT (ρ x), argTs ρ xs with
    | some t, some l => some (t.norm :: l)
    | _, _ => none
theorem norm_rep {E : Env} {w : World} {c : C} {v : Value} (h : CRep E w c v) : CRep E w c.norm v := by
  cases c with
  | k x => obtain ⟨rfl, hs⟩ := h; exact .v hs
  | _ => exact h
theorem normT_rep {E : Env} {w : World} {t : Go.Proofs.Ytjdemohgegldaaa.T} {v : Value} (h : TRep E w t v) : TRep E w t.norm v := by
  cases t with
  | one c => exact norm_rep h
  | agg cs => obtain ⟨vs, h1, h2, h3⟩ := h; exact ⟨vs, h1, h2.map1 fun c v _ hr => norm_rep hr, h3⟩
def obsOf (mem : Nat → Option Ob) : List Nat → Option (List Ob)
  | [] => some []
  | q :: qs => match mem q, obsOf mem qs with
    | some o, some l => some (o :: l)
    | _, _ => none
theorem obsOf_get {mem : Nat → Option Ob} : ∀ {qs : List Nat} {l : List Ob}, obsOf mem qs = some l → l.length = qs.length ∧ ∀ i, i < qs.length → ∃ o, mem (qs.getD i 0) = some o ∧ l[i]? = some o
  | [], l, h => by simp [obsOf] at h; subst h; exact ⟨rfl, fun i hi => absurd hi (Nat.not_lt_zero _)⟩
  | q :: qs, l, h => by
    simp only [obsOf] at h
    split at h
    · rename_i o l' h1 h2
      injection h with h; subst h
      obtain ⟨h3, h4⟩ := obsOf_get h2
      refine ⟨by simp [h3], fun i hi => ?_⟩
      cases i with
      | zero => exact ⟨o, by simpa using h1, by simp⟩
      | succ i =>
        obtain ⟨o', h5, h6⟩ := h4 i (by simpa using hi)
        exact ⟨o', by simpa using h5, by simpa using h6⟩
    · cases h
def wrM (qs : List Nat) (n : Nat) (obs' : List (Option Ob)) : List (Nat × Option Ob) :=
  (List.range (max qs.length obs'.length)).map fun i => (back qs n i, (nthO obs' i).map (Ob.ren (back qs n)))
theorem argTs_rep {E : Env} {w : World} {ρ : Operand → AV} {a : Act} : ∀ {xs : List Operand} {l : List T}, (∀ x ∈ xs, AVRep E w (ρ x) (a.eval x)) → argTs ρ xs = some l → All2 (TRep E w) l (xs.map a.eval)
  | [], l, _, hd => by simp [argTs] at hd; subst hd; trivial
  | x :: xs, l, hx, hd => by
    simp only [argTs] at hd
    split at hd
    · rename_i t l' h1 h2
      injection hd with hd; subst hd
      refine ⟨?_, argTs_rep (fun y hy => hx y (by simp [hy])) h2⟩
      have h3 := hx x (by simp)
      unfold argT at h1
      split at h1
      · rename_i y hy
        injection h1 with h1; subst h1
        rw [hy] at h3; exact normT_rep h3
      · cases h1
    · cases hd
section
variable {P : Program} {o : Oper} {ρ : Operand → AV} {mem : Nat → Option Ob}
theorem callM_ok {fo : Operand} {args : Array Operand} {tys : Array TypeId} (ho : o.op = .call { callee := .value fo, args := args, argTypes := tys }) {f : FuncId} (hfo : ρ fo = .t (.one (.k (.func (.func f) ⟨[]⟩ ⟨[]⟩)))) {fn : Func} (hf : P.funcs[f]? = some fn) (hname : (fn.name == "runtime.NumGoroutine") = false) (hbody : fn.body.isNone = false)
    {ts : List T} (hts : argTs ρ args.toList = some ts) {qs : List Nat} {obs : List Ob} (hq : obsOf mem qs = some obs) (hnd : qs.Nodup) (hn1 : ∀ t ∈ ts, ∀ r ∈ t.nm, r ∈ qs) (hn2 : ∀ o ∈ obs, ∀ r ∈ o.nm, r ∈ qs)
    {res : List T} {obs' : List (Option Ob)} (hc : MemD P f (ts.map (T.ren (idx qs))) (obs.map (Ob.ren (idx qs))) res obs') (n m : Nat) (hm : n + (obs'.length - qs.length) ≤ m) :
    OpOk P o ρ mem (packT (res.map (T.ren (back qs n)))) qs ((List.range (m - n)).map (n + ·)) (wrM qs n obs') := by
  intro w0 E mem' w a K Q hS hacc hn hops hK
  obtain ⟨hf1, hf2, hc⟩ := hc
  obtain ⟨hol, hog⟩ := obsOf_get hq
  have hmem : ∀ i, i < qs.length → ∃ ob, mem' (qs.getD i 0) = some ob ∧ obs[i]? = some ob := fun i hi => by
    obtain ⟨ob, h1, h2⟩ := hog i hi
    exact ⟨ob, (hacc _ (by rw [List.getD_eq_getElem?_getD, List.getElem?_eq_getElem hi]; exact List.getElem_mem _)).trans h1, h2⟩
  have hbnq : ∀ i, i < qs.length → E.bn (qs.getD i 0) := fun i hi => by obtain ⟨ob, h1, _⟩ := hmem i hi; exact (hS.ob _ _ h1).1
  have hnew : ∀ k, n ≤ k → k < m → ¬ E.bn k := fun k h1 h2 => hn k (List.mem_map.2 ⟨k - n, List.mem_range.2 (by omega), by omega⟩)
  have hinj : ∀ i j, i < qs.length → j < qs.length → qs.getD i 0 = qs.getD j 0 → i = j := fun i j hi hj e => by
    rw [List.getD_eq_getElem?_getD, List.getD_eq_getElem?_getD, List.getElem?_eq_getElem hi, List.getElem?_eq_getElem hj] at e
    exact (List.getElem_inj hnd).1 (by simpa using e)
  have hgm : ∀ q ∈ qs, ∃ i, i < qs.length ∧ qs.getD i 0 = q := fun q hq => by obtain ⟨h1, h2⟩ := idx_mem hq; exact ⟨_, h1, h2⟩
  -- the callee's names
  let Ec : Env := ⟨fun i => E.ι (qs.getD i 0), fun i => i < qs.length, fun b => b < w.heap.size ∧ ∀ q ∈ qs, ∀ ob, mem' q = some ob → obk ob (E.ι q) ≠ some b, fun b => b < w.heap.size ∧ ∀ q ∈ qs, ∀ ob, mem' q = some ob → obk ob (E.ι q) ≠ some b⟩
  have him : ∀ b, E.im b → Ec.im b := fun b hb => ⟨(hS.im b hb).1, fun q _ ob hq hk => (hS.live q ob b hq hk).2.2 hb⟩
  have hget : ∀ i ob', nthO ((obs.map (Ob.ren (idx qs))).map some) i = some ob' → i < qs.length ∧ ∃ ob, mem' (qs.getD i 0) = some ob ∧ ob' = ob.ren (idx qs) ∧ ob ∈ obs := fun i ob' h => by
    have h1 := nthO_get.1 h
    simp only [List.map_map, List.getElem?_map, Option.map_eq_some_iff, Function.comp] at h1
    obtain ⟨ob, h2, h3⟩ := h1
    have hi : i < qs.length := by have := (List.getElem?_eq_some_iff.1 h2).1; omega
    obtain ⟨ob2, h4, h5⟩ := hmem i hi
    rw [h2] at h5
    injection h5 with h5; injection h3 with h3
    subst h5
    exact ⟨hi, ob, h4, h3.symm, List.mem_of_getElem? h2⟩
  have hSc : Sim w0 Ec (nthO ((obs.map (Ob.ren (idx qs))).map some)) w := by
    refine ⟨hS.below, fun b hb => ⟨hb.1, .inl hb⟩, fun i ob' h => ?_, fun i ob' b h hk => ?_, fun i j ob' ob2 b h h' hk hk' => ?_⟩
    · obtain ⟨hi, ob, h1, rfl, h2⟩ := hget i ob' h
      exact ⟨hi, ob_in him (fun i hi => hi) (fun i _ => rfl) hi (hn2 ob h2) (hS.ob _ _ h1).2⟩
    · obtain ⟨hi, ob, h1, rfl, h2⟩ := hget i ob' h
      rw [obk_ren] at hk
      obtain ⟨k1, k2, _⟩ := hS.live _ _ b h1 hk
      exact ⟨k1, k2, fun hb => hb.2 _ (by rw [List.getD_eq_getElem?_getD, List.getElem?_eq_getElem hi]; exact List.getElem_mem _) ob h1 hk⟩
    · obtain ⟨hi, ob, h1, rfl, _⟩ := hget i ob' h
      obtain ⟨hj, ob3, h3, rfl, _⟩ := hget j ob2 h'
      rw [obk_ren] at hk hk'
      exact hinj i j hi hj (hS.dist _ _ _ _ b h1 h3 hk hk')
  have hfv := hops fo (by simp [ho, Op.operands, Call.operands])
  rw [hfo] at hfv
  have hfv : a.eval fo = .func (.func f) ⟨[]⟩ ⟨[]⟩ := hfv.1
  have hargs := argTs_rep (a := a) (fun x hx => hops x (by simp only [ho, Op.operands, Call.operands, Array.mem_append]; exact .inr (by simpa using hx))) hts
  have hargs' : All2 (TRep Ec w) (ts.map (T.ren (idx qs))) (args.toList.map a.eval) := hargs.map1 fun t v ht hr => tr_in him (fun i hi => hi) (fun i _ => rfl) (hn1 t ht) hr
  have hcall := hc w0 Ec w _ hSc (fun r hr => by simp only [List.length_map]; have hr : r < qs.length := hr; omega) hargs'
  have hrun : (execOp a.eval o).run P w = .ok (.enter f (args.map a.eval)) w := by
    unfold execOp
    simp only [ho, resolve, hfv, Deferred.ofValue, Sem.run_bind, Sem.run_pure, Result.andThen_ok, invoke, callFunc, run_program, hf]
    have : ((⟨[]⟩ : Array Value) ++ args.map a.eval ++ ⟨[]⟩) = args.map a.eval := by
      show (#[] ++ args.map a.eval ++ #[]) = _
      simp
    rw [this]
    simp [hname, hbody]
  unfold Oper.wp
  rw [hrun, Oper.upon_enter]
  have e1 : (args.toList.map a.eval).toArray = args.map a.eval := by apply Array.ext'; simp
  rw [e1] at hcall
  refine hcall.mono ?_
  rintro ev w' ⟨E', us, rfl, hS', hres, hst, him', hι'⟩
  simp only [List.length_map] at hι'
  rw [hol] at hι'
  -- the caller's names again
  let g := back qs n
  let En : Env := ⟨fun q => bif decide (n ≤ q ∧ q < m) then E'.ι (qs.length + (q - n)) else E.ι q, fun q => E.bn q ∨ (n ≤ q ∧ q < m), E.im, E.od⟩
  have hle : E.le En := ⟨fun r h => .inl h, fun r h => by
    show (bif decide (n ≤ r ∧ r < m) then _ else _) = _
    have : ¬ (n ≤ r ∧ r < m) := fun hx => hnew r hx.1 hx.2 h
    simp [this], fun b h => h, fun b h => h⟩
  have hstE : Stable E.im w w' := hst.mono him
  have hg : ∀ r ob, nthO obs' r = some ob → En.bn (g r) ∧ En.ι (g r) = E'.ι r := fun r ob h => by
    have hlt := nthO_lt h
    by_cases hr : r < qs.length
    · have e : g r = qs.getD r 0 := back_lt hr
      rw [e]
      refine ⟨.inl (hbnq r hr), ?_⟩
      rw [hle.ι _ (hbnq r hr)]
      exact (hι' r ob hr h).symm
    · have e : g r = n + (r - qs.length) := back_ge (by omega)
      rw [e]
      have h1 : n ≤ n + (r - qs.length) ∧ n + (r - qs.length) < m := by omega
      refine ⟨.inr h1, ?_⟩
      show (bif decide _ then _ else _) = _
      rw [show decide (n ≤ n + (r - qs.length) ∧ n + (r - qs.length) < m) = true by simpa using h1]
      simp only [cond_true]
      congr 1; omega
  -- what the memory holds
  have hginj : ∀ i ∈ List.range (max qs.length obs'.length), ∀ j ∈ List.range (max qs.length obs'.length), g i = g j → i = j := fun i hi j hj e => by
    have hi' := List.mem_range.1 hi
    have hj' := List.mem_range.1 hj
    by_cases h1 : i < qs.length <;> by_cases h2 : j < qs.length
    · rw [show g i = qs.getD i 0 from back_lt h1, show g j = qs.getD j 0 from back_lt h2] at e
      exact hinj i j h1 h2 e
    · rw [show g i = qs.getD i 0 from back_lt h1, show g j = n + (j - qs.length) from back_ge (by omega)] at e
      exact absurd (e ▸ hbnq i h1) (hnew _ (by omega) (by omega))
    · rw [show g j = qs.getD j 0 from back_lt h2, show g i = n + (i - qs.length) from back_ge (by omega)] at e
      exact absurd (e ▸ hbnq j h2) (hnew _ (by omega) (by omega))
    · rw [show g i = n + (i - qs.length) from back_ge (by omega), show g j = n + (j - qs.length) from back_ge (by omega)] at e
      omega
  have hin : ∀ i, i < max qs.length obs'.length → updL mem' (wrM qs n obs') (g i) = (nthO obs' i).map (Ob.ren g) := fun i hi =>
    updL_at g (fun i => (nthO obs' i).map (Ob.ren g)) _ mem' List.nodup_range hginj i (List.mem_range.2 hi)
  have hcases : ∀ q ob, updL mem' (wrM qs n obs') q = some ob → (∃ i ob', q = g i ∧ nthO obs' i = some ob' ∧ ob = ob'.ren g) ∨ (q ∉ qs ∧ mem' q = some ob) := fun q ob h => by
    by_cases hq : ∃ i, i < max qs.length obs'.length ∧ g i = q
    · obtain ⟨i, hi, rfl⟩ := hq
      rw [hin i hi] at h
      obtain ⟨ob', h1, h2⟩ := Option.map_eq_some_iff.1 h
      exact .inl ⟨i, ob', rfl, h1, h2.symm⟩
    · rw [updL_out (by
        intro hx
        obtain ⟨p, hp, e⟩ := List.mem_map.1 hx
        obtain ⟨i, hi, rfl⟩ := List.mem_map.1 hp
        exact hq ⟨i, List.mem_range.1 hi, e⟩)] at h
      refine .inr ⟨fun hm => ?_, h⟩
      obtain ⟨i, hi, e⟩ := hgm q hm
      exact hq ⟨i, by omega, by rw [show g i = qs.getD i 0 from back_lt hi]; exact e⟩
  -- blocks of the others
  have hoth : ∀ q ob b, q ∉ qs → mem' q = some ob → obk ob (E.ι q) = some b → Ec.im b := fun q ob b hq h hk => 
    ⟨(hS.live q ob b h hk).2.1, fun q' hq' ob' h' hk' => hq (by have := hS.dist q q' ob ob' b h h' hk hk'; rw [this]; exact hq')⟩
  have hsome : ∀ b, Ec.im b → b < w'.heap.size := fun b hb => by
    have h1 := hst b hb
    rw [Array.getElem?_eq_getElem hb.1] at h1
    exact (Array.getElem?_eq_some_iff.1 h1).1
  have hιo : ∀ q ob, mem' q = some ob → En.ι q = E.ι q := fun q ob h => hle.ι q (hS.ob q ob h).1
  have hSn : Sim w0 En (updL mem' (wrM qs n obs')) w' := by
    refine ⟨hS'.below, fun b hb => ⟨hsome b (him b hb), (hS.im b hb).2⟩, fun q ob h => ?_, fun q ob b h hk => ?_, fun q q2 ob ob2 b h h2 hk hk2 => ?_⟩
    · rcases hcases q ob h with ⟨i, ob', rfl, h1, rfl⟩ | ⟨hq, h1⟩
      · obtain ⟨g1, g2⟩ := hg i ob' h1
        exact ⟨g1, ob_out hg g2 (hf2 i ob' h1) (hS'.ob i ob' h1).2⟩
      · obtain ⟨k1, k2⟩ := hS.ob q ob h1
        refine ⟨.inl k1, ?_⟩
        cases ob with
        | box cs =>
          obtain ⟨b, T', cur, c1, c2, c3, c4⟩ := k2
          have hb := hoth q _ b hq h1 (by rw [c1]; rfl)
          exact ⟨b, T', cur, by rw [hιo q _ h1]; exact c1, (hst b hb).trans c2, c3.imp fun _ _ r => r.mono hle hstE, c4⟩
        | row sz x =>
          show RowRep En w' sz (En.ι q) x
          rw [hιo q _ h1]
          have k2 : RowRep E w sz (E.ι q) x := k2
          rcases k2 with h | ⟨es, c1, c2, c3⟩
          · exact .inl h
          · refine .inr ⟨es, c1, c2, ?_⟩
            rcases c3 with ⟨c3, b, o', c4, c5⟩ | ⟨b, c, T', cur, d1, d2, d3, d4, d5, d6, d7⟩
            · exact .inl ⟨c3, b, o', c4, trivial⟩
            · have hb := hoth q _ b hq h1 (by rw [d1]; simp [obk, blk]; omega)
              exact .inr ⟨b, c, T', cur, d1, (hst b hb).trans d2, d3, d4, d5, d6, d7.imp fun _ _ r => r.mono hstE (fun _ h => h)⟩
        | imm x =>
          show Reads E.im w' (En.ι q) x
          rw [hιo q _ h1]
          exact Reads.mono k2 hstE (fun _ h => h)
    · rcases hcases q ob h with ⟨i, ob', rfl, h1, rfl⟩ | ⟨hq, h1⟩
      · rw [obk_ren, (hg i ob' h1).2] at hk
        obtain ⟨k1, k2, k3⟩ := hS'.live i ob' b h1 hk
        exact ⟨k1, k2, fun hb => k3 (him' b (him b hb))⟩
      · rw [hιo q ob h1] at hk
        obtain ⟨k1, k2, k3⟩ := hS.live q ob b h1 hk
        exact ⟨k1, hsome b (hoth q ob b hq h1 hk), k3⟩
    · rcases hcases q ob h with ⟨i, ob', rfl, h1, rfl⟩ | ⟨hq, h1⟩ <;> rcases hcases q2 ob2 h2 with ⟨j, ob3, rfl, h3, rfl⟩ | ⟨hq2, h3⟩
      · rw [obk_ren, (hg i ob' h1).2] at hk
        rw [obk_ren, (hg j ob3 h3).2] at hk2
        rw [hS'.dist i j ob' ob3 b h1 h3 hk hk2]
      · rw [obk_ren, (hg i ob' h1).2] at hk
        rw [hιo q2 ob2 h3] at hk2
        exact absurd (him' b (hoth q2 ob2 b hq2 h3 hk2)) (hS'.live i ob' b h1 hk).2.2
      · rw [obk_ren, (hg j ob3 h3).2] at hk2
        rw [hιo q ob h1] at hk
        exact absurd (him' b (hoth q ob b hq h1 hk)) (hS'.live j ob3 b h3 hk2).2.2
      · rw [hιo q ob h1] at hk
        rw [hιo q2 ob2 h3] at hk2
        exact hS.dist q q2 ob ob2 b h1 h3 hk hk2
  have hres' : All2 (TRep En w') (res.map (T.ren g)) us := hres.map1 fun t v ht hr => tr_out hg (hf1 t ht) hr
  refine hK En w' (pack us) hle (fun r hr => hr.imp_right fun hr => List.mem_map.2 ⟨r - n, List.mem_range.2 (by omega), by omega⟩) hstE ?_ hSn
  revert hres'
  generalize res.map (T.ren g) = ts'
  intro h3
  match ts', us, h3 with
  | [], [], _ => exact ⟨[], rfl, trivial⟩
  | [t], [u], h3 => exact h3.1
  | t :: t' :: ts', u :: u' :: us, h3 => exact ⟨_, rfl, h3⟩
end

/-- What a function with a contract with memory gives: the shapes. -/
inductive MC where
  | v
  | r (k : Nat)
  | p (k o : Nat)
inductive MO where
  | gone
  | row (sz : Nat)
  | box (cs : List MC)
structure MS where
  res : List (Bool × List MC)
  obs : List MO
def mcells : List MC → List D → List C × List D
  | [], xs => ([], xs)
  | .v :: l, x :: xs => ((.d x) :: (mcells l xs).1, (mcells l xs).2)
  | .v :: _, [] => ([], [])
  | .r k :: l, xs => ((.row k) :: (mcells l xs).1, (mcells l xs).2)
  | .p k o :: l, xs => ((.ptr k o) :: (mcells l xs).1, (mcells l xs).2)
def mres : List (Bool × List MC) → List D → List T × List D
  | [], xs => ([], xs)
  | (ag, cs) :: l, xs => ((bif ag then T.agg (mcells cs xs).1 else T.one ((mcells cs xs).1.headD .bot)) :: (mres l (mcells cs xs).2).1, (mres l (mcells cs xs).2).2)
def mobs : List MO → List D → List (Option Ob)
  | [], _ => []
  | .gone :: l, xs => none :: mobs l xs
  | .row sz :: l, x :: xs => some (.row sz x) :: mobs l xs
  | .row _ :: _, [] => []
  | .box cs :: l, xs => some (.box (mcells cs xs).1) :: mobs l (mcells cs xs).2
def MC.n : MC → Nat
  | .v => 1
  | _ => 0
def sumN : List Nat → Nat
  | [] => 0
  | a :: l => a + sumN l
def MS.nv (s : MS) : Nat := sumN (s.res.flatMap fun x => x.2.map MC.n) + sumN (s.obs.flatMap fun | .row _ => [1] | .box cs => cs.map MC.n | .gone => [])
def memF : Nat → Option MS := fun f => none
def forceN : Nat → (Nat → Prop) → Prop
  | 0, K => K 0
  | n + 1, K => forceN n fun m => K (m + 1)
theorem forceN_eq : ∀ (n : Nat) (K : Nat → Prop), forceN n K = K n
  | 0, K => rfl
  | n + 1, K => forceN_eq n fun m => K (m + 1)
def forceL : List Nat → (List Nat → Prop) → Prop
  | [], K => K []
  | a :: l, K => forceN a fun a' => forceL l fun l' => K (a' :: l')
theorem forceL_eq : ∀ (l : List Nat) (K : List Nat → Prop), forceL l K = K l
  | [], K => rfl
  | a :: l, K => by simp only [forceL]; rw [forceN_eq, forceL_eq l]
def stepN (mem : Nat → Option Ob) (l : List Nat) : List Nat := l ++ l.flatMap fun r => match mem r with | some o => o.nm | none => []
def ddG : List Nat → List Nat → List Nat
  | [], acc => acc
  | a :: l, acc => bif acc.contains a then ddG l acc else ddG l (acc ++ [a])
def namesC (mem : Nat → Option Ob) (ts : List T) (K : List Nat → Prop) : Prop :=
  forceL (ddG (ts.flatMap T.nm) []) fun l0 => forceL (ddG (stepN mem l0) []) fun l1 => forceL (ddG (stepN mem l1) []) K
theorem namesC_ex {mem : Nat → Option Ob} {ts : List T} {K : List Nat → Prop} (h : namesC mem ts K) : ∃ qs, K qs := by
  unfold namesC at h
  rw [forceL_eq, forceL_eq, forceL_eq] at h
  exact ⟨_, h⟩
def nodupM : List Nat → Bool
  | [] => true
  | a :: l => !l.contains a && nodupM l
theorem nodupM_nodup : ∀ {l : List Nat}, nodupM l = true → l.Nodup
  | [], _ => by simp
  | a :: l, h => by
    simp only [nodupM, Bool.and_eq_true, Bool.not_eq_true', List.contains_eq_mem, decide_eq_false_iff_not] at h
    simp only [List.nodup_cons]
    exact ⟨h.1, nodupM_nodup h.2⟩
def okN (qs : List Nat) (ts : List T) (obs : List Ob) : Bool := nodupM qs && ts.all (fun t => t.nm.all qs.contains) && obs.all (fun o => o.nm.all qs.contains)
theorem okN_at {qs : List Nat} {ts : List T} {obs : List Ob} (h : okN qs ts obs = true) : qs.Nodup ∧ (∀ t ∈ ts, ∀ r ∈ t.nm, r ∈ qs) ∧ (∀ o ∈ obs, ∀ r ∈ o.nm, r ∈ qs) := by
  simp only [okN, Bool.and_eq_true, List.all_eq_true, List.contains_eq_mem, decide_eq_true_eq] at h
  exact ⟨nodupM_nodup h.1.1, h.1.2, h.2⟩
end Go.Proofs.Ytjdemohgegldaaa
