/-
  The small machine's operations: what each of them gives, and that the world's does so.
-/
import Derived.Test.YtjdemohgegldaaaAm2
namespace Go.Proofs.Ytjdemohgegldaaa
set_option linter.unusedSimpArgs false
set_option linter.unusedVariables false
open Go.RowKit

def opAV (s : Nat → AV) : Operand → AV
  | .tmp t => s t
  | .const (.agg cs) => bif cs.toList.all scalar then .t (.agg (cs.toList.map C.k)) else .t (.one .bot)
  | .const v => bif scalar v then .t (.one (.k v)) else .t (.one .bot)
  | .func f => .t (.one (.k (.func (.func f) ⟨[]⟩ ⟨[]⟩)))
  | .global _ => .t (.one .bot)

def OpOk (P : Program) (o : Oper) (ρ : Operand → AV) (mem : Nat → Option Ob) (av : AV) (acc nw : List Nat) (wr : List (Nat × Option Ob)) : Prop :=
  ∀ (w0 : World) (E : Env) (mem' : Nat → Option Ob) (w : World) (a : Act) (K : Act → World → Prop) (Q : Exit → Act → World → Prop),
    Sim w0 E mem' w → (∀ r ∈ acc, mem' r = mem r) → (∀ r ∈ nw, ¬ E.bn r) → (∀ x ∈ o.op.operands, AVRep E w (ρ x) (a.eval x)) →
    (∀ E' w' v, E.le E' → (∀ r, E'.bn r → E.bn r ∨ r ∈ nw) → Stable E.im w w' → AVRep E' w' av v → Sim w0 E' (updL mem' wr) w' → K (a.put o.dst v) w') → o.wp P a w K Q

theorem wp_of_run {P : Program} {o : Oper} {a : Act} {w w' : World} {K : Act → World → Prop} {Q : Exit → Act → World → Prop} {v : Value} (h : (execOp a.eval o).run P w = .ok (.value v) w') (hk : K (a.put o.dst v) w') : o.wp P a w K Q := by
  unfold Oper.wp; rw [h]; exact hk
theorem wp_of_skip {P : Program} {o : Oper} {a : Act} {w w' : World} {K : Act → World → Prop} {Q : Exit → Act → World → Prop} (h : (execOp a.eval o).run P w = .ok .skip w') (hk : K (a.put o.dst undef) w') : o.wp P a w K Q := by
  unfold Oper.wp; rw [h]; exact hk

/-- Ways of an operation's result. -/
abbrev KK := AV → List Nat → List Nat → List (Nat × Option Ob) → Prop
def opsOf (o : Oper) : List Operand := o.op.operands.toList

/-- An operation that makes nothing, and writes nothing. -/
theorem OpOk.pure {P : Program} {o : Oper} {ρ : Operand → AV} {mem : Nat → Option Ob} {av : AV} (acc : List Nat)
    (h : ∀ (w0 : World) (E : Env) (mem' : Nat → Option Ob) (w : World) (a : Act), Sim w0 E mem' w → (∀ r ∈ acc, mem' r = mem r) → (∀ x ∈ o.op.operands, AVRep E w (ρ x) (a.eval x)) → ∃ v, (execOp a.eval o).run P w = .ok (.value v) w ∧ AVRep E w av v) :
    OpOk P o ρ mem av acc [] [] := by
  intro w0 E mem' w a K Q hS hacc _ hx hK
  obtain ⟨v, h1, h2⟩ := h w0 E mem' w a hS hacc hx
  exact wp_of_run h1 (hK E w v (Env.le.refl E) (fun r h => .inl h) (Stable.refl _ _) h2 hS)

theorem scalar_one {v : Value} (h : scalar v = true) : v.oneCell' = true := by
  cases v <;> first | rfl | (simp [scalar] at h)
theorem Reads.one {ok : Nat → Prop} {w : World} {v : Value} {d : D} (h : Reads ok w v d) : v.oneCell' = true := by
  cases h with
  | v h => exact scalar_one h
  | sl => rfl
  | fn => rfl
  | pt => rfl
def C.ok : C → Bool
  | .bot => false
  | _ => true
theorem CRep.one {E : Env} {w : World} {c : C} {v : Value} (h : CRep E w c v) (hc : c.ok = true) : v.oneCell' = true := by
  cases c with
  | d x => exact Reads.one h
  | k x => rw [h.1]; exact scalar_one h.2
  | ptr r o => obtain ⟨_, b, _, rfl⟩ := h; rfl
  | pd x j => obtain ⟨b, o, us, rfl, _⟩ := h; rfl
  | ep r i sz j => obtain ⟨_, b, n, c, m, k, _, _, _, _, rfl⟩ := h; rfl
  | row r => obtain ⟨_, rfl, a, n, c, h⟩ := h; rw [h]; rfl
  | sub r sz lo hi => obtain ⟨_, b, n, c, l, m, k, k', _, _, _, _, _, rfl⟩ := h; rfl
  | bot => simp [C.ok] at hc

theorem AVRep.const {E : Env} {w : World} (a : Act) (s : Nat → AV) (v : Value) : AVRep E w (opAV s (.const v)) (a.eval (.const v)) := by
  show AVRep E w (opAV s (.const v)) v
  have one : ∀ v, AVRep E w (bif scalar v then .t (.one (.k v)) else .t (.one .bot)) v := by
    intro v
    cases h : scalar v
    · trivial
    · exact ⟨rfl, h⟩
  cases v with
  | agg cs =>
    show AVRep E w (bif cs.toList.all scalar then .t (.agg (cs.toList.map C.k)) else .t (.one .bot)) (.agg cs)
    cases h : cs.toList.all scalar
    · trivial
    · refine ⟨cs.toList, by simp, ?_, fun u hu => scalar_one (by simpa using (List.all_eq_true.1 h) u hu)⟩
      generalize cs.toList = l at h
      induction l with
      | nil => trivial
      | cons u l ih => simp only [List.all_cons, Bool.and_eq_true] at h; exact ⟨⟨rfl, h.1⟩, ih h.2⟩
  | _ => simp only [opAV]; exact one _

/-- Slots that stand for temporaries. -/
def Slots (E : Env) (w : World) (s : Nat → AV) (a : Act) : Prop := ∀ t, AVRep E w (s t) (a.tmps.getD t undef)
theorem Slots.eval {E : Env} {w : World} {s : Nat → AV} {a : Act} (h : Slots E w s a) (x : Operand) : AVRep E w (opAV s x) (a.eval x) := by
  cases x with
  | tmp t => exact h t
  | const v => exact AVRep.const a s v
  | global g => trivial
  | func f => exact ⟨rfl, rfl⟩

-- move, assign
theorem move_ok {P : Program} {o : Oper} {ρ : Operand → AV} {mem : Nat → Option Ob} {x : Operand} (ho : o.op = .move x ∨ o.op = .assign x) : OpOk P o ρ mem (ρ x) [] [] [] := by
  refine OpOk.pure [] fun w0 E mem' w a hS _ hx => ⟨a.eval x, ?_, hx x ?_⟩
  · rcases ho with ho | ho <;> simp [execOp, ho]
  · rcases ho with ho | ho <;> simp [ho, Op.operands]
-- pick
theorem pick_ok {P : Program} {o : Oper} {ρ : Operand → AV} {mem : Nat → Option Ob} {c x y : Operand} (ho : o.op = .pick c x y) {b : Bool} (hc : ∀ E w v, AVRep E w (ρ c) v → v = .bool b) : OpOk P o ρ mem (bif b then ρ x else ρ y) [] [] [] := by
  refine OpOk.pure [] fun w0 E mem' w a hS _ hx => ?_
  have h1 : a.eval c = .bool b := hc _ _ _ (hx c (by simp [ho, Op.operands]))
  cases b
  · exact ⟨a.eval y, by simp [execOp, ho, h1, asBool], hx y (by simp [ho, Op.operands])⟩
  · exact ⟨a.eval x, by simp [execOp, ho, h1, asBool], hx x (by simp [ho, Op.operands])⟩
theorem pickSame_ok {P : Program} {o : Oper} {ρ : Operand → AV} {mem : Nat → Option Ob} {c x y : Operand} (ho : o.op = .pick c x y) {b : Bool} (hc : ρ c = .t (.one (.d (.v (.bool b))))) (hx : ρ x = .t (.one (.k (.bool true)))) (hy : ρ y = .t (.one (.k (.bool false)))) : OpOk P o ρ mem (ρ c) [] [] [] := by
  refine OpOk.pure [] fun w0 E mem' w a hS _ hops => ?_
  have h1 := hops c (by simp [ho, Op.operands])
  have h2 := hops x (by simp [ho, Op.operands])
  have h3 := hops y (by simp [ho, Op.operands])
  have h1' := h1
  rw [hc] at h1'
  have h1' : Reads E.im w (a.eval c) (.v (.bool b)) := h1'
  have e1 : a.eval c = .bool b := by generalize a.eval c = v at h1'; cases h1'; rfl
  rw [hx] at h2; rw [hy] at h3
  have e2 : a.eval x = .bool true := h2.1
  have e3 : a.eval y = .bool false := h3.1
  refine ⟨a.eval c, ?_, h1⟩
  cases b <;> simp [execOp, ho, e1, e2, e3, asBool]
-- alloc, box
def T.cells : T → List C
  | .one c => [c]
  | .agg cs => cs
theorem TRep.cells {E : Env} {w : World} {x : T} {v : Value} (h : TRep E w x v) (hc : x.cells.all C.ok = true) : All2 (CRep E w) x.cells v.cells.toList ∧ ∀ u ∈ v.cells.toList, u.oneCell' = true := by
  cases x with
  | one c =>
    have h1 := CRep.one h (by simpa [T.cells] using hc)
    have : v.cells.toList = [v] := by cases v <;> first | rfl | (simp [Value.oneCell'] at h1)
    rw [this]
    exact ⟨⟨h, trivial⟩, fun u hu => by simp at hu; subst hu; exact h1⟩
  | agg cs =>
    obtain ⟨vs, rfl, h2, h3⟩ := h
    exact ⟨by simpa [Value.cells, T.cells] using h2, by simpa [Value.cells] using h3⟩
theorem box_ok {P : Program} {o : Oper} {ρ : Operand → AV} {mem : Nat → Option Ob} {t : TypeId} {x : Operand} (ho : o.op = .box t x) {y : T} (hx : ρ x = .t y) (hc : y.cells.all C.ok = true) (n : Nat) :
    OpOk P o ρ mem (.t (.one (.ptr n 0))) [] [n] [(n, some (.box y.cells))] := by
  intro w0 E mem' w a K Q hS _ hn hops hK
  have h1 := hops x (by simp [ho, Op.operands])
  rw [hx] at h1
  obtain ⟨h2, h3⟩ := TRep.cells h1 hc
  have hb := (Below.refl w.heap.size w).alloc (Nat.le_refl _) (.cells (a.eval x).cells t)
  have hS' := hS.box n (hn n (by simp)) y.cells _ t h2 h3
  simp only [Array.toArray_toList] at hS'
  refine wp_of_run (v := .pointer (some ⟨w.heap.size, 0, none⟩)) (w' := w.alloc (.cells (a.eval x).cells t)) ?_ ?_
  · simp [execOp, ho, Instr.box, newVar, newRow, go_sem]
  · exact hK _ _ _ (E.le_add n _ (hn n (by simp))) (fun r hr => hr.imp_right fun e => by simp [e]) (hS.stable hb) ⟨.inr rfl, _, upd_same _ _ _, rfl⟩ hS'
theorem alloc_ok {P : Program} {o : Oper} {ρ : Operand → AV} {mem : Nat → Option Ob} {t : TypeId} (ho : o.op = .alloc t) {i : TypeInfo} (hi : P.info? t = some i) {z : Value} (hz : i.zero = some z) (hc : z.cells.toList.all scalar = true) (n : Nat) :
    OpOk P o ρ mem (.t (.one (.ptr n 0))) [] [n] [(n, some (.box (z.cells.toList.map C.k)))] := by
  intro w0 E mem' w a K Q hS _ hn hops hK
  have h2 : All2 (CRep E w) (z.cells.toList.map C.k) z.cells.toList := by
    generalize z.cells.toList = l at hc
    induction l with
    | nil => trivial
    | cons u l ih => simp only [List.all_cons, Bool.and_eq_true] at hc; exact ⟨⟨rfl, hc.1⟩, ih hc.2⟩
  have h3 : ∀ u ∈ z.cells.toList, u.oneCell' = true := fun u hu => scalar_one ((List.all_eq_true.1 hc) u hu)
  have hb := (Below.refl w.heap.size w).alloc (Nat.le_refl _) (.cells z.cells t)
  have hS' := hS.box n (hn n (by simp)) _ _ t h2 h3
  simp only [Array.toArray_toList] at hS'
  refine wp_of_run (v := .pointer (some ⟨w.heap.size, 0, none⟩)) (w' := w.alloc (.cells z.cells t)) ?_ ?_
  · simp [execOp, ho, Instr.alloc, newVar, newRow, zeroValue, typeInfo, hi, hz, go_sem]
  · exact hK _ _ _ (E.le_add n _ (hn n (by simp))) (fun r hr => hr.imp_right fun e => by simp [e]) (hS.stable hb) ⟨.inr rfl, _, upd_same _ _ _, rfl⟩ hS'
end Go.Proofs.Ytjdemohgegldaaa
