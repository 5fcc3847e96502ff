/-
  Rows that are read as data from now on: what stands in an operation's operands is taken as data.
-/
import Derived.Test.YtjdemohgegldaaaAmR
namespace Go.Proofs.Ytjdemohgegldaaa
set_option linter.unusedSimpArgs false
set_option linter.unusedVariables false
open Go.RowKit

def C.rowN : C → List Nat
  | .row q => [q]
  | _ => []
def AV.rowN : AV → List Nat
  | .t (.one c) => c.rowN
  | .t (.agg cs) => cs.flatMap C.rowN
  | _ => []
def C.thaw (mem : Nat → Option Ob) : C → C
  | .row q => match mem q with
    | some (.imm x) => .d x
    | _ => .row q
  | c => c
def AV.thaw (mem : Nat → Option Ob) : AV → AV
  | .t (.one c) => .t (.one (c.thaw mem))
  | .t (.agg cs) => .t (.agg (cs.map (C.thaw mem)))
  | x => x
def frzW : (Nat → Option Ob) → List Nat → List (Nat × Option Ob)
  | _, [] => []
  | mem, q :: qs => match mem q with
    | some (.row _ x) => (q, some (.imm x)) :: frzW (upd mem q (some (.imm x))) qs
    | _ => frzW mem qs
def namesOf (o : Oper) (ρ : Operand → AV) : List Nat := (opsOf o).flatMap fun x => (ρ x).rowN
theorem upd_congr {α : Type} {f g : Nat → α} {q r : Nat} {x : α} (h : f r = g r) : upd f q x r = upd g q x r := by
  by_cases e : r = q
  · subst e; rw [upd_same, upd_same]
  · rw [upd_ne _ _ e, upd_ne _ _ e]; exact h
theorem updL_congr' {α : Type} : ∀ {l : List (Nat × Option α)} {f g : Nat → Option α} {q : Nat}, f q = g q → updL f l q = updL g l q
  | [], _, _, _, h => h
  | (i, x) :: l, f, g, q, h => updL_congr' (l := l) (upd_congr h)
theorem frzW_ok {w0 w : World} : ∀ (qs : List Nat) (mem mem' : Nat → Option Ob) (E : Env), Sim w0 E mem' w → (∀ q ∈ qs, mem' q = mem q) →
    ∃ E', E.le E' ∧ (∀ r, E'.bn r → E.bn r) ∧ Sim w0 E' (updL mem' (frzW mem qs)) w
  | [], mem, mem', E, hS, _ => ⟨E, Env.le.refl E, fun _ h => h, hS⟩
  | q :: qs, mem, mem', E, hS, h => by
    simp only [frzW]
    split
    · rename_i sz x hq
      obtain ⟨hS1, hle⟩ := hS.freeze ((h q (by simp)).trans hq)
      obtain ⟨E', h1, h2, h3⟩ := frzW_ok qs (upd mem q (some (.imm x))) _ _ hS1 (fun r hr => upd_congr (h r (by simp [hr])))
      exact ⟨E', hle.trans h1, h2, h3⟩
    · exact frzW_ok qs mem mem' E hS fun r hr => h r (by simp [hr])
theorem thawC_rep {w0 : World} {E : Env} {mem mem' : Nat → Option Ob} {w : World} (hS : Sim w0 E mem' w) {c : C} {v : Value} (h : CRep E w c v) (hm : ∀ q ∈ c.rowN, mem' q = mem q) : CRep E w (c.thaw mem) v := by
  cases c with
  | row q =>
    simp only [C.thaw]
    split
    · rename_i x hx
      obtain ⟨_, hr⟩ := hS.ob q _ ((hm q (by simp [C.rowN])).trans hx)
      obtain ⟨_, hv, _⟩ := h
      have hr : Reads E.im w (E.ι q) x := hr
      rw [← hv] at hr
      exact hr
    · exact h
  | _ => exact h
theorem thawCs_rep {w0 : World} {E : Env} {mem mem' : Nat → Option Ob} {w : World} (hS : Sim w0 E mem' w) : ∀ {cs : List C} {vs : List Value}, All2 (CRep E w) cs vs → (∀ q ∈ cs.flatMap C.rowN, mem' q = mem q) → All2 (CRep E w) (cs.map (C.thaw mem)) vs
  | [], [], _, _ => trivial
  | c :: cs, v :: vs, h, hm => ⟨thawC_rep hS h.1 fun q hq => hm q (by simp [hq]), thawCs_rep hS h.2 fun q hq => hm q (by rw [List.flatMap_cons]; exact List.mem_append_right _ hq)⟩
  | [], _ :: _, h, _ => h.elim
  | _ :: _, [], h, _ => h.elim
theorem thaw_rep {w0 : World} {E : Env} {mem mem' : Nat → Option Ob} {w : World} (hS : Sim w0 E mem' w) {x : AV} {v : Value} (h : AVRep E w x v) (hm : ∀ q ∈ x.rowN, mem' q = mem q) : AVRep E w (x.thaw mem) v := by
  cases x with
  | t x =>
    cases x with
    | one c => exact thawC_rep hS h hm
    | agg cs => obtain ⟨vs, h1, h2, h3⟩ := h; exact ⟨vs, h1, thawCs_rep hS h2 hm, h3⟩
  | tup xs => exact h
/-- Ahead of an operation rows may be taken as data. -/
theorem OpOk.frz {P : Program} {o : Oper} {ρ : Operand → AV} {mem : Nat → Option Ob} {av : AV} {acc nw : List Nat} {wr : List (Nat × Option Ob)}
    (h : OpOk P o (fun x => (ρ x).thaw (updL mem (frzW mem (namesOf o ρ)))) (updL mem (frzW mem (namesOf o ρ))) av acc nw wr) : OpOk P o ρ mem av (namesOf o ρ ++ acc) nw (frzW mem (namesOf o ρ) ++ wr) := by
  intro w0 E mem' w a K Q hS hacc hn hops hK
  obtain ⟨E', h1, h2, h3⟩ := frzW_ok (namesOf o ρ) mem mem' E hS fun q hq => hacc q (List.mem_append_left _ hq)
  refine h w0 E' (updL mem' (frzW mem (namesOf o ρ))) w a K Q h3 (fun r hr => updL_congr' (hacc r (List.mem_append_right _ hr))) (fun r hr hb => hn r hr (h2 r hb)) (fun x hx => ?_) (fun E'' w' v hE hbn hst hv hS' => ?_)
  · refine thaw_rep h3 ((hops x hx).mono h1 (Stable.refl _ _)) fun q hq => updL_congr' (hacc q (List.mem_append_left _ ?_))
    exact List.mem_flatMap.2 ⟨x, by simpa [opsOf] using hx, hq⟩
  · refine hK E'' w' v (h1.trans hE) (fun r hr => (hbn r hr).imp_left (h2 r)) (hst.mono h1.im) hv ?_
    rw [updL_append]; exact hS'
end Go.Proofs.Ytjdemohgegldaaa
