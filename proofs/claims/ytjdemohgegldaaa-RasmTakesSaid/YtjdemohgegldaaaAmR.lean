/-
  Results that are only to be read: they may share what came in. A call of a function that gives such.
-/
import Derived.Test.YtjdemohgegldaaaAmY
namespace Go.Proofs.Ytjdemohgegldaaa
set_option linter.unusedSimpArgs false
set_option linter.unusedVariables false
open Go.RowKit

def notAgg : D → Prop
  | .agg _ => False
  | _ => True
structure NotAgg (d : D) : Prop where
  out : notAgg d
/-- Called with values that read as these data, a function returns values that read as those data; they may share what came in, and are the caller's only to read. -/
def ReadD (P : Program) (f : FuncId) (args res : List D) : Prop :=
  ∀ (ok : Nat → Prop) (w : World) (vs : List Value), (∀ b, ok b → b < w.heap.size) → All2 (ArgV ok w) args vs →
    Calls P f vs.toArray w fun e w' => ∃ us, e = .returned (pack us) ∧ Below w.heap.size w w' ∧ All2 (ArgV (fun b => ok b ∨ (w.heap.size ≤ b ∧ b < w'.heap.size)) w') res us
def C.pure : C → Option D
  | .d x => some x
  | .k v => some (.v v)
  | _ => none
def csPure : List C → Option (List D)
  | [] => some []
  | c :: cs => match c.pure, csPure cs with
    | some x, some l => some (x :: l)
    | _, _ => none
def argP : AV → Option D
  | .t (.one c) => c.pure
  | .t (.agg cs) => (csPure cs).map .agg
  | _ => none
def argsP (ρ : Operand → AV) : List Operand → Option (List D)
  | [] => some []
  | x :: xs => match argP (ρ x), argsP ρ xs with
    | some d, some l => some (d :: l)
    | _, _ => none
theorem pure_reads {E : Env} {w : World} {c : C} {v : Value} {x : D} (h : CRep E w c v) (hd : c.pure = some x) : Reads E.im w v x := by
  cases c with
  | d y => simp only [C.pure, Option.some.injEq] at hd; subst hd; exact h
  | k u => simp only [C.pure, Option.some.injEq] at hd; subst hd; obtain ⟨rfl, hs⟩ := h; exact .v hs
  | _ => simp [C.pure] at hd
theorem csPure_reads {E : Env} {w : World} : ∀ {cs : List C} {vs : List Value} {l : List D}, All2 (CRep E w) cs vs → csPure cs = some l → All2 (Reads E.im w) vs l
  | [], vs, l, h, hd => by
    simp [csPure] at hd; subst hd
    cases vs with
    | nil => trivial
    | cons v vs => exact h.elim
  | c :: cs, vs, l, h, hd => by
    simp only [csPure] at hd
    split at hd
    · rename_i x l' h1 h2
      injection hd with hd; subst hd
      cases vs with
      | nil => exact h.elim
      | cons v vs => exact ⟨pure_reads h.1 h1, csPure_reads h.2 h2⟩
    · cases hd
theorem argP_rep {E : Env} {w : World} {x : AV} {v : Value} {d : D} (h : AVRep E w x v) (hd : argP x = some d) : ArgV E.im w d v := by
  unfold argP at hd
  split at hd
  · exact (pure_reads h hd).argV
  · obtain ⟨l, hl, rfl⟩ := Option.map_eq_some_iff.1 hd
    obtain ⟨vs, rfl, h2, _⟩ := h
    exact ⟨vs, rfl, csPure_reads h2 hl⟩
  · cases hd
theorem argsP_rep {E : Env} {w : World} {ρ : Operand → AV} {a : Act} : ∀ {xs : List Operand} {l : List D}, (∀ x ∈ xs, AVRep E w (ρ x) (a.eval x)) → argsP ρ xs = some l → All2 (ArgV E.im w) l (xs.map a.eval)
  | [], l, _, hd => by simp [argsP] at hd; subst hd; trivial
  | x :: xs, l, hx, hd => by
    simp only [argsP] at hd
    split at hd
    · rename_i d l' h1 h2
      injection hd with hd; subst hd
      exact ⟨argP_rep (hx x (by simp)) h1, argsP_rep (fun y hy => hx y (by simp [hy])) h2⟩
    · cases hd
def fitR (sh : Shape) (r : D) : Prop := bif sh.1 then ∃ cs, r = .agg cs ∧ cs.length = sh.2.length else NotAgg r
def fitsR : List Shape → List D → Prop
  | [], [] => True
  | sh :: shs, r :: rs => fitR sh r ∧ fitsR shs rs
  | _, _ => False
def readT (sh : Shape) (r : D) : Go.Proofs.Ytjdemohgegldaaa.T := bif sh.1 then .agg ((List.range sh.2.length).map fun k => C.d (r.cell k)) else .one (.d r)
def readTs : List Shape → List D → List Go.Proofs.Ytjdemohgegldaaa.T
  | sh :: shs, r :: rs => readT sh r :: readTs shs rs
  | _, _ => []
theorem readT_rep {E : Env} {w : World} {sh : Shape} {r : D} {u : Value} (hf : fitR sh r) (h : ArgV E.im w r u) : TRep E w (readT sh r) u := by
  obtain ⟨agg, ks⟩ := sh
  cases agg
  · have hf : NotAgg r := hf
    cases r with
    | agg cs => exact hf.out.elim
    | v x => exact h
    | sl sz es => exact h
    | fn _ _ => exact h
    | pt _ => exact h
  · obtain ⟨cs, rfl, hl⟩ := hf
    obtain ⟨vs, rfl, hall⟩ := h
    have hl : cs.length = ks.length := hl
    refine ⟨vs, rfl, ?_, fun u hu => ?_⟩
    · refine All2.mk (by simp [← hl, hall.length]) fun j c u hc hu => ?_
      have hj : j < ks.length := by have := (List.getElem?_eq_some_iff.1 hc).1; simpa using this
      have : c = .d ((D.agg cs).cell j) := by simpa [hj] using hc.symm
      subst this
      obtain ⟨d, hd, hr⟩ := hall.get hu
      have : (D.agg cs).cell j = d := by simp [D.cell, D.cells, List.getD, hd]
      rw [this]; exact hr
    · obtain ⟨j, hj⟩ := List.getElem?_of_mem hu
      obtain ⟨d, _, hr⟩ := hall.get hj
      exact hr.one
theorem readTs_rep {E : Env} {w : World} : ∀ {shs : List Shape} {rs : List D} {us : List Value}, fitsR shs rs → All2 (ArgV E.im w) rs us → All2 (TRep E w) (readTs shs rs) us
  | [], [], us, _, h => by cases us with | nil => trivial | cons _ _ => exact h.elim
  | sh :: shs, r :: rs, us, hf, h => by
    cases us with
    | nil => exact h.elim
    | cons u us => exact ⟨readT_rep hf.1 h.1, readTs_rep hf.2 h.2⟩
  | [], _ :: _, _, hf, _ => hf.elim
  | _ :: _, [], _, hf, _ => hf.elim
section
variable {P : Program} {o : Oper} {ρ : Operand → AV} {mem : Nat → Option Ob}
theorem callR_ok {fo : Operand} {args : Array Operand} {tys : Array TypeId} (ho : o.op = .call { callee := .value fo, args := args, argTypes := tys }) {f : FuncId} (hfo : ρ fo = .t (.one (.k (.func (.func f) ⟨[]⟩ ⟨[]⟩)))) {fn : Func} (hf : P.funcs[f]? = some fn) (hname : (fn.name == "runtime.NumGoroutine") = false) (hbody : fn.body.isNone = false)
    {ds : List D} (hds : argsP ρ args.toList = some ds) {res : List D} (hc : ReadD P f ds res) {shs : List Shape} (hfit : fitsR shs res) :
    OpOk P o ρ mem (packT (readTs shs res)) [] [] [] := by
  intro w0 E mem' w a K Q hS _ _ hops hK
  have hfv := hops fo (by simp [ho, Op.operands, Call.operands])
  rw [hfo] at hfv
  have hfv : a.eval fo = .func (.func f) ⟨[]⟩ ⟨[]⟩ := hfv.1
  have hargs := argsP_rep (a := a) (fun x hx => hops x (by simp only [ho, Op.operands, Call.operands, Array.mem_append]; exact .inr (by simpa using hx))) hds
  have hcall := hc E.im w _ (fun b hb => (hS.im b hb).1) hargs
  have hrun : (execOp a.eval o).run P w = .ok (.enter f (args.map a.eval)) w := by
    unfold execOp
    simp only [ho, resolve, hfv, Deferred.ofValue, Sem.run_bind, Sem.run_pure, Result.andThen_ok, invoke, callFunc, run_program, hf]
    have : ((⟨[]⟩ : Array Value) ++ args.map a.eval ++ ⟨[]⟩) = args.map a.eval := by
      show (#[] ++ args.map a.eval ++ #[]) = _
      simp
    rw [this]
    simp [hname, hbody]
  unfold Oper.wp
  rw [hrun, Oper.upon_enter]
  have e1 : (args.toList.map a.eval).toArray = args.map a.eval := by apply Array.ext'; simp
  rw [e1] at hcall
  refine hcall.mono ?_
  rintro ev w' ⟨us, rfl, hb, hres⟩
  let E' : Env := ⟨E.ι, E.bn, fun b => E.im b ∨ (w.heap.size ≤ b ∧ b < w'.heap.size), E.od⟩
  have hle : E.le E' := ⟨fun _ h => h, fun _ _ => rfl, fun _ h => .inl h, fun _ h => h⟩
  have hS1 := hS.step hb
  have hS' : Sim w0 E' mem' w' := by
    refine ⟨hS1.below, fun b hb' => ?_, fun q ob hq => ?_, fun q ob k hq hk => ?_, hS1.dist⟩
    · rcases hb' with hb' | hb'
      · exact hS1.im b hb'
      · exact ⟨hb'.2, .inr (Nat.le_trans hS.below.size hb'.1)⟩
    · obtain ⟨h1, h2⟩ := hS1.ob q ob hq
      exact ⟨h1, h2.mono h1 hle (Stable.refl _ _) (Nat.le_refl _) (fun _ _ => rfl)⟩
    · obtain ⟨h1, h2, h3⟩ := hS1.live q ob k hq hk
      have := (hS.live q ob k hq hk).2.1
      exact ⟨h1, h2, fun hi => by rcases hi with hi | hi; exact h3 hi; omega⟩
  refine hK E' w' (pack us) hle (fun r h => .inl h) (hS.stable hb) ?_ hS'
  have h3 : All2 (TRep E' w') (readTs shs res) us := readTs_rep hfit hres
  revert h3
  generalize readTs shs res = ts
  intro h3
  match ts, us, h3 with
  | [], [], _ => exact ⟨[], rfl, trivial⟩
  | [t], [u], h3 => exact h3.1
  | t :: t' :: ts, u :: u' :: us, h3 => exact ⟨_, rfl, h3⟩
/-- A call of a function value. -/
theorem callC_ok {fo : Operand} {args : Array Operand} {tys : Array TypeId} (ho : o.op = .call { callee := .value fo, args := args, argTypes := tys }) {f : FuncId} {caps : List D} (hfo : ρ fo = .t (.one (.d (.fn f caps)))) {fn : Func} (hf : P.funcs[f]? = some fn) (hname : (fn.name == "runtime.NumGoroutine") = false) (hbody : fn.body.isNone = false)
    {ds : List D} (hds : argsP ρ args.toList = some ds) {res : List D} (hc : ReadD P f (ds ++ caps) res) {shs : List Shape} (hfit : fitsR shs res) :
    OpOk P o ρ mem (packT (readTs shs res)) [] [] [] := by
  intro w0 E mem' w a K Q hS _ _ hops hK
  have hfv := hops fo (by simp [ho, Op.operands, Call.operands])
  rw [hfo] at hfv
  obtain ⟨cvs, hfv, hcv⟩ : ∃ cvs : List Value, a.eval fo = .func (.func f) ⟨[]⟩ ⟨cvs⟩ ∧ All2 (ArgV E.im w) caps cvs := by
    have hr : Reads E.im w (a.eval fo) (.fn f caps) := hfv
    generalize a.eval fo = v at hr
    cases hr with
    | fn cvs hn hr => exact ⟨cvs, rfl, All2.mk hn.symm fun k d v hd hv => (hr k d v hd hv).argV⟩
  have hargs := argsP_rep (a := a) (fun x hx => hops x (by simp only [ho, Op.operands, Call.operands, Array.mem_append]; exact .inr (by simpa using hx))) hds
  have hcall := hc E.im w _ (fun b hb => (hS.im b hb).1) (hargs.append hcv)
  have hrun : (execOp a.eval o).run P w = .ok (.enter f (args.map a.eval ++ ⟨cvs⟩)) w := by
    unfold execOp
    simp only [ho, resolve, hfv, Deferred.ofValue, Sem.run_bind, Sem.run_pure, Result.andThen_ok, invoke, callFunc, run_program, hf]
    have : ((⟨[]⟩ : Array Value) ++ args.map a.eval ++ ⟨cvs⟩) = args.map a.eval ++ ⟨cvs⟩ := by
      show (#[] ++ args.map a.eval ++ _) = _
      simp
    rw [this]
    simp [hname, hbody]
  unfold Oper.wp
  rw [hrun, Oper.upon_enter]
  have e1 : (args.toList.map a.eval ++ cvs).toArray = args.map a.eval ++ ⟨cvs⟩ := by apply Array.ext'; simp
  rw [e1] at hcall
  refine hcall.mono ?_
  rintro ev w' ⟨us, rfl, hb, hres⟩
  let E' : Env := ⟨E.ι, E.bn, fun b => E.im b ∨ (w.heap.size ≤ b ∧ b < w'.heap.size), E.od⟩
  have hle : E.le E' := ⟨fun _ h => h, fun _ _ => rfl, fun _ h => .inl h, fun _ h => h⟩
  have hS1 := hS.step hb
  have hS' : Sim w0 E' mem' w' := by
    refine ⟨hS1.below, fun b hb' => ?_, fun q ob hq => ?_, fun q ob k hq hk => ?_, hS1.dist⟩
    · rcases hb' with hb' | hb'
      · exact hS1.im b hb'
      · exact ⟨hb'.2, .inr (Nat.le_trans hS.below.size hb'.1)⟩
    · obtain ⟨h1, h2⟩ := hS1.ob q ob hq
      exact ⟨h1, h2.mono h1 hle (Stable.refl _ _) (Nat.le_refl _) (fun _ _ => rfl)⟩
    · obtain ⟨h1, h2, h3⟩ := hS1.live q ob k hq hk
      have := (hS.live q ob k hq hk).2.1
      exact ⟨h1, h2, fun hi => by rcases hi with hi | hi; exact h3 hi; omega⟩
  refine hK E' w' (pack us) hle (fun r h => .inl h) (hS.stable hb) ?_ hS'
  have h3 : All2 (TRep E' w') (readTs shs res) us := readTs_rep hfit hres
  revert h3
  generalize readTs shs res = ts
  intro h3
  match ts, us, h3 with
  | [], [], _ => exact ⟨[], rfl, trivial⟩
  | [t], [u], h3 => exact h3.1
  | t :: t' :: ts, u :: u' :: us, h3 => exact ⟨_, rfl, h3⟩
end
/-- The functions whose results are only to be read. -/
def rdF : Nat → Bool := fun f => Nat.beq f 26 || Nat.beq f 27 || Nat.beq f 29 || Nat.beq f 42 || Nat.beq f 44 || Nat.beq f 9 || Nat.beq f 10 || Nat.beq f 12
end Go.Proofs.Ytjdemohgegldaaa
