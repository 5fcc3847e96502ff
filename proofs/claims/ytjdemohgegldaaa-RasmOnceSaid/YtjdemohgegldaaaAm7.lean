/-
  The small machine's operations: len, the least and the greatest, literals, makes, cuts.
-/
import Derived.Test.YtjdemohgegldaaaAm6
namespace Go.Proofs.Ytjdemohgegldaaa
set_option linter.unusedSimpArgs false
set_option linter.unusedVariables false
open Go.RowKit

/-- The length that a cell has as a slice or a text. -/
theorem toD_len {w0 : World} {E : Env} {mem mem' : Nat → Option Ob} {w : World} {c : C} {v : Value} {dx : D} (hS : Sim w0 E mem' w) (hacc : ∀ r ∈ c.acc, mem' r = mem r) (hc : CRep E w c v) (hd : c.toD mem = some dx) :
    (∀ s, dx = .v (.string s) → v = .string s) ∧ (dx = .v nilS → v = nilS) ∧ (∀ sz es, dx = .sl sz es → ∃ a cp, v = .slice a es.length cp) := by
  cases c with
  | d x =>
    simp only [C.toD, Option.some.injEq] at hd; subst hd
    have hc : Reads E.im w v x := hc
    refine ⟨fun s h => ?_, fun h => ?_, fun sz es h => ?_⟩
    · subst h; cases hc; rfl
    · subst h; cases hc; rfl
    · subst h
      cases hc with
      | @sl b o n c _ q _ us hs hb hn hc hm hw hl hr => exact ⟨_, c, by rw [hn]⟩
  | k u =>
    simp only [C.toD, Option.some.injEq] at hd; subst hd
    obtain ⟨rfl, _⟩ := hc
    exact ⟨fun s h => (by injection h), fun h => (by injection h), fun sz es h => (by cases h)⟩
  | row r =>
    have hm := hacc r (by simp [C.acc])
    simp only [C.toD] at hd
    obtain ⟨_, hv, _⟩ := hc
    split at hd
    · rename_i sz' x hmr
      injection hd with hd; subst hd
      obtain ⟨_, hrow⟩ := hS.ob r _ (hm.trans hmr)
      have hrow : RowRep E w sz' (E.ι r) x := hrow
      rw [← hv] at hrow
      rcases hrow with ⟨rfl, h⟩ | ⟨es, rfl, _, ⟨rfl, b, o, h, _⟩ | ⟨b, c, T, cur, h, _⟩⟩
      · exact ⟨fun s h => (by injection h with h; cases h), fun _ => h, fun sz es h => (by cases h)⟩
      · exact ⟨fun s h => (by cases h), fun h => (by cases h), fun sz es h' => by injection h' with _ h'; subst h'; exact ⟨_, _, h⟩⟩
      · exact ⟨fun s h => (by cases h), fun h => (by cases h), fun sz es h' => by injection h' with _ h'; subst h'; exact ⟨_, _, h⟩⟩
    · rename_i x hmr
      injection hd with hd; subst hd
      obtain ⟨_, hrow⟩ := hS.ob r _ (hm.trans hmr)
      have hrow : Reads E.im w (E.ι r) x := hrow
      rw [← hv] at hrow
      refine ⟨fun s h => ?_, fun h => ?_, fun sz es h => ?_⟩
      · subst h; cases hrow; rfl
      · subst h; cases hrow; rfl
      · subst h
        cases hrow with
        | @sl b o n c _ q _ us hs hb hn hc hm hw hl hr => exact ⟨_, c, by rw [hn]⟩
    · cases hd
  | _ => simp [C.toD] at hd
def D.lenT : TypeDesc → D → Option D
  | .string, .v (.string s) => some (i64 s.size)
  | .slice _, .v (.slice none 0 0) => some (i64 0)
  | .slice _, .sl _ es => some (i64 es.length)
  | _, _ => none
/-- The lesser and the greater one of two integers. -/
def D.min2 : D → D → Option D
  | .v (.int k a), .v (.int _ b) => some (.v (.int k (min a b)))
  | _, _ => none
def D.max2 : D → D → Option D
  | .v (.int k a), .v (.int _ b) => some (.v (.int k (max a b)))
  | _, _ => none
theorem run_call_builtin {P : Program} {o : Oper} {a : Act} {w w' : World} {b : Builtin} {args : Array Operand} {tys : Array TypeId} {v : Value} (ho : o.op = .call { callee := .builtin b, args := args, argTypes := tys })
    (h : (builtin b tys o.type (args.map fun | .const _ => true | _ => false) (args.map a.eval)).run P w = .ok (.value v) w') : (execOp a.eval o).run P w = .ok (.value v) w' := by
  unfold execOp
  simp only [ho, resolve, invoke, Sem.run_bind, Sem.run_pure, Result.andThen_ok]
  exact h
section
variable {P : Program} {o : Oper} {ρ : Operand → AV} {mem : Nat → Option Ob} {t t' e : TypeId} {x y s : Operand} {i : TypeInfo} {d : TypeDesc}
theorem len_ok (ho : o.op = .call { callee := .builtin .len, args := #[x], argTypes := #[t] }) (hd : P.underlying t = some d) {c : C} (hx : ρ x = .t (.one c)) {dx r : D} (hdx : c.toD mem = some dx) (hr : D.lenT d dx = some r) : OpOk P o ρ mem (.t (.one (.d r))) c.acc [] [] := by
  refine OpOk.pure c.acc fun w0 E mem' w a hS hacc hops => ?_
  have h1 := hops x (by simp [ho, Op.operands, Call.operands])
  rw [hx] at h1
  obtain ⟨p1, p2, p3⟩ := toD_len hS hacc h1 hdx
  unfold D.lenT at hr
  split at hr
  · rename_i s
    injection hr with hr; subst hr
    exact ⟨_, run_call_builtin ho (by simp [builtin, Builtin.len_, run_underlying hd, p1 s rfl, goInt]), .v rfl⟩
  · injection hr with hr; subst hr
    exact ⟨_, run_call_builtin ho (by simp [builtin, Builtin.len_, run_underlying hd, p2 rfl, nilS, goInt]), .v rfl⟩
  · injection hr with hr; subst hr
    obtain ⟨a', cp, hv⟩ := p3 _ _ rfl
    exact ⟨_, run_call_builtin ho (by simp [builtin, Builtin.len_, run_underlying hd, hv, goInt]), .v rfl⟩
  · cases hr
theorem lenArr_ok (ho : o.op = .call { callee := .builtin .len, args := #[x], argTypes := #[t] }) {n : Nat} (hd : P.underlying t = some (.array n e)) : OpOk P o ρ mem (.t (.one (.k (.int .i64 (n : Nat))))) [] [] [] := by
  refine OpOk.pure [] fun w0 E mem' w a hS hacc hops => ?_
  exact ⟨_, run_call_builtin ho (by simp [builtin, Builtin.len_, run_underlying hd, goInt]), rfl, rfl⟩
theorem min_ok {tys : Array TypeId} (ho : o.op = .call { callee := .builtin .min, args := #[x, y], argTypes := tys }) {dx dy r : D} (hx : (ρ x).dat = some dx) (hy : (ρ y).dat = some dy) (hr : D.min2 dx dy = some r) : OpOk P o ρ mem (.t (.one (.d r))) [] [] [] := by
  refine OpOk.pure [] fun w0 E mem' w a hS hacc hops => ?_
  unfold D.min2 at hr
  split at hr
  · rename_i k p k' q
    injection hr with hr; subst hr
    obtain ⟨e1, _⟩ := AV.dat_v hx (hops x (by simp [ho, Op.operands, Call.operands]))
    obtain ⟨e2, _⟩ := AV.dat_v hy (hops y (by simp [ho, Op.operands, Call.operands]))
    refine ⟨.int k (min p q), run_call_builtin ho ?_, .v rfl⟩
    simp [builtin, Builtin.min_, e1, e2, Builtin.min2]
    omega
  · cases hr
theorem max_ok {tys : Array TypeId} (ho : o.op = .call { callee := .builtin .max, args := #[x, y], argTypes := tys }) {dx dy r : D} (hx : (ρ x).dat = some dx) (hy : (ρ y).dat = some dy) (hr : D.max2 dx dy = some r) : OpOk P o ρ mem (.t (.one (.d r))) [] [] [] := by
  refine OpOk.pure [] fun w0 E mem' w a hS hacc hops => ?_
  unfold D.max2 at hr
  split at hr
  · rename_i k p k' q
    injection hr with hr; subst hr
    obtain ⟨e1, _⟩ := AV.dat_v hx (hops x (by simp [ho, Op.operands, Call.operands]))
    obtain ⟨e2, _⟩ := AV.dat_v hy (hops y (by simp [ho, Op.operands, Call.operands]))
    refine ⟨.int k (max p q), run_call_builtin ho ?_, .v rfl⟩
    simp [builtin, Builtin.max_, e1, e2, Builtin.max2]
    omega
  · cases hr
end

-- literals
def splice {α : Type} (cs : List α) (off : Nat) (vs : List α) : List α := cs.take off ++ vs ++ cs.drop (off + vs.length)
def fillL {α : Type} (place : Nat → Option (Nat × Nat)) (cells : List α) : List (Nat × List α) → Option (List α)
  | [] => some cells
  | (i, v) :: rest => match place i with
    | none => none
    | some (off, size) => bif Nat.beq v.length size && Nat.ble (off + v.length) cells.length then fillL place (splice cells off v) rest else none
theorem fold_splice (off : Nat) : ∀ (vs : List Value) (j : Nat) (cs : Array Value), off + j + vs.length ≤ cs.size →
    ((vs.zipIdx j).foldl (fun cs (q : Value × Nat) => cs.setIfInBounds (off + q.2) q.1) cs).toList = splice cs.toList (off + j) vs
  | [], j, cs, _ => by simp [splice]
  | v :: vs, j, cs, h => by
    simp only [List.length_cons] at h
    rw [List.zipIdx_cons, List.foldl_cons, fold_splice off vs (j + 1) _ (by simp; omega)]
    have e := list_seg_step cs.toList (off + j) v vs (by simp; omega)
    simpa [splice, Array.toList_setIfInBounds, Nat.add_assoc] using e
theorem fill_fillL (place : Nat → Option (Nat × Nat)) : ∀ (parts : List (Nat × Value)) (cells : Array Value) (r : List Value),
    fillL place cells.toList (parts.map fun q => (q.1, q.2.cells.toList)) = some r → Instr.fill place cells parts = some r.toArray
  | [], cells, r, h => by simp [fillL] at h; subst h; simp [Instr.fill]
  | (i, v) :: rest, cells, r, h => by
    simp only [List.map_cons, fillL] at h
    simp only [Instr.fill]
    cases hp : place i with
    | none => simp [hp] at h
    | some q =>
      obtain ⟨off, size⟩ := q
      simp only [hp] at h
      simp only
      cases hc : (Nat.beq v.cells.toList.length size && Nat.ble (off + v.cells.toList.length) cells.toList.length)
      · rw [hc] at h; cases h
      · rw [hc] at h
        simp only [cond_true] at h
        simp only [Bool.and_eq_true] at hc
        have c1 := Nat.eq_of_beq_eq_true hc.1
        have c2 := Nat.le_of_ble_eq_true hc.2
        simp only [Array.length_toList] at c1 c2
        have hcond : (decide (v.cells.size ≠ size) || decide (off + v.cells.size > cells.size)) = false := by simp; omega
        rw [hcond]
        simp only [Bool.false_eq_true, if_false]
        apply fill_fillL place rest
        rw [← h]
        congr 1
        rw [← Array.foldl_toList, Array.toList_zipIdx]
        exact fold_splice off v.cells.toList 0 cells (by simp; omega)
theorem All2.fillL {α β : Type} {R : α → β → Prop} (place : Nat → Option (Nat × Nat)) : ∀ {ps : List (Nat × List α)} {qs : List (Nat × List β)} {xs : List α} {ys : List β} {r : List α}, All2 R xs ys →
    All2 (fun p q => p.1 = q.1 ∧ All2 R p.2 q.2) ps qs → Go.Proofs.Ytjdemohgegldaaa.fillL place xs ps = some r → ∃ r', Go.Proofs.Ytjdemohgegldaaa.fillL place ys qs = some r' ∧ All2 R r r'
  | [], [], xs, ys, r, h, _, he => by simp only [Go.Proofs.Ytjdemohgegldaaa.fillL, Option.some.injEq] at he; subst he; exact ⟨ys, rfl, h⟩
  | (i, v) :: ps, (i', v') :: qs, xs, ys, r, h, k, he => by
    obtain ⟨⟨e1, k1⟩, k2⟩ := k
    simp only at e1 k1
    subst e1
    have l1 := k1.length
    have l2 := h.length
    simp only [Go.Proofs.Ytjdemohgegldaaa.fillL] at he ⊢
    cases hp : place i with
    | none => simp [hp] at he
    | some q =>
      obtain ⟨off, size⟩ := q
      simp only [hp] at he ⊢
      rw [← l1, ← l2]
      cases hc : (Nat.beq v.length size && Nat.ble (off + v.length) xs.length)
      · rw [hc] at he; cases he
      · rw [hc] at he
        simp only [cond_true] at he ⊢
        exact All2.fillL place (h.splice k1 off) k2 he
  | [], _ :: _, _, _, _, _, k, _ => k.elim
  | _ :: _, [], _, _, _, _, k, _ => k.elim
end Go.Proofs.Ytjdemohgegldaaa
