/-
  The small machine's operations: structs compared; nil compared; makes; cuts; texts and bytes; elements of a row of the call's own.
-/
import Derived.Test.YtjdemohgegldaaaAm8
namespace Go.Proofs.Ytjdemohgegldaaa
set_option linter.unusedSimpArgs false
set_option linter.unusedVariables false
open Go.RowKit

inductive EqK where
  | i | b | s
deriving DecidableEq
def eqK : EqK → D → D → Option Bool
  | .i, .v (.int k a), .v (.int k' b) => if k = k' then some (a == b) else none
  | .b, .v (.bool a), .v (.bool b) => some (a == b)
  | .s, .v (.string a), .v (.string b) => some (a.toList == b.toList)
  | _, _, _ => none
def eqs : List EqK → List D → List D → Option Bool
  | [], [], [] => some true
  | k :: ks, x :: xs, y :: ys => match eqK k x y, eqs ks xs ys with
    | some p, some q => some (p && q)
    | _, _ => none
  | _, _, _ => none
def kindOf : TypeDesc → Option EqK
  | .int _ => some .i
  | .bool => some .b
  | .string => some .s
  | _ => none
/-- The fields' kinds, where each field has one cell, one behind the other. -/
def flatKinds (P : Program) : Nat → List Field → Option (List EqK)
  | _, [] => some []
  | j, f :: fs => bif Nat.beq f.offset j && !(f.name == "_") then
      match (P.underlying f.type).bind kindOf, flatKinds P (j + 1) fs with
      | some k, some ks => some (k :: ks)
      | _, _ => none
    else none
section
variable {P : Program}
theorem run_eqK {t : TypeId} {d : TypeDesc} {k : EqK} (hd : P.underlying t = some d) (hk : kindOf d = some k) {x y : D} {u v : Value} {r : Bool} (h : eqK k x y = some r) {ok : Nat → Prop} {w : World} (hx : Reads ok w u x) (hy : Reads ok w v y) (n : Nat) :
    (Op.equalIn (n + 1) t u v).run P w = .ok r w := by
  unfold eqK at h
  split at h
  · split at h
    · rename_i hkk
      subst hkk
      injection h with h; subst h
      cases hx; cases hy
      cases d <;> simp [kindOf] at hk
      exact run_equalIn_int w n t _ _ _ _ hd
    · cases h
  · injection h with h; subst h
    cases hx; cases hy
    cases d <;> simp [kindOf] at hk
    exact run_equalIn_bool' w n t _ _ hd
  · injection h with h; subst h
    cases hx; cases hy
    cases d <;> simp [kindOf] at hk
    exact run_equalIn_string w n t _ _ hd
  · cases h
theorem run_eqs {n : Nat} {ok : Nat → Prop} {w : World} {us vs : Array Value} : ∀ (fs : List Field) (j : Nat) (ks : List EqK) (xs ys : List D) (r : Bool), flatKinds P j fs = some ks → eqs ks xs ys = some r →
    All2 (Reads ok w) (us.toList.drop j) xs → All2 (Reads ok w) (vs.toList.drop j) ys → (Op.eqFields (n + 1) us vs fs).run P w = .ok r w
  | [], j, ks, xs, ys, r, h1, h2, _, _ => by
    simp [flatKinds] at h1; subst h1
    cases xs <;> cases ys <;> simp [eqs] at h2
    subst h2; simp [Op.eqFields]
  | f :: fs, j, ks, xs, ys, r, h1, h2, hx, hy => by
    simp only [flatKinds] at h1
    cases hc : (Nat.beq f.offset j && !(f.name == "_"))
    · rw [hc] at h1; cases h1
    · rw [hc] at h1
      simp only [cond_true] at h1
      simp only [Bool.and_eq_true, Bool.not_eq_true', beq_eq_false_iff_ne] at hc
      obtain ⟨c1, c2⟩ := hc
      have c1 := Nat.eq_of_beq_eq_true c1
      split at h1
      · rename_i k ks' hk hks
        injection h1 with h1; subst h1
        cases hd : P.underlying f.type with
        | none => simp [hd] at hk
        | some d =>
          simp only [hd, Option.bind_some] at hk
          cases xs with
          | nil => cases ys <;> simp [eqs] at h2
          | cons x xs =>
            cases ys with
            | nil => simp [eqs] at h2
            | cons y ys =>
              simp only [eqs] at h2
              split at h2
              · rename_i p q hp hq
                injection h2 with h2; subst h2
                obtain ⟨u, hu⟩ : ∃ u, us.toList[j]? = some u := by
                  cases hd2 : us.toList.drop j with
                  | nil => rw [hd2] at hx; exact hx.elim
                  | cons u r => exact ⟨u, by rw [← List.head?_drop, hd2]; rfl⟩
                obtain ⟨v, hv⟩ : ∃ v, vs.toList[j]? = some v := by
                  cases hd2 : vs.toList.drop j with
                  | nil => rw [hd2] at hy; exact hy.elim
                  | cons u r => exact ⟨u, by rw [← List.head?_drop, hd2]; rfl⟩
                have eu : us.toList.drop j = u :: us.toList.drop (j + 1) := by rw [List.drop_eq_getElem_cons (List.getElem?_eq_some_iff.1 hu).1, (List.getElem?_eq_some_iff.1 hu).2]
                have ev : vs.toList.drop j = v :: vs.toList.drop (j + 1) := by rw [List.drop_eq_getElem_cons (List.getElem?_eq_some_iff.1 hv).1, (List.getElem?_eq_some_iff.1 hv).2]
                rw [eu] at hx; rw [ev] at hy
                have ih := run_eqs (n := n) fs (j + 1) ks' xs ys q hks hq hx.2 hy.2
                have h3 := run_eqK hd hk hp hx.1 hy.1 n
                have hag : aggD d = false := by cases d <;> first | rfl | simp [kindOf] at hk
                have pu : (part f.type us f.offset).run P w = .ok u w := by
                  have : us[j]? = some u := by simpa using hu
                  simp [part, run_isAgg' hd, hag, c1, this]
                have pv : (part f.type vs f.offset).run P w = .ok v w := by
                  have : vs[j]? = some v := by simpa using hv
                  simp [part, run_isAgg' hd, hag, c1, this]
                simp only [Op.eqFields, if_pos c2, Sem.run_bind, pu, pv, Result.andThen_ok, h3, Sem.run_ite, ih]
                cases p <;> simp
              · cases h2
      · cases h1
end
section
variable {P : Program} {o : Oper} {ρ : Operand → AV} {mem : Nat → Option Ob} {t t' e yt : TypeId} {x y s : Operand} {i : TypeInfo} {d : TypeDesc}
theorem eqStruct_ok {ng : Bool} (ho : o.op = .binOp (bif ng then .neq else .eql) t x y yt) {fs : Array Field} (hd : P.underlying t = some (.struct fs)) (hp : P.stoodInHeld t = false) (hm : P.eqGuardType P.depth t = false) {ks : List EqK} (hks : flatKinds P 0 fs.toList = some ks)
    {cs ds : List C} (hx : ρ x = .t (.agg cs)) (hy : ρ y = .t (.agg ds)) {xs ys : List D} (hxs : datsC cs = some xs) (hys : datsC ds = some ys) {r : Bool} (hr : eqs ks xs ys = some r) : OpOk P o ρ mem (.t (.one (.d (.v (.bool (bif ng then !r else r)))))) [] [] [] := by
  refine OpOk.pure [] fun w0 E mem' w a hS _ hops => ?_
  have h1 := hops x (by simp [ho, Op.operands])
  have h2 := hops y (by simp [ho, Op.operands])
  rw [hx] at h1; rw [hy] at h2
  obtain ⟨us, hu, hu2, _⟩ := h1
  obtain ⟨vs, hv, hv2, _⟩ := h2
  have hfs : P.fieldsOf t = fs := by simp [Program.fieldsOf, hd]
  have heq : (Op.equalIn 10000 t (.agg us.toArray) (.agg vs.toArray)).run P w = .ok r w := by
    rw [run_equalIn_struct w 9999 t _ _ (by rw [hfs]; exact hd) hp, hfs]
    exact run_eqs (n := 9998) fs.toList 0 ks xs ys r hks hr (by simpa using datsC_reads hxs hu2) (by simpa using datsC_reads hys hv2)
  have hg : (eqGuard (bif ng then .neq else .eql) t x y (.agg us.toArray) (.agg vs.toArray)).run P w = .ok () w := run_eqGuard_agg w _ t x y _ _ hm
  refine ⟨.bool (bif ng then !r else r), ?_, .v rfl⟩
  simp only [execOp, ho, hu, hv]
  rw [Sem.run_bind, Sem.run_bind, hg, Result.andThen_ok]
  cases ng
  · simp only [cond_false]
    rw [run_eql_struct, heq]; rfl
  · simp only [cond_true]
    rw [run_neq_struct, heq]; rfl
/-- A slice held against nil. -/
def D.isNil : D → Option Bool
  | .v (.slice none 0 0) => some true
  | .sl _ _ => some false
  | _ => none
theorem run_equal_slice_nil {t : TypeId} (hd : P.underlying t = some (.slice e)) (a : Option Addr) (n c : Nat) (w : World) (nd : Nat) : (Op.equalIn (nd + 1) t (.slice a n c) (.slice none 0 0)).run P w = .ok a.isNone w := by
  cases a <;> simp [Op.equalIn, run_underlying hd]
theorem eqNil_ok {ng : Bool} (ho : o.op = .binOp (bif ng then .neq else .eql) t x y yt) (hd : P.underlying t = some (.slice e)) {c : C} (hx : ρ x = .t (.one c)) (hy : ρ y = .t (.one (.k nilS))) {dx : D} (hdx : c.toD mem = some dx) {r : Bool} (hr : dx.isNil = some r) :
    OpOk P o ρ mem (.t (.one (.d (.v (.bool (bif ng then !r else r)))))) c.acc [] [] := by
  refine OpOk.pure c.acc fun w0 E mem' w a hS hacc hops => ?_
  have h1 := hops x (by simp [ho, Op.operands])
  have h2 := hops y (by simp [ho, Op.operands])
  rw [hx] at h1; rw [hy] at h2
  have h2 : a.eval y = .slice none 0 0 := h2.1
  have hv : ∃ ad n cp, a.eval x = .slice ad n cp ∧ ad.isNone = r := by
    unfold D.isNil at hr
    split at hr
    · injection hr with hr; subst hr
      have := (toD_len hS hacc h1 hdx).2.1 rfl
      exact ⟨none, 0, 0, this, rfl⟩
    · injection hr with hr; subst hr
      rename_i sz es
      -- a slice that is not nil leads somewhere
      have : ∃ ad n cp, a.eval x = .slice (some ad) n cp := by
        cases c with
        | d z =>
          simp only [C.toD, Option.some.injEq] at hdx; subst hdx
          have h1 : Reads E.im w (a.eval x) (.sl sz es) := h1
          generalize a.eval x = v at h1
          cases h1 with
          | @sl b o n c _ q _ us hs hb hn hc hm hw hl hr => exact ⟨_, _, _, rfl⟩
        | k u => simp only [C.toD, Option.some.injEq] at hdx; cases hdx
        | row r =>
          have hm := hacc r (by simp [C.acc])
          simp only [C.toD] at hdx
          obtain ⟨_, hv, _⟩ := h1
          split at hdx
          · rename_i sz' x' hmr
            injection hdx with hdx; subst hdx
            obtain ⟨_, hrow⟩ := hS.ob r _ (hm.trans hmr)
            rcases hrow with ⟨h, _⟩ | ⟨es', _, _, ⟨_, b, o, h, _⟩ | ⟨b, c, T, cur, h, _⟩⟩
            · cases h
            · rw [hv, h]; exact ⟨_, _, _, rfl⟩
            · rw [hv, h]; exact ⟨_, _, _, rfl⟩
          · rename_i x' hmr
            injection hdx with hdx; subst hdx
            obtain ⟨_, hrow⟩ := hS.ob r _ (hm.trans hmr)
            have hrow : Reads E.im w (E.ι r) (.sl sz es) := hrow
            rw [hv]
            generalize E.ι r = v at hrow
            cases hrow with
            | @sl b o n c _ q _ us hs hb hn hc hm hw hl hr => exact ⟨_, _, _, rfl⟩
          · cases hdx
        | _ => simp [C.toD] at hdx
      obtain ⟨ad, n, cp, h⟩ := this
      exact ⟨some ad, n, cp, h, rfl⟩
    · cases hr
  obtain ⟨ad, n, cp, hv, rfl⟩ := hv
  refine ⟨.bool (bif ng then !ad.isNone else ad.isNone), ?_, .v rfl⟩
  have he : (Op.equal t (.slice ad n cp) (.slice none 0 0)).run P w = .ok ad.isNone w := run_equal_slice_nil hd ad n cp w 9999
  have hg : ∀ op, (eqGuard op t x y (.slice ad n cp) (.slice none 0 0)).run P w = .ok () w := fun op => by cases op <;> simp [eqGuard]
  simp only [execOp, ho, hv, h2]
  rw [Sem.run_bind, Sem.run_bind, hg, Result.andThen_ok]
  cases ng
  · have : binOp .eql t (.slice ad n cp) (.slice none 0 0) = (do pure (.bool (← Op.equal t (.slice ad n cp) (.slice none 0 0)))) := rfl
    simp only [cond_false]
    rw [this, Sem.run_bind, he]; rfl
  · have : binOp .neq t (.slice ad n cp) (.slice none 0 0) = (do pure (.bool (!(← Op.equal t (.slice ad n cp) (.slice none 0 0))))) := rfl
    simp only [cond_true]
    rw [this, Sem.run_bind, he]; rfl
end
end Go.Proofs.Ytjdemohgegldaaa
