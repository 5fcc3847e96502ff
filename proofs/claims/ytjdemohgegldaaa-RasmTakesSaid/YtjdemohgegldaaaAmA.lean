/-
  Long arrays of the call's own: a block of cells that is told as a row, with a pointer to its first cell.
-/
import Derived.Test.YtjdemohgegldaaaAmG
namespace Go.Proofs.Ytjdemohgegldaaa
open Go.RowKit
set_option linter.unusedSimpArgs false
set_option linter.unusedVariables false

def kindB : IntKind → IntKind → Bool := fun a b => decide (a = b)
def valB : Value → Value → Bool
  | .int k n, .int k' m => decide (k = k') && decide (n = m)
  | .bool a, .bool b => a == b
  | _, _ => false
theorem valB_eq {a b : Value} (h : valB a b = true) : a = b := by
  unfold valB at h
  split at h
  · simp at h; rw [h.1, h.2]
  · simp at h; rw [h]
  · cases h
/-- As many cells of one value. -/
def zrow (len : Nat) (u : Value) : D := .sl 1 (List.replicate len (.v u))
def allV (u : Value) : List Value → Bool
  | [] => true
  | v :: l => valB u v && allV u l
theorem allV_eq {u : Value} : ∀ {l : List Value}, allV u l = true → l = List.replicate l.length u
  | [], _ => rfl
  | v :: l, h => by
    simp only [allV, Bool.and_eq_true] at h
    rw [List.length_cons, List.replicate_succ, ← allV_eq h.2, valB_eq h.1]
/-- An array so long that its cells are not told one by one. -/
def bigArr (P : Program) (t : TypeId) : Option (Nat × Value) := match P.underlying t with
  | some (.array len _) => bif Nat.ble 48 len && Nat.ble len 1000000 then
      match P.info? t with
      | some i => match i.zero with
        | some z => match z.cells.toList with
          | u :: us => bif scalar u && Nat.beq (us.length + 1) len && allV u us then some (len, u) else none
          | [] => none
        | none => none
      | none => none
    else none
  | _ => none
theorem bigArr_ok {P : Program} {t : TypeId} {len : Nat} {u : Value} (h : bigArr P t = some (len, u)) : ∃ i z, P.info? t = some i ∧ i.zero = some z ∧ z.cells.toList = List.replicate len u ∧ scalar u = true ∧ 0 < len ∧ len ≤ 1000000 := by
  unfold bigArr at h
  split at h
  · rename_i ln e hd
    cases hc : (Nat.ble 48 ln && Nat.ble ln 1000000)
    · rw [hc] at h; cases h
    · rw [hc] at h
      simp only [cond_true] at h
      split at h
      · rename_i i hi
        split at h
        · rename_i z hz
          split at h
          · rename_i v us hus
            cases hq : (scalar v && Nat.beq (us.length + 1) ln && allV v us)
            · rw [hq] at h; cases h
            · rw [hq] at h
              simp only [cond_true, Option.some.injEq, Prod.mk.injEq] at h
              obtain ⟨rfl, rfl⟩ := h
              simp only [Bool.and_eq_true] at hc hq
              have e1 := Nat.eq_of_beq_eq_true hq.1.2
              have e2 := Nat.le_of_ble_eq_true hc.1
              have e3 := Nat.le_of_ble_eq_true hc.2
              refine ⟨i, z, hi, hz, ?_, hq.1.1, by omega, e3⟩
              rw [hus, ← e1, List.replicate_succ, ← allV_eq hq.2]
          · cases h
        · cases h
      · cases h
  · cases h
section
variable {P : Program} {o : Oper} {ρ : Operand → AV} {mem : Nat → Option Ob}
theorem flat_rep (len : Nat) (u : Value) : flat (List.replicate len (D.v u)) = List.replicate len (D.v u) := by
  induction len with
  | zero => rfl
  | succ n ih => rw [List.replicate_succ]; simp only [flat, List.flatMap_cons, D.cells] at ih ⊢; rw [ih]; rfl
theorem rep_reads {ok : Nat → Prop} {w : World} {u : Value} (hu : scalar u = true) : ∀ len : Nat, All2 (Reads ok w) (List.replicate len u) (List.replicate len (D.v u))
  | 0 => trivial
  | n + 1 => ⟨.v hu, rep_reads hu n⟩
theorem allocArr_ok {t : TypeId} (ho : o.op = .alloc t) {i : TypeInfo} (hi : P.info? t = some i) {z : Value} (hz : i.zero = some z) {len : Nat} {u : Value} (hc : z.cells.toList = List.replicate len u) (hu : scalar u = true) (hl : 0 < len) (hm : len ≤ 1000000) (n : Nat) :
    OpOk P o ρ mem (.t (.one (.ep n (.v (.int .i64 (.ofNat 0))) 1 0))) [] [n] [(n, some (.row 1 (zrow len u)))] := by
  intro w0 E mem' w a K Q hS _ hn hops hK
  have hb := (Below.refl w.heap.size w).alloc (Nat.le_refl _) (.cells z.cells t)
  have hsz : z.cells.size = len := by rw [← Array.length_toList, hc, List.length_replicate]
  have hS' := hS.newRow n (hn n (by simp)) 1 (List.replicate len (.v u)) len z.cells t (fun x hx => by rw [List.eq_of_mem_replicate hx]; rfl) (by simp) (by simp only [maxLen]; omega) (by rw [hsz, Nat.mul_one]) (by
    rw [List.length_replicate, Nat.mul_one, hc, flat_rep, List.take_of_length_le (by rw [List.length_replicate]; exact Nat.le_refl _)]
    exact rep_reads hu len)
  rw [List.length_replicate] at hS'
  refine wp_of_run (v := .pointer (some ⟨w.heap.size, 0, none⟩)) (w' := w.alloc (.cells z.cells t)) ?_ ?_
  · simp [execOp, ho, Instr.alloc, newVar, newRow, zeroValue, typeInfo, hi, hz, go_sem]
  · exact hK _ _ _ (E.le_add n _ (hn n (by simp))) (fun r hr => hr.imp_right fun e => by simp [e]) (hS.stable hb) ⟨.inr rfl, w.heap.size, len, len, 0, .i64, upd_same _ _ _, rfl, Int.le_refl _, by omega, by simp⟩ hS'
theorem indexEp_ok {t : TypeId} {x y : Operand} (ho : o.op = .indexAddr t x y) {len : Nat} {e : TypeId} (hd : P.underlying t = some (.array len e)) {i : TypeInfo} (hi : P.info? e = some i) (hsz : i.size = 1) {r : Nat} {k0 : IntKind} {l ix : D} (hx : ρ x = .t (.one (.ep r (.v (.int k0 (.ofNat 0))) 1 0))) (hm : mem r = some (.row 1 l)) (hy : (ρ y).dat = some ix)
    (hb : D.inb 1 l ix) {z : Int} (hz : ∃ k, ix = .v (.int k z)) (hz1 : z < (len : Nat)) : OpOk P o ρ mem (.t (.one (.ep r ix 1 0))) [r] [] [] := by
  refine OpOk.pure [r] fun w0 E mem' w a hS hacc hops => ?_
  obtain ⟨es, k, m, rfl, rfl, h0, hlt⟩ := hb
  have hzm : m = z := by obtain ⟨k', e⟩ := hz; injection e with e; injection e
  subst hzm
  have h1 := hops x (by simp [ho, Op.operands])
  rw [hx] at h1
  obtain ⟨hbn, b0, n0, c0, m0, k1, hι0, he, _, _, hv⟩ := h1
  injection he with he
  injection he with _ he
  subst he
  obtain ⟨e2, _⟩ := AV.dat_v hy (hops y (by simp [ho, Op.operands]))
  obtain ⟨_, hrow⟩ := hS.ob r _ ((hacc r (by simp)).trans hm)
  rcases hrow with ⟨hx, _⟩ | ⟨es', hx, hw, ⟨rfl, _⟩ | ⟨b, c, T, cur, hι, k2, k3, k4, k5, k6, k7⟩⟩
  · cases hx
  · injection hx with hx1 hx2
    subst hx2
    simp at hlt; omega
  · injection hx with hx1 hx2
    subst hx2
    rw [hι0] at hι
    injection hι with q1 q2 q3
    injection q1 with q1
    injection q1 with q1
    subst q1
    rw [q2, q3] at hι0
    refine ⟨.pointer (some ⟨b0, m.toNat * 1 + 0, none⟩), ?_, hbn, b0, es.length, c, m, k, hι0, rfl, h0, hlt, rfl⟩
    simp [execOp, ho, hv, e2, Instr.indexAt, Instr.sureAddr, asIntOf, run_underlying hd, sizeOf, typeInfo, hi, hsz, addr_add, h0, hz1]
/-- A slice of so many elements, of one cell each. -/
def ArrL (len : Nat) (l : D) : Prop := ∃ es, l = .sl 1 es ∧ es.length = len
/-- An array of the call's own, or a part of it, as a slice: it stays as it is from now on. -/
theorem sliceEp_ok {t : TypeId} {x : Operand} {lo hi : Option Operand} (ho : o.op = .slice t x lo hi none) {len : Nat} {e : TypeId} (hd : P.underlying t = some (.array len e)) {i : TypeInfo} (hi' : P.info? e = some i) (hsz : i.size = 1) {r : Nat} {k0 : IntKind} {l s : D} {dl dh : Option D} (hx : ρ x = .t (.one (.ep r (.v (.int k0 (.ofNat 0))) 1 0))) (hm : mem r = some (.row 1 l)) (hl : ArrL len l)
    (h1 : optD ρ lo = some dl) (h2 : optD ρ hi = some dh) (hr : D.cutL 1 l dl dh none = some s) :
    OpOk P o ρ mem (.t (.one (.d s))) [r] [] [(r, some (.imm l))] := by
  intro w0 E mem' w a K Q hS hacc _ hops hK
  obtain ⟨es, rfl, hlen⟩ := hl
  have hv1 := hops x (by simp [ho, Op.operands])
  rw [hx] at hv1
  obtain ⟨hbn, b0, n0, c0, m0, k1, hι0, he, _, hm0, hv⟩ := hv1
  injection he with he
  injection he with _ he
  have he : m0 = 0 := he.symm
  subst he
  obtain ⟨hS', hle⟩ := hS.freeze ((hacc r (by simp)).trans hm)
  have hrd : Reads (E.frz r).im w (E.ι r) (.sl 1 es) := (hS'.ob r _ (upd_same _ _ _)).2
  rw [hι0] at hrd
  have hv' : a.eval x = .pointer (some ⟨b0, 0, none⟩) := by rw [hv]; rfl
  simp only [D.cutL] at hr
  split at hr
  rotate_left
  · cases hr
  rename_i lz hz mz hl1 hh1 hm1
  split at hr
  rotate_left
  · cases hr
  rename_i hc
  have c0' := hc.2.1
  have c1 := hc.2.2.1
  have c2 := hc.2.2.2.1
  injection hr with hr; subst hr
  have hm2 : mz = (es.length : Nat) := by simpa [optI] using hm1.symm
  subst hm2
  rw [hlen] at hh1 hm1 c2
  have hb := bounds_of (P := P) (ρ := ρ) (a := a) (E := E) (w := w) (lo := lo) (hi := hi) (mx := none) (fun z hz' => hops z (slice_ops ho hz')) h1 h2 (rfl : optD ρ none = some none) len len (Nat.le_refl _) hl1 hh1 hm1 c0' c1 c2 (Int.le_refl _) (by simp) false w
  simp only [Option.map_none, Option.isSome_none, Bool.false_eq_true, if_false] at hb
  have hnn : n0 = len := by
    cases hrd with
    | sl us hs hb hn hc hmx hw hl hr => exact hn.symm.trans hlen
  have hcc : len ≤ c0 := by
    cases hrd with
    | sl us hs hb hn hc hmx hw hl hr => omega
  refine wp_of_run (v := sliced (some ⟨b0, 0, none⟩) lz.toNat hz.toNat len 1) (w' := w) ?_ ?_
  · simp only [execOp, ho, hv', Instr.sliceAt, Option.map_none, Instr.sureAddr, Sem.run_bind, Sem.run_pure, run_underlying hd, Result.andThen_ok, sizeOf, typeInfo]
    rw [hb]
    simp only [Result.andThen_ok]
    simp [sizeOf, typeInfo, hi', hsz, sliced]
    split <;> rfl
  · refine hK (E.frz r) w _ hle (fun r hr => .inl hr) (Stable.refl _ _) ?_ hS'
    show Reads _ _ _ _
    have := reads_cut hrd (l := lz.toNat) (h' := hz.toNat) (m := len) (by omega) (by omega) (by omega) hcc
    rw [show (hz - lz).toNat = hz.toNat - lz.toNat by omega]
    exact this
theorem cut_all {len : Nat} {l : D} (h : ArrL len l) : D.cutL 1 l none none none = some l := by
  obtain ⟨es, rfl, _⟩ := h
  simp [D.cutL, optI]
end
end Go.Proofs.Ytjdemohgegldaaa
