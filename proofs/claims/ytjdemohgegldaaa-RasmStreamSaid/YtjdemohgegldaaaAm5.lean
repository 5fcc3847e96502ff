/-
  The small machine's operations on plain values, on addresses, on parts.
-/
import Derived.Test.YtjdemohgegldaaaAm4
namespace Go.Proofs.Ytjdemohgegldaaa
set_option linter.unusedSimpArgs false
set_option linter.unusedVariables false
open Go.RowKit

def AV.dat : AV → Option D
  | .t (.one (.d x)) => some x
  | .t (.one (.k v)) => some (.v v)
  | _ => none
theorem AV.dat_reads {E : Env} {w : World} {x : AV} {y : D} {v : Value} (h : x.dat = some y) (hr : AVRep E w x v) : Reads E.im w v y := by
  unfold AV.dat at h
  split at h
  · injection h with h; subst h; exact hr
  · injection h with h; subst h; obtain ⟨rfl, h⟩ := hr; exact .v h
  · cases h
theorem AV.dat_v {E : Env} {w : World} {x : AV} {y v : Value} (h : x.dat = some (.v y)) (hr : AVRep E w x v) : v = y ∧ scalar y = true := by
  have := AV.dat_reads h hr
  cases this with
  | v h => exact ⟨rfl, h⟩

def bitsI (op : BinOp) (k : IntKind) (x y : Int) : Int :=
  let a := BitVec.ofInt k.bits x
  let b := BitVec.ofInt k.bits y
  match op with
  | .and => k.wrap (a &&& b).toNat
  | .or => k.wrap (a ||| b).toNat
  | .xor => k.wrap (a ^^^ b).toNat
  | _ => k.wrap (a &&& ~~~b).toNat
def ibin (op : BinOp) (k : IntKind) (a b : Int) : Option Value :=
  match op with
  | .add => some (.int k (k.wrap (a + b)))
  | .sub => some (.int k (k.wrap (a - b)))
  | .mul => some (.int k (k.wrap (a * b)))
  | .quo => if b = 0 then none else some (.int k (k.wrap (a.tdiv b)))
  | .rem => if b = 0 then none else some (.int k (a.tmod b))
  | .and | .or | .xor | .andNot => some (.int k (bitsI op k a b))
  | .eql => some (.bool (a == b))
  | .neq => some (.bool (a != b))
  | .lss => some (.bool (decide (a < b)))
  | .leq => some (.bool (decide (a ≤ b)))
  | .gtr => some (.bool (decide (a > b)))
  | .geq => some (.bool (decide (a ≥ b)))
  | .shl | .shr => none
def sbin (op : BinOp) : Value → Value → Option Value
  | .int k a, .int k' b =>
    match op with
    | .shl => if b < 0 then none else some (.int k (k.wrap (a * 2 ^ min b.toNat k.bits)))
    | .shr => if b < 0 then none else some (.int k (a.fdiv (2 ^ min b.toNat k.bits)))
    | _ => if k = k' then ibin op k a b else none
  | .string a, .string b =>
    match op with
    | .add => if ((a.size + b.size : Nat) : Int) > IntKind.i64.max then none else some (.string (a ++ b))
    | .eql => some (.bool (a.toList == b.toList))
    | .neq => some (.bool !(a.toList == b.toList))
    | .lss => some (.bool (Op.bytesLess a.toList b.toList))
    | .leq => some (.bool (Op.bytesLess a.toList b.toList || a.toList == b.toList))
    | .gtr => some (.bool !(Op.bytesLess a.toList b.toList || a.toList == b.toList))
    | .geq => some (.bool !(Op.bytesLess a.toList b.toList))
    | _ => none
  | _, _ => none
theorem run_sbin {P : Program} {op : BinOp} {t : TypeId} {x y : Operand} {a b r : Value} (h : sbin op a b = some r) (w : World) :
    (do eqGuard op t x y a b; binOp op t a b : Sem Value).run P w = .ok r w := by
  unfold sbin at h
  split at h
  · rename_i k a k' b
    have hg : (eqGuard op t x y (.int k a) (.int k' b)).run P w = .ok () w := by cases op <;> simp [eqGuard]
    simp only [Sem.run_bind, hg, Result.andThen_ok]
    split at h
    · split at h
      · cases h
      · rename_i hb
        injection h with h; subst h
        simp [binOp, Op.shift, hb]
    · split at h
      · cases h
      · rename_i hb
        injection h with h; subst h
        simp [binOp, Op.shift, hb]
    · rename_i h1 h2
      split at h
      · rename_i hk
        subst hk
        cases op <;> simp only [ibin, reduceCtorEq] at h <;> first
          | (exact absurd rfl h1) | (exact absurd rfl h2)
          | (injection h with h; subst h; simp [binOp, Op.intArith, Op.intBits, Op.intCmp, bitsI]; done)
          | (split at h
             · cases h
             · rename_i hb; injection h with h; subst h; simp [binOp, Op.intDiv, hb])
      · cases h
  · rename_i a b
    have hg : (eqGuard op t x y (.string a) (.string b)).run P w = .ok () w := by cases op <;> simp [eqGuard]
    simp only [Sem.run_bind, hg, Result.andThen_ok]
    split at h
    · split at h
      · cases h
      · rename_i hb
        injection h with h; subst h
        simp only [binOp, Op.stringOp, if_neg hb, Sem.run_pure]
    all_goals first
      | (cases h; done)
      | (injection h with h; subst h; simp [binOp, Op.stringOp])
  · cases h
theorem sbin_scalar {op : BinOp} {a b r : Value} (h : sbin op a b = some r) : scalar r = true := by
  unfold sbin at h
  split at h
  · split at h
    · split at h
      · cases h
      · injection h with h; subst h; rfl
    · split at h
      · cases h
      · injection h with h; subst h; rfl
    · split at h
      · unfold ibin at h
        (repeat' split at h) <;> first | (injection h with h; subst h; rfl) | cases h
      · cases h
  · (repeat' split at h) <;> first | (injection h with h; subst h; rfl) | cases h
  · cases h
def D.bin (op : BinOp) : D → D → Option D
  | .v a, .v b => (sbin op a b).map .v
  | _, _ => none

section
variable {P : Program} {o : Oper} {ρ : Operand → AV} {mem : Nat → Option Ob} {t yt : TypeId} {x y : Operand} {i : TypeInfo} {d : TypeDesc}
theorem bin_ok {op : BinOp} (ho : o.op = .binOp op t x y yt) {dx dy r : D} (hx : (ρ x).dat = some dx) (hy : (ρ y).dat = some dy) (hr : D.bin op dx dy = some r) : OpOk P o ρ mem (.t (.one (.d r))) [] [] [] := by
  refine OpOk.pure [] fun w0 E mem' w a hS _ hops => ?_
  unfold D.bin at hr
  split at hr
  · rename_i a' b'
    obtain ⟨r', h, rfl⟩ := Option.map_eq_some_iff.1 hr
    obtain ⟨e1, _⟩ := AV.dat_v hx (hops x (by simp [ho, Op.operands]))
    obtain ⟨e2, _⟩ := AV.dat_v hy (hops y (by simp [ho, Op.operands]))
    refine ⟨r', ?_, .v (sbin_scalar h)⟩
    have := run_sbin (P := P) (t := t) (x := x) (y := y) h w
    simp only [execOp, ho, e1, e2]
    rw [Sem.run_bind, this]; rfl
  · cases hr
def sun (op : UnOp) : Value → Option Value
  | .int k n => match op with
    | .neg => some (.int k (k.wrap (0 - n)))
    | .xor => some (.int k (bitsI .xor k (if k.signed then -1 else k.max) n))
    | _ => none
  | .bool b => match op with
    | .not => some (.bool !b)
    | _ => none
  | _ => none
def D.un (op : UnOp) : D → Option D
  | .v a => (sun op a).map .v
  | _ => none
theorem un_ok {op : UnOp} (ho : o.op = .unOp op t x) {dx r : D} (hx : (ρ x).dat = some dx) (hr : D.un op dx = some r) : OpOk P o ρ mem (.t (.one (.d r))) [] [] [] := by
  refine OpOk.pure [] fun w0 E mem' w a hS _ hops => ?_
  unfold D.un at hr
  split at hr
  · rename_i a'
    obtain ⟨r', h, rfl⟩ := Option.map_eq_some_iff.1 hr
    obtain ⟨e1, _⟩ := AV.dat_v hx (hops x (by simp [ho, Op.operands]))
    unfold sun at h
    refine ⟨r', ?_, .v ?_⟩
    · simp only [execOp, ho, e1]
      (repeat' split at h) <;> first | (injection h with h; subst h; simp [Op.unary, Op.intArith, Op.intBits, bitsI, *]; done) | cases h
    · (repeat' split at h) <;> first | (injection h with h; subst h; rfl) | cases h
  · cases hr
/-- A conversion between integers, or of a text to a text. -/
def D.conv (k : IntKind) : D → Option D
  | .v (.int _ n) => some (.v (.int k (k.wrap n)))
  | _ => none
theorem conv_ok {s : TypeId} (ho : o.op = .convert s t x) {ds : TypeDesc} {k : IntKind} (hds : P.underlying s = some ds) (hd : P.underlying t = some (.int k)) {dx r : D} (hx : (ρ x).dat = some dx) (hr : D.conv k dx = some r) : OpOk P o ρ mem (.t (.one (.d r))) [] [] [] := by
  refine OpOk.pure [] fun w0 E mem' w a hS _ hops => ?_
  unfold D.conv at hr
  split at hr
  · rename_i k' n
    injection hr with hr; subst hr
    obtain ⟨e1, _⟩ := AV.dat_v hx (hops x (by simp [ho, Op.operands]))
    exact ⟨_, by simp [execOp, ho, e1, convert, run_underlying hds, run_underlying hd, Conv.intToInt], .v rfl⟩
  · cases hr
def D.isStr : D → Prop
  | .v (.string _) => True
  | _ => False
theorem convS_ok {s : TypeId} (ho : o.op = .convert s t x) {ds : TypeDesc} (hds : P.underlying s = some ds) (hd : P.underlying t = some .string) {dx : D} (hx : (ρ x).dat = some dx) (hr : dx.isStr) : OpOk P o ρ mem (.t (.one (.d dx))) [] [] [] := by
  refine OpOk.pure [] fun w0 E mem' w a hS _ hops => ?_
  unfold D.isStr at hr
  split at hr
  · rename_i s'
    obtain ⟨e1, _⟩ := AV.dat_v hx (hops x (by simp [ho, Op.operands]))
    refine ⟨_, by simp [execOp, ho, e1, convert, run_underlying hds, run_underlying hd], .v rfl⟩
  · exact hr.elim

/-- Equality of bools; of a slice, a pointer and nil. -/
def D.beq : D → D → Option D
  | .v (.bool a), .v (.bool b) => some (.v (.bool (a == b)))
  | _, _ => none
def D.bne : D → D → Option D
  | .v (.bool a), .v (.bool b) => some (.v (.bool (!(a == b))))
  | _, _ => none
theorem run_equalIn_bool (n : Nat) {t : TypeId} {a b : Bool} (hd : P.underlying t = some .bool) (w : World) : (Op.equalIn (n + 1) t (.bool a) (.bool b)).run P w = .ok (a == b) w := by
  simp only [Op.equalIn, Sem.run_bind, run_underlying hd, Result.andThen_ok, Sem.run_pure]
theorem run_beq {t : TypeId} {x y : Operand} {a b : Bool} (hd : P.underlying t = some .bool) (w : World) : (do eqGuard .eql t x y (.bool a) (.bool b); binOp .eql t (.bool a) (.bool b) : Sem Value).run P w = .ok (.bool (a == b)) w := by
  have h1 : (eqGuard .eql t x y (.bool a) (.bool b)).run P w = .ok () w := by simp [eqGuard]
  have h2 : binOp .eql t (.bool a) (.bool b) = (do pure (.bool (← Op.equal t (.bool a) (.bool b)))) := rfl
  have h3 : (Op.equal t (.bool a) (.bool b)).run P w = .ok (a == b) w := by
    exact run_equalIn_bool 9999 hd w
  rw [Sem.run_bind, h1, Result.andThen_ok, h2, Sem.run_bind, h3]; rfl
theorem run_bne {t : TypeId} {x y : Operand} {a b : Bool} (hd : P.underlying t = some .bool) (w : World) : (do eqGuard .neq t x y (.bool a) (.bool b); binOp .neq t (.bool a) (.bool b) : Sem Value).run P w = .ok (.bool (!(a == b))) w := by
  have h1 : (eqGuard .neq t x y (.bool a) (.bool b)).run P w = .ok () w := by simp [eqGuard]
  have h2 : binOp .neq t (.bool a) (.bool b) = (do pure (.bool (!(← Op.equal t (.bool a) (.bool b))))) := rfl
  have h3 : (Op.equal t (.bool a) (.bool b)).run P w = .ok (a == b) w := by
    exact run_equalIn_bool 9999 hd w
  rw [Sem.run_bind, h1, Result.andThen_ok, h2, Sem.run_bind, h3]; rfl
theorem beq_ok (ho : o.op = .binOp .eql t x y yt) (hd : P.underlying t = some .bool) {dx dy r : D} (hx : (ρ x).dat = some dx) (hy : (ρ y).dat = some dy) (hr : D.beq dx dy = some r) : OpOk P o ρ mem (.t (.one (.d r))) [] [] [] := by
  refine OpOk.pure [] fun w0 E mem' w a hS _ hops => ?_
  unfold D.beq at hr
  split at hr
  · injection hr with hr; subst hr
    obtain ⟨e1, _⟩ := AV.dat_v hx (hops x (by simp [ho, Op.operands]))
    obtain ⟨e2, _⟩ := AV.dat_v hy (hops y (by simp [ho, Op.operands]))
    refine ⟨_, ?_, .v rfl⟩
    simp only [execOp, ho, e1, e2]
    rw [Sem.run_bind, run_beq hd]; rfl
  · cases hr
theorem bne_ok (ho : o.op = .binOp .neq t x y yt) (hd : P.underlying t = some .bool) {dx dy r : D} (hx : (ρ x).dat = some dx) (hy : (ρ y).dat = some dy) (hr : D.bne dx dy = some r) : OpOk P o ρ mem (.t (.one (.d r))) [] [] [] := by
  refine OpOk.pure [] fun w0 E mem' w a hS _ hops => ?_
  unfold D.bne at hr
  split at hr
  · injection hr with hr; subst hr
    obtain ⟨e1, _⟩ := AV.dat_v hx (hops x (by simp [ho, Op.operands]))
    obtain ⟨e2, _⟩ := AV.dat_v hy (hops y (by simp [ho, Op.operands]))
    refine ⟨_, ?_, .v rfl⟩
    simp only [execOp, ho, e1, e2]
    rw [Sem.run_bind, run_bne hd]; rfl
  · cases hr

-- addresses
theorem fieldPtr_ok {f : Nat} (ho : o.op = .fieldAddr t x f) {fs : Array Field} (hd : P.underlying t = some (.struct fs)) {fd : Field} (hf : fs[f]? = some fd) {i : TypeInfo} (hi : P.info? fd.type = some i) (hz : 0 < i.size) {r off : Nat} (hp : ρ x = .t (.one (.ptr r off))) :
    OpOk P o ρ mem (.t (.one (.ptr r (off + fd.offset)))) [] [] [] := by
  refine OpOk.pure [] fun w0 E mem' w a hS _ hops => ?_
  have h1 := hops x (by simp [ho, Op.operands])
  rw [hp] at h1
  obtain ⟨hbn, b, hb, hv⟩ := h1
  refine ⟨.pointer (some ⟨b, off + fd.offset, none⟩), ?_, hbn, b, hb, rfl⟩
  simp [execOp, ho, hv, Instr.fieldAt, run_underlying hd, hf, Instr.sureAddr, fieldPlace, sizeOf, typeInfo, hi, Nat.pos_iff_ne_zero.1 hz, addr_add]
theorem fieldPd_ok {f : Nat} (ho : o.op = .fieldAddr t x f) {fs : Array Field} (hd : P.underlying t = some (.struct fs)) {fd : Field} (hf : fs[f]? = some fd) {i : TypeInfo} (hi : P.info? fd.type = some i) (hz : 0 < i.size) {y : D} {j : Nat} (hp : ρ x = .t (.one (.pd y j))) :
    OpOk P o ρ mem (.t (.one (.pd y (j + fd.offset)))) [] [] [] := by
  refine OpOk.pure [] fun w0 E mem' w a hS _ hops => ?_
  have h1 := hops x (by simp [ho, Op.operands])
  rw [hp] at h1
  obtain ⟨b, off, us, hv, h2, h3⟩ := h1
  refine ⟨.pointer (some ⟨b, off + (j + fd.offset), none⟩), ?_, b, off, us, rfl, h2, h3⟩
  simp [execOp, ho, hv, Instr.fieldAt, run_underlying hd, hf, Instr.sureAddr, fieldPlace, sizeOf, typeInfo, hi, Nat.pos_iff_ne_zero.1 hz, addr_add, Nat.add_assoc]
theorem fieldEp_ok {f : Nat} (ho : o.op = .fieldAddr t x f) {fs : Array Field} (hd : P.underlying t = some (.struct fs)) {fd : Field} (hf : fs[f]? = some fd) {i : TypeInfo} (hi : P.info? fd.type = some i) (hz : 0 < i.size) {r sz j : Nat} {ix : D} (hp : ρ x = .t (.one (.ep r ix sz j))) :
    OpOk P o ρ mem (.t (.one (.ep r ix sz (j + fd.offset)))) [] [] [] := by
  refine OpOk.pure [] fun w0 E mem' w a hS _ hops => ?_
  have h1 := hops x (by simp [ho, Op.operands])
  rw [hp] at h1
  obtain ⟨hbn, b, n, c, m, k, h2, h3, h4, h5, hv⟩ := h1
  refine ⟨.pointer (some ⟨b, m.toNat * sz + (j + fd.offset), none⟩), ?_, hbn, b, n, c, m, k, h2, h3, h4, h5, rfl⟩
  simp [execOp, ho, hv, Instr.fieldAt, run_underlying hd, hf, Instr.sureAddr, fieldPlace, sizeOf, typeInfo, hi, Nat.pos_iff_ne_zero.1 hz, addr_add, Nat.add_assoc]
theorem nilCheck_ok (ho : o.op = .nilCheck x) {c : C} (hp : ρ x = .t (.one c)) (hc : match c with | .ptr .. | .pd .. | .ep .. => True | _ => False) : OpOk P o ρ mem (.t (.one c)) [] [] [] := by
  refine OpOk.pure [] fun w0 E mem' w a hS _ hops => ?_
  have h1 := hops x (by simp [ho, Op.operands])
  rw [hp] at h1
  refine ⟨a.eval x, ?_, h1⟩
  have : ∃ q, a.eval x = .pointer (some q) := by
    cases c with
    | ptr r o => obtain ⟨_, b, _, h⟩ := h1; exact ⟨_, h⟩
    | pd y j => obtain ⟨b, o, us, h, _⟩ := h1; exact ⟨_, h⟩
    | ep r ix sz j => obtain ⟨_, b, n, c, m, k, _, _, _, _, h⟩ := h1; exact ⟨_, h⟩
    | _ => exact hc.elim
  obtain ⟨q, hq⟩ := this
  simp [execOp, ho, hq]
theorem flat_ne {es : List D} {sz : Nat} (hw : ∀ e ∈ es, e.cells.length = sz) {m : Nat} {e : D} (hm : es[m]? = some e) (hne : e.cells ≠ []) : flat es ≠ [] := by
  intro h
  have hk : 0 < sz := by rw [← hw e (List.mem_of_getElem? hm)]; exact List.length_pos_iff.2 hne
  have := flat_at hw hm hk
  rw [h] at this
  have h0 : e.cells[0]? = some (e.cells[0]'(List.length_pos_iff.2 hne)) := by simp
  rw [h0] at this; simp at this
/-- An index lies within a slice that is not nil. -/
def D.inb (sz : Nat) (l ix : D) : Prop := ∃ es k m, l = .sl sz es ∧ ix = .v (.int k m) ∧ 0 ≤ m ∧ m < es.length
def D.at_ : D → D → D
  | .sl _ es, .v (.int _ m) => es.getD m.toNat default
  | _, _ => default
theorem indexImm_ok (ho : o.op = .indexAddr t x y) {e : TypeId} (hd : P.underlying t = some (.slice e)) {i : TypeInfo} (hi : P.info? e = some i) {l ix : D} (hp : ρ x = .t (.one (.d l))) (hy : (ρ y).dat = some ix) (hb : D.inb i.size l ix) :
    OpOk P o ρ mem (.t (.one (.pd (l.at_ ix) 0))) [] [] [] := by
  refine OpOk.pure [] fun w0 E mem' w a hS _ hops => ?_
  obtain ⟨es, k, m, rfl, rfl, h0, hlt⟩ := hb
  have h1 := hops x (by simp [ho, Op.operands])
  rw [hp] at h1
  obtain ⟨e2, _⟩ := AV.dat_v hy (hops y (by simp [ho, Op.operands]))
  have h1 : Reads E.im w (a.eval x) (.sl i.size es) := h1
  generalize hv : a.eval x = v at h1
  cases h1 with
  | @sl b off n c _ q _ us hs hb hn hc hm hw hl hr =>
    obtain rfl := hs (by rintro rfl; simp at hlt; omega)
    have hm' : es[m.toNat]? = some (D.at_ (.sl i.size es) (.v (.int k m))) := by simp [D.at_, show m.toNat < es.length by omega]
    refine ⟨.pointer (some ⟨b, off + m.toNat * i.size, none⟩), ?_, b, off + m.toNat * i.size, fun q => us (m.toNat * i.size + q), rfl, fun hne => hb (flat_ne hw hm' hne), fun q d hq => ?_⟩
    · have hlt' : m < (n : Int) := by omega
      simp [execOp, ho, hv, e2, Instr.indexAt, asIntOf, run_underlying hd, sizeOf, typeInfo, hi, h0, hlt', addr_add]
    · have hw' := hw _ (List.mem_of_getElem? hm')
      have hq' : q < i.size := by have := (List.getElem?_eq_some_iff.1 hq).1; omega
      have hf := (flat_at hw hm' hq').trans hq
      exact ⟨by rw [Nat.add_assoc]; exact hl _ d hf, hr _ d hf⟩
theorem indexRow_ok (ho : o.op = .indexAddr t x y) {e : TypeId} (hd : P.underlying t = some (.slice e)) {i : TypeInfo} (hi : P.info? e = some i) {r : Nat} {l ix : D} (hp : ρ x = .t (.one (.row r))) (hm : mem r = some (.row i.size l)) (hy : (ρ y).dat = some ix) (hb : D.inb i.size l ix) :
    OpOk P o ρ mem (.t (.one (.ep r ix i.size 0))) [r] [] [] := by
  refine OpOk.pure [r] fun w0 E mem' w a hS hacc hops => ?_
  obtain ⟨es, k, m, rfl, rfl, h0, hlt⟩ := hb
  have h1 := hops x (by simp [ho, Op.operands])
  rw [hp] at h1
  obtain ⟨hbn, hv, _⟩ := h1
  obtain ⟨e2, _⟩ := AV.dat_v hy (hops y (by simp [ho, Op.operands]))
  obtain ⟨_, hrow⟩ := hS.ob r _ ((hacc r (by simp)).trans hm)
  rcases hrow with ⟨hx, _⟩ | ⟨es', hx, hw, ⟨rfl, _⟩ | ⟨b, c, T, cur, hι, k2, k3, k4, k5, k6, k7⟩⟩
  · cases hx
  · injection hx with hx1 hx2
    subst hx2
    simp at hlt; omega
  · injection hx with hx1 hx2
    subst hx2
    rw [hι] at hv
    refine ⟨.pointer (some ⟨b, m.toNat * i.size + 0, none⟩), ?_, hbn, b, es.length, c, m, k, hι, rfl, h0, hlt, rfl⟩
    simp [execOp, ho, hv, e2, Instr.indexAt, asIntOf, run_underlying hd, sizeOf, typeInfo, hi, h0, hlt, addr_add]
theorem indexArr_ok (ho : o.op = .indexAddr t x y) {n : Nat} {e : TypeId} (hd : P.underlying t = some (.array n e)) {i : TypeInfo} (hi : P.info? e = some i) {r off : Nat} (hp : ρ x = .t (.one (.ptr r off))) {k : IntKind} {m : Nat} (hy : ρ y = .t (.one (.k (.int k (m : Nat))))) (hb : m < n) :
    OpOk P o ρ mem (.t (.one (.ptr r (off + m * i.size)))) [] [] [] := by
  refine OpOk.pure [] fun w0 E mem' w a hS _ hops => ?_
  have h1 := hops x (by simp [ho, Op.operands])
  rw [hp] at h1
  obtain ⟨hbn, b, hb', hv⟩ := h1
  have h2 := hops y (by simp [ho, Op.operands])
  rw [hy] at h2
  have e2 : a.eval y = .int k (m : Nat) := h2.1
  have h0 : (0 : Int) ≤ (m : Nat) := by omega
  have h3 : ((m : Nat) : Int) < (n : Nat) := by omega
  refine ⟨.pointer (some ⟨b, off + m * i.size, none⟩), ?_, hbn, b, hb', rfl⟩
  simp [execOp, ho, hv, e2, Instr.indexAt, asIntOf, run_underlying hd, sizeOf, typeInfo, hi, hb, addr_add, Instr.sureAddr]
def D.sinb (s ix : D) : Prop := ∃ b k m, s = .v (.string b) ∧ ix = .v (.int k m) ∧ 0 ≤ m ∧ m < b.size
def D.byteAt : D → D → D
  | .v (.string s), .v (.int _ m) => .v (.int .u8 ((s.data.getD m.toNat 0).toNat : Nat))
  | _, _ => default
theorem indexStr_ok (ho : o.op = .index t x y) (hd : P.underlying t = some .string) {s ix : D} (hx : (ρ x).dat = some s) (hy : (ρ y).dat = some ix) (hb : D.sinb s ix) :
    OpOk P o ρ mem (.t (.one (.d (s.byteAt ix)))) [] [] [] := by
  refine OpOk.pure [] fun w0 E mem' w a hS _ hops => ?_
  obtain ⟨b, k, m, rfl, rfl, h0, hlt⟩ := hb
  obtain ⟨e1, _⟩ := AV.dat_v hx (hops x (by simp [ho, Op.operands]))
  obtain ⟨e2, _⟩ := AV.dat_v hy (hops y (by simp [ho, Op.operands]))
  have hlt' : m.toNat < b.size := by omega
  have hg : b[m.toNat]? = some b[m.toNat] := by simp [hlt']
  refine ⟨.int .u8 (b[m.toNat].toNat : Nat), ?_, ?_⟩
  · simp only [execOp, ho, e1, e2, Instr.index, asIntOf]
    simp [run_underlying hd, h0, hg]
  · have : (b.data.getD m.toNat 0) = b[m.toNat] := by
      have hs : m.toNat < b.data.size := hlt'
      simp [Array.getD, ByteArray.getElem_eq_getElem_data, hlt']
    show Reads E.im w _ (.v (.int .u8 ((b.data.getD m.toNat 0).toNat : Nat)))
    rw [this]
    exact .v rfl
theorem extract_ok {ix : Nat} (ho : o.op = .extract x ix) {xs : List T} (hx : ρ x = .tup xs) {y : T} (hy : xs[ix]? = some y) : OpOk P o ρ mem (.t y) [] [] [] := by
  refine OpOk.pure [] fun w0 E mem' w a hS _ hops => ?_
  have h1 := hops x (by simp [ho, Op.operands])
  rw [hx] at h1
  obtain ⟨vs, hv, hall⟩ := h1
  obtain ⟨u, hu, hr⟩ := hall.get hy
  exact ⟨u, by simp [execOp, ho, hv, Instr.extract, hu], hr⟩
theorem field_ok {f : Nat} (ho : o.op = .field t x f) {fs : Array Field} (hd : P.underlying t = some (.struct fs)) {fd : Field} (hf : fs[f]? = some fd) {i : TypeInfo} (hi : P.info? fd.type = some i) {d : TypeDesc} (hfd : P.underlying fd.type = some d) {cs : List C} (hx : ρ x = .t (.agg cs))
    (hl : fd.offset + i.size ≤ cs.length) (hz : 0 < i.size) : OpOk P o ρ mem (bif aggD d then .t (.agg ((cs.drop fd.offset).take i.size)) else .t (.one (cs.getD fd.offset .bot))) [] [] [] := by
  refine OpOk.pure [] fun w0 E mem' w a hS _ hops => ?_
  have h1 := hops x (by simp [ho, Op.operands])
  rw [hx] at h1
  obtain ⟨vs, hv, hall, hone⟩ := h1
  have hlen := hall.length
  cases hag : aggD d
  · obtain ⟨c, hc⟩ : ∃ c, cs[fd.offset]? = some c := ⟨_, List.getElem?_eq_getElem (by omega)⟩
    obtain ⟨u, hu, hr⟩ := hall.get hc
    refine ⟨u, ?_, ?_⟩
    · simp [execOp, ho, hv, Instr.field, run_underlying hd, hf, asAgg, part, run_isAgg' hfd, hag, hu]
    · simp only [cond_false]
      rw [show cs.getD fd.offset .bot = c by simp [List.getD, hc]]
      exact hr
  · refine ⟨.agg (vs.toArray.extract fd.offset (fd.offset + i.size)), ?_, (vs.drop fd.offset).take i.size, ?_, (hall.drop _).take _, fun u hu => hone u (List.mem_of_mem_drop (List.mem_of_mem_take hu))⟩
    · simp [execOp, ho, hv, Instr.field, run_underlying hd, hf, asAgg, part, run_isAgg' hfd, hag, sizeOf, typeInfo, hi]
    · simp
end
end Go.Proofs.Ytjdemohgegldaaa
