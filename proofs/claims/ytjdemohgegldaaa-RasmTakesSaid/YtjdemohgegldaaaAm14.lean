/-
  The small machine: what is reckoned of a region.
-/
import Derived.Test.YtjdemohgegldaaaAm13
namespace Go.Proofs.Ytjdemohgegldaaa
set_option linter.unusedSimpArgs false
set_option linter.unusedVariables false
open Go.RowKit

/-- Values are taken as they are, not as they are reckoned: for the kernel's sake. -/
def forceM (n : Nat) (K : Nat → Prop) : Prop := match n with
  | 0 => K 0
  | m + 1 => K (m + 1)
theorem forceM_eq (n : Nat) (K : Nat → Prop) : forceM n K = K n := by cases n <;> rfl
def forceC (c : C) (K : C → Prop) : Prop := match c with
  | .d x => K (.d x)
  | .k v => K (.k v)
  | .ptr r o => forceM r fun r => forceM o fun o => K (.ptr r o)
  | .pd x j => forceM j fun j => K (.pd x j)
  | .ep r i sz j => forceM r fun r => forceM sz fun sz => forceM j fun j => K (.ep r i sz j)
  | .row r => forceM r fun r => K (.row r)
  | .sub r sz lo hi => forceM r fun r => forceM sz fun sz => K (.sub r sz lo hi)
  | .bot => K .bot
theorem forceC_eq (c : C) (K : C → Prop) : forceC c K = K c := by cases c <;> simp only [forceC, forceM_eq]
def forceCs : List C → (List C → Prop) → Prop
  | [], K => K []
  | c :: cs, K => forceC c fun c => forceCs cs fun cs => K (c :: cs)
theorem forceCs_eq : ∀ (cs : List C) (K : List C → Prop), forceCs cs K = K cs
  | [], K => rfl
  | c :: cs, K => by simp only [forceCs, forceC_eq, forceCs_eq cs]
def forceT (x : Go.Proofs.Ytjdemohgegldaaa.T) (K : Go.Proofs.Ytjdemohgegldaaa.T → Prop) : Prop := match x with
  | .one c => forceC c fun c => K (.one c)
  | .agg cs => forceCs cs fun cs => K (.agg cs)
theorem forceT_eq (x : Go.Proofs.Ytjdemohgegldaaa.T) (K : Go.Proofs.Ytjdemohgegldaaa.T → Prop) : forceT x K = K x := by cases x <;> simp only [forceT, forceC_eq, forceCs_eq]
def forceTs : List Go.Proofs.Ytjdemohgegldaaa.T → (List Go.Proofs.Ytjdemohgegldaaa.T → Prop) → Prop
  | [], K => K []
  | c :: cs, K => forceT c fun c => forceTs cs fun cs => K (c :: cs)
theorem forceTs_eq : ∀ (cs : List Go.Proofs.Ytjdemohgegldaaa.T) (K : List Go.Proofs.Ytjdemohgegldaaa.T → Prop), forceTs cs K = K cs
  | [], K => rfl
  | c :: cs, K => by simp only [forceTs, forceT_eq, forceTs_eq cs]
def forceAV (x : AV) (K : AV → Prop) : Prop := match x with
  | .t x => forceT x fun x => K (.t x)
  | .tup xs => forceTs xs fun xs => K (.tup xs)
theorem forceAV_eq (x : AV) (K : AV → Prop) : forceAV x K = K x := by cases x <;> simp only [forceAV, forceT_eq, forceTs_eq]
def forceOb (o : Ob) (K : Ob → Prop) : Prop := match o with
  | .box cs => forceCs cs fun cs => K (.box cs)
  | .row sz x => forceM sz fun sz => K (.row sz x)
  | .imm x => K (.imm x)
theorem forceOb_eq (o : Ob) (K : Ob → Prop) : forceOb o K = K o := by cases o <;> simp only [forceOb, forceM_eq, forceCs_eq]
def forceWr : List (Nat × Option Ob) → (List (Nat × Option Ob) → Prop) → Prop
  | [], K => K []
  | (q, none) :: l, K => forceM q fun q => forceWr l fun l => K ((q, none) :: l)
  | (q, some o) :: l, K => forceM q fun q => forceOb o fun o => forceWr l fun l => K ((q, some o) :: l)
theorem forceWr_eq : ∀ (l : List (Nat × Option Ob)) (K : List (Nat × Option Ob) → Prop), forceWr l K = K l
  | [], K => rfl
  | (q, none) :: l, K => by simp only [forceWr, forceM_eq, forceWr_eq l]
  | (q, some o) :: l, K => by simp only [forceWr, forceM_eq, forceOb_eq, forceWr_eq l]
def forceSl : List (Nat × AV) → (List (Nat × AV) → Prop) → Prop
  | [], K => K []
  | (q, x) :: l, K => forceM q fun q => forceAV x fun x => forceSl l fun l => K ((q, x) :: l)
theorem forceSl_eq : ∀ (l : List (Nat × AV)) (K : List (Nat × AV) → Prop), forceSl l K = K l
  | [], K => rfl
  | (q, x) :: l, K => by simp only [forceSl, forceM_eq, forceAV_eq, forceSl_eq l]
def forceMm : List (Nat × Ob) → (List (Nat × Ob) → Prop) → Prop
  | [], K => K []
  | (q, x) :: l, K => forceM q fun q => forceOb x fun x => forceMm l fun l => K ((q, x) :: l)
theorem forceMm_eq : ∀ (l : List (Nat × Ob)) (K : List (Nat × Ob) → Prop), forceMm l K = K l
  | [], K => rfl
  | (q, x) :: l, K => by simp only [forceMm, forceM_eq, forceOb_eq, forceMm_eq l]
def xopF (P : Program) (o : Oper) (ρ : Operand → AV) (mem : Nat → Option Ob) (n : Nat) (K : KX) : Prop :=
  xop P o ρ mem n fun av acc m wr => forceAV av fun av => forceM m fun m => forceWr wr fun wr => K av acc m wr
theorem xopF_eq {P : Program} {o : Oper} {ρ : Operand → AV} {mem : Nat → Option Ob} {n : Nat} {K : KX} : xopF P o ρ mem n K = xop P o ρ mem n K := by
  unfold xopF
  congr 1
  funext av acc m wr
  rw [forceAV_eq, forceM_eq, forceWr_eq]
abbrev Fx := List (Nat × Bool)
def fact : Fx → Nat → Option Bool
  | [], _ => none
  | (t, b) :: l, u => bif Nat.beq t u then some b else fact l u
def look (s : Nat → AV) (fx : Fx) (t : Nat) : AV := match fact fx t with
  | some b => .t (.one (.k (.bool b)))
  | none => s t
def FxOk (s : Nat → AV) (fx : Fx) : Prop := ∀ t b, fact fx t = some b → ∀ E w v, AVRep E w (s t) v → v = .bool b
def forget (fx : Fx) : Option Nat → Fx
  | none => fx
  | some d => fx.filter fun p => !Nat.beq p.1 d
theorem fact_forget {fx : Fx} {d t : Nat} {b : Bool} (h : fact (forget fx (some d)) t = some b) : t ≠ d ∧ fact fx t = some b := by
  induction fx with
  | nil => simp [forget, fact] at h
  | cons p fx ih =>
    obtain ⟨u, c⟩ := p
    simp only [forget, List.filter_cons] at h ih
    by_cases hu : u = d
    · subst hu
      have hb : Nat.beq u u = true := by simp
      simp only [hb, Bool.not_true, Bool.false_eq_true, if_false] at h
      obtain ⟨h1, h2⟩ := ih h
      refine ⟨h1, ?_⟩
      have : Nat.beq u t = false := by rw [Bool.eq_false_iff]; intro e; exact h1 (Nat.eq_of_beq_eq_true e).symm
      simp [fact, this, h2]
    · have hb : Nat.beq u d = false := by rw [Bool.eq_false_iff]; intro e; exact hu (Nat.eq_of_beq_eq_true e)
      simp only [hb, Bool.not_false, if_true] at h
      simp only [fact] at h ⊢
      cases hut : Nat.beq u t
      · rw [hut] at h; exact ih h
      · rw [hut] at h
        have := Nat.eq_of_beq_eq_true hut
        subst this
        exact ⟨hu, h⟩
theorem FxOk.put {s : Nat → AV} {fx : Fx} {d : Option Nat} {x : AV} (h : FxOk s fx) : FxOk (putO s d x) (forget fx d) := by
  cases d with
  | none => exact h
  | some d =>
    intro t b hf E w v hv
    obtain ⟨h1, h2⟩ := fact_forget hf
    simp only [putO, upd_ne _ _ h1] at hv
    exact h t b h2 E w v hv
theorem FxOk.add {s : Nat → AV} {fx : Fx} {t : Nat} {b : Bool} (h : FxOk s fx) (ht : ∀ E w v, AVRep E w (s t) v → v = .bool b) : FxOk s ((t, b) :: fx) := by
  intro u c hf E w v hv
  simp only [fact] at hf
  cases e : Nat.beq t u
  · rw [e] at hf; exact h u c hf E w v hv
  · rw [e] at hf
    have := Nat.eq_of_beq_eq_true e
    subst this
    injection hf with hf
    subst hf
    exact ht E w v hv
theorem look_ref {s : Nat → AV} {fx : Fx} (h : FxOk s fx) (t : Nat) : Ref (s t) (look s fx t) := by
  intro E w v hv
  unfold look
  split
  · rename_i b hb
    have := h t b hb E w v hv
    exact ⟨this, rfl⟩
  · exact hv
theorem look_back {s : Nat → AV} {fx : Fx} (t : Nat) {x : D} (h : look s fx t = .t (.one (.d x))) : s t = .t (.one (.d x)) := by
  unfold look at h
  split at h
  · cases h
  · exact h
theorem opAV_ref {s : Nat → AV} {fx : Fx} (h : FxOk s fx) (x : Operand) : Ref (opAV s x) (opAV (look s fx) x) := by
  cases x with
  | tmp t => exact look_ref h t
  | const v => exact fun E w u hu => by cases v <;> exact hu
  | global g => exact Ref.refl _
  | func f => exact Ref.refl _

def mask1 (acc : List Nat) (es : List Edge) : Nat := es.foldr (fun e s => bif Region.binds .any e then s ||| 2 ^ e.on ||| (acc.reverse.getD e.on 0) else s) 0
/-- What goes ahead of each operation, as bits; the last one first. -/
def masks : List Oper → List Nat → List Nat
  | [], acc => acc
  | o :: os, acc => masks os (mask1 acc o.after.toList :: acc)
def confB (ri rj : Rec) : Bool :=
  (match ri.dst with | some t => rj.rd.contains t || rj.dst == some t | none => false) ||
  (match rj.dst with | some t => ri.rd.contains t | none => false) ||
  ri.wr.any (fun p => rj.acc.contains p.1 || rj.wr.any (fun q => q.1 == p.1)) || rj.wr.any (fun p => ri.acc.contains p.1)
theorem confB_of {ri rj : Rec} (h : Conf ri rj) : confB ri rj = true := by
  unfold confB
  rcases h.or with ⟨t, h1, h2⟩ | ⟨t, h1, h2⟩ | ⟨q, h1, h2⟩ | ⟨q, h1, h2⟩
  · rw [h1]
    rcases h2 with h2 | h2
    · simp [h2]
    · simp [h2]
  · rw [h1]; simp [h2]
  · obtain ⟨p, hp, rfl⟩ := List.mem_map.1 h1
    have : ri.wr.any (fun p => rj.acc.contains p.1 || rj.wr.any (fun q => q.1 == p.1)) = true := by
      rw [List.any_eq_true]
      refine ⟨p, hp, ?_⟩
      rcases h2 with h2 | h2
      · simp [h2]
      · obtain ⟨p', hp', e⟩ := List.mem_map.1 h2
        have : rj.wr.any (fun q => q.1 == p.1) = true := List.any_eq_true.2 ⟨p', hp', by simpa using e⟩
        simp only [this, Bool.or_true]
    simp only [this, Bool.or_true, Bool.true_or]
  · obtain ⟨p, hp, rfl⟩ := List.mem_map.1 h1
    have : rj.wr.any (fun p => ri.acc.contains p.1) = true := List.any_eq_true.2 ⟨p, hp, by simpa using h2⟩
    simp only [this, Bool.or_true]
/-- The records so far, the last one first: those that conflict go ahead. -/
def confOk (m : Nat) (r : Rec) : List Rec → Bool
  | [] => true
  | rk :: hist => (!confB rk r || Nat.testBit m hist.length) && confOk m r hist
theorem confOk_at {m : Nat} {r : Rec} : ∀ {hist : List Rec}, confOk m r hist = true → ∀ {k : Nat} {rk : Rec}, hist.reverse[k]? = some rk → Conf rk r → Nat.testBit m k = true
  | [], _, k, rk, h, _ => by simp at h
  | r0 :: hist, hc, k, rk, h, hcf => by
    simp only [confOk, Bool.and_eq_true] at hc
    rw [List.reverse_cons] at h
    by_cases hk : k < hist.length
    · rw [List.getElem?_append_left (by simpa using hk)] at h
      exact confOk_at hc.2 h hcf
    · rw [List.getElem?_append_right (by simpa using hk)] at h
      simp only [List.length_reverse] at h
      have : k = hist.length := by
        rcases Nat.eq_or_lt_of_le (Nat.le_of_not_lt hk) with e | e
        · exact e.symm
        · rw [List.getElem?_eq_none (by simp; omega)] at h; cases h
      subst this
      simp at h
      subst h
      have := confB_of hcf
      rw [this] at hc
      simpa using hc.1

section
variable (P : Program) (nt : Nat) (draw : Bool) (ops : Array Oper) (msk : List Nat)
def guardSlot (o : Oper) : List Nat := match o.guard with
  | some (j, _) => match (ops[j]?).bind (·.dst) with | some t => [t] | none => []
  | none => []
def dstOk (o : Oper) : Bool := match o.dst with | some d => Nat.ble (d + 1) nt | none => true
def refine_ (S : St) (fx : Fx) : St := ⟨look S.s fx, S.mem, S.n⟩
def skipRec (S : St) (o : Oper) : Rec := ⟨o.dst, undefAV, [], S.n, [], guardSlot ops o⟩
def xrops : List Oper → Nat → St → List Rec → Fx → (St → Prop) → Prop
  | [], _, S, _, fx, K => K (refine_ S fx)
  | o :: os, i, S, hist, fx, K =>
    bif dstOk nt o then
      match o.guard with
      | none => xopF P o (opAV (look S.s fx)) S.mem S.n fun av acc m wr =>
          bif !draw || confOk (msk.getD i 0) ⟨o.dst, av, wr, m, acc, tmpsOf o ++ guardSlot ops o⟩ hist then
            xrops os (i + 1) (Rec.app ⟨o.dst, av, wr, m, acc, tmpsOf o ++ guardSlot ops o⟩ S) (⟨o.dst, av, wr, m, acc, tmpsOf o ++ guardSlot ops o⟩ :: hist) (forget fx o.dst) K
          else False
      | some (j, want) => match (ops[j]?).bind (·.dst) with
        | none => False
        | some t => match look S.s fx t with
          | .t (.one (.k (.bool b))) => bif b == want then
              xopF P o (opAV (look S.s fx)) S.mem S.n fun av acc m wr =>
                bif !draw || confOk (msk.getD i 0) ⟨o.dst, av, wr, m, acc, tmpsOf o ++ guardSlot ops o⟩ hist then
                  xrops os (i + 1) (Rec.app ⟨o.dst, av, wr, m, acc, tmpsOf o ++ guardSlot ops o⟩ S) (⟨o.dst, av, wr, m, acc, tmpsOf o ++ guardSlot ops o⟩ :: hist) (forget fx o.dst) K
                else False
            else bif !draw || confOk (msk.getD i 0) (skipRec ops S o) hist then xrops os (i + 1) ((skipRec ops S o).app S) (skipRec ops S o :: hist) (forget fx o.dst) K else False
          | .tup [] => bif !draw || confOk (msk.getD i 0) (skipRec ops S o) hist then xrops os (i + 1) ((skipRec ops S o).app S) (skipRec ops S o :: hist) (forget fx o.dst) K else False
          | .t (.one (.d x)) => ∃ b, x = .v (.bool b) ∧
              (b = want → xopF P o (opAV (look S.s ((t, want) :: fx))) S.mem S.n fun av acc m wr =>
                bif !draw || confOk (msk.getD i 0) ⟨o.dst, av, wr, m, acc, tmpsOf o ++ guardSlot ops o⟩ hist then
                  xrops os (i + 1) (Rec.app ⟨o.dst, av, wr, m, acc, tmpsOf o ++ guardSlot ops o⟩ S) (⟨o.dst, av, wr, m, acc, tmpsOf o ++ guardSlot ops o⟩ :: hist) (forget ((t, want) :: fx) o.dst) K
                else False) ∧
              (b = !want → bif !draw || confOk (msk.getD i 0) (skipRec ops S o) hist then xrops os (i + 1) ((skipRec ops S o).app S) (skipRec ops S o :: hist) (forget ((t, !want) :: fx) o.dst) K else False)
          | _ => False
    else False
end

section
variable {P : Program} {nt : Nat} {draw : Bool} {ops : Array Oper} {msk : List Nat}
/-- What an extraction tells of the records from some place on. -/
def Told (P : Program) (nt : Nat) (draw : Bool) (ops : Array Oper) (msk : List Nat) (i : Nat) (S : St) (hist : List Rec) (n : Nat) (K : St → Prop) : Prop :=
  ∃ rs, rs.length = n ∧ Tr P nt ops i S rs ∧ (draw = true → ∀ k r, rs[k]? = some r → ∀ q rq, (hist.reverse ++ rs.take k)[q]? = some rq → Conf rq r → Nat.testBit (msk.getD (i + k) 0) q = true) ∧
    ∃ S', K S' ∧ ∀ w0 a w, Stands w0 nt (run S rs) a w → Stands w0 nt S' a w
theorem Told.cons {i : Nat} {S : St} {hist : List Rec} {n : Nat} {K : St → Prop} {r : Rec} (hs : StepOk P nt ops i S r) (hc : (!draw || confOk (msk.getD i 0) r hist) = true) (h : Told P nt draw ops msk (i + 1) (r.app S) (r :: hist) n K) : Told P nt draw ops msk i S hist (n + 1) K := by
  obtain ⟨rs, h1, h2, h3, S', h4, h5⟩ := h
  refine ⟨r :: rs, by simp [h1], .cons hs h2, fun hd k rk hk q rq hq hcf => ?_, S', h4, h5⟩
  cases k with
  | zero =>
    simp only [List.getElem?_cons_zero, Option.some.injEq] at hk; subst hk
    simp only [List.take_zero, List.append_nil] at hq
    rw [hd] at hc
    exact confOk_at (by simpa using hc) hq hcf
  | succ k =>
    have := h3 hd k rk (by simpa using hk) q rq (by simpa using hq) hcf
    rwa [show i + (k + 1) = i + 1 + k by omega]
theorem dst_lt {o : Oper} (h : dstOk nt o = true) : ∀ d, o.dst = some d → d < nt := by
  intro d hd
  unfold dstOk at h
  rw [hd] at h
  exact ble1 h
theorem xrops_told : ∀ {os : List Oper} {i : Nat} {S : St} {hist : List Rec} {fx : Fx} {K : St → Prop}, FxOk S.s fx → (∀ k o, os[k]? = some o → ops[i + k]? = some o) → xrops P nt draw ops msk os i S hist fx K → Told P nt draw ops msk i S hist os.length K
  | [], i, S, hist, fx, K, hfx, _, h => by
    refine ⟨[], rfl, .nil _ _, fun _ k r hk => by simp at hk, refine_ S fx, h, fun w0 a w hs => ?_⟩
    obtain ⟨E, h1, h2, h3, h4, h5⟩ := hs
    exact ⟨E, h1, fun t => look_ref hfx t E w _ (h2 t), h3, h4, h5⟩
  | o :: os, i, S, hist, fx, K, hfx, hos, h => by
    have ho : ops[i]? = some o := by have := hos 0 o rfl; simpa using this
    have hos' : ∀ k o', os[k]? = some o' → ops[i + 1 + k]? = some o' := fun k o' hk => by have := hos (k + 1) o' (by simpa using hk); rwa [show i + (k + 1) = i + 1 + k by omega] at this
    unfold xrops at h
    cases hd : dstOk nt o
    · rw [hd] at h; exact h.elim
    · rw [hd] at h
      simp only [cond_true] at h
      have hlt := dst_lt hd
      -- an operation that runs
      have go : ∀ fx', FxOk S.s fx' → (o.guard = none ∨ ∃ j want t, o.guard = some (j, want) ∧ (ops[j]?).bind (·.dst) = some t ∧ (∀ E w v, AVRep E w (S.s t) v → v = .bool want)) →
          (xopF P o (opAV (look S.s fx')) S.mem S.n fun av acc m wr =>
            bif !draw || confOk (msk.getD i 0) ⟨o.dst, av, wr, m, acc, tmpsOf o ++ guardSlot ops o⟩ hist then
              xrops P nt draw ops msk os (i + 1) (Rec.app ⟨o.dst, av, wr, m, acc, tmpsOf o ++ guardSlot ops o⟩ S) (⟨o.dst, av, wr, m, acc, tmpsOf o ++ guardSlot ops o⟩ :: hist) (forget fx' o.dst) K
            else False) → Told P nt draw ops msk i S hist (o :: os).length K := by
        intro fx' hfx' hg hx
        obtain ⟨av, acc, m, wr, hn, hk, hok⟩ := xop_ok (xopF_eq.mp hx)
        cases hc : (!draw || confOk (msk.getD i 0) ⟨o.dst, av, wr, m, acc, tmpsOf o ++ guardSlot ops o⟩ hist)
        · rw [hc] at hk; exact hk.elim
        · rw [hc] at hk
          simp only [cond_true] at hk
          refine Told.cons ⟨o, ho, rfl, hn, hlt, .inr ⟨?_, xop_nd (xopF_eq.mp hx), fun t ht => List.mem_append_left _ ht, _, fun x _ => opAV_ref hfx' x, hok⟩⟩ hc (xrops_told (hfx'.put (d := o.dst) (x := av)) hos' hk)
          rcases hg with hg | ⟨j, want, t, g1, g2, g3⟩
          · exact .inl hg
          · exact .inr ⟨j, want, t, g1, g2, List.mem_append_right _ (by simp [guardSlot, g1, g2]), g3⟩
      -- one that does not
      have skip : ∀ fx', FxOk S.s fx' → (∃ j want t, o.guard = some (j, want) ∧ (ops[j]?).bind (·.dst) = some t ∧ (∀ E w v, AVRep E w (S.s t) v → v ≠ .bool want)) →
          (bif !draw || confOk (msk.getD i 0) (skipRec ops S o) hist then xrops P nt draw ops msk os (i + 1) ((skipRec ops S o).app S) (skipRec ops S o :: hist) (forget fx' o.dst) K else False) → Told P nt draw ops msk i S hist (o :: os).length K := by
        intro fx' hfx' hg hk
        obtain ⟨j, want, t, g1, g2, g3⟩ := hg
        cases hc : (!draw || confOk (msk.getD i 0) (skipRec ops S o) hist)
        · rw [hc] at hk; exact hk.elim
        · rw [hc] at hk
          simp only [cond_true] at hk
          exact Told.cons ⟨o, ho, rfl, Nat.le_refl _, hlt, .inl ⟨j, want, t, g1, g2, by simp [skipRec, guardSlot, g1, g2], g3, rfl, rfl⟩⟩ hc (xrops_told (hfx'.put (d := o.dst) (x := undefAV)) hos' hk)
      split at h
      · rename_i hg; exact go fx hfx (.inl hg) h
      · rename_i j want hg
        split at h
        · exact h.elim
        · rename_i t ht
          split at h
          · rename_i b hb
            have hval : ∀ E w v, AVRep E w (S.s t) v → v = .bool b := fun E w v hv => by
              have := look_ref hfx t E w v hv
              rw [hb] at this
              exact this.1
            cases hbw : (b == want)
            · rw [hbw] at h
              simp only [cond_false] at h
              refine skip fx hfx ⟨j, want, t, hg, ht, fun E w v hv => ?_⟩ h
              rw [hval E w v hv]
              intro e; injection e with e; subst e; simp at hbw
            · rw [hbw] at h
              simp only [cond_true] at h
              have : b = want := by simpa using hbw
              subst this
              exact go fx hfx (.inr ⟨j, b, t, hg, ht, hval⟩) h
          · rename_i hb
            refine skip fx hfx ⟨j, want, t, hg, ht, fun E w v hv => ?_⟩ h
            have := look_ref hfx t E w v hv
            rw [hb] at this
            obtain ⟨vs, rfl, _⟩ := this
            intro e; cases e
          · rename_i x hb
            obtain ⟨b, rfl, h1, h2⟩ := h
            have hst := look_back t hb
            have hval : ∀ E w v, AVRep E w (S.s t) v → v = .bool b := fun E w v hv => by
              rw [hst] at hv
              have hv : Reads E.im w v (.v (.bool b)) := hv
              cases hv; rfl
            by_cases hbw : b = want
            · subst hbw
              exact go ((t, b) :: fx) (hfx.add hval) (.inr ⟨j, b, t, hg, ht, hval⟩) (h1 rfl)
            · have hbn : b = !want := by cases b <;> cases want <;> first | rfl | exact absurd rfl hbw
              have hval' : ∀ E w v, AVRep E w (S.s t) v → v = .bool (!want) := fun E w v hv => by rw [← hbn]; exact hval E w v hv
              refine skip ((t, !want) :: fx) (hfx.add hval') ⟨j, want, t, hg, ht, fun E w v hv => ?_⟩ (h2 hbn)
              rw [hval E w v hv]
              intro e; injection e with e; exact hbw e
          · exact h.elim

theorem mask1_bit {acc : List Nat} {es : List Edge} {k : Nat} (h : Nat.testBit (mask1 acc es) k = true) : ∃ e ∈ es, Region.binds .any e = true ∧ (e.on = k ∨ Nat.testBit (acc.reverse.getD e.on 0) k = true) := by
  induction es with
  | nil => simp [mask1] at h
  | cons e es ih =>
    simp only [mask1, List.foldr_cons] at h
    cases hb : Region.binds .any e
    · rw [hb] at h
      obtain ⟨e', h1, h2⟩ := ih h
      exact ⟨e', by simp [h1], h2⟩
    · rw [hb] at h
      simp only [cond_true, Nat.testBit_or, Bool.or_eq_true] at h
      rcases h with (h | h) | h
      · obtain ⟨e', h1, h2⟩ := ih h
        exact ⟨e', by simp [h1], h2⟩
      · rw [Nat.testBit_two_pow] at h
        exact ⟨e, by simp, hb, .inl (by simpa using h)⟩
      · exact ⟨e, by simp, hb, .inr h⟩
theorem masks_anc : ∀ {os : List Oper} {acc : List Nat}, (∀ k o, os[k]? = some o → ops[acc.length + k]? = some o) → (∀ j k, Nat.testBit (acc.reverse.getD j 0) k = true → Anc ops j k) → ∀ j k, Nat.testBit ((masks os acc).reverse.getD j 0) k = true → Anc ops j k
  | [], acc, _, h, j, k, hj => h j k hj
  | o :: os, acc, hos, h, j, k, hj => by
    refine masks_anc (os := os) (acc := mask1 acc o.after.toList :: acc) (fun q o' hq => by have := hos (q + 1) o' (by simpa using hq); simpa [Nat.add_assoc, Nat.add_comm 1] using this) (fun j k hjk => ?_) j k hj
    rw [List.reverse_cons, List.getD_eq_getElem?_getD] at hjk
    by_cases hlt : j < acc.length
    · rw [List.getElem?_append_left (by simpa using hlt)] at hjk
      exact h j k (by rw [List.getD_eq_getElem?_getD]; exact hjk)
    · rw [List.getElem?_append_right (by simpa using hlt)] at hjk
      by_cases e : j = acc.length
      · subst e
        simp only [List.length_reverse, Nat.sub_self, List.getElem?_cons_zero, Option.getD_some] at hjk
        obtain ⟨ed, h1, h2, h3⟩ := mask1_bit hjk
        have ho : ops[acc.length]? = some o := by have := hos 0 o rfl; simpa using this
        rcases h3 with h3 | h3
        · rw [← h3]; exact .one ho (by simpa using h1) h2
        · exact .far ho (by simpa using h1) h2 (h _ _ h3)
      · rw [List.getElem?_eq_none (by simp; omega)] at hjk
        simp at hjk
def backOk : List Oper → Nat → Bool
  | [], _ => true
  | o :: os, i => o.after.toList.all (fun e => !Region.binds .any e || Nat.blt e.on i) && backOk os (i + 1)
theorem backOk_at : ∀ {os : List Oper} {i : Nat}, backOk os i = true → ∀ {k : Nat} {o : Oper} {e : Edge}, os[k]? = some o → e ∈ o.after → Region.binds .any e = true → e.on < i + k
  | [], _, _, k, o, e, h, _, _ => by simp at h
  | o0 :: os, i, hb, 0, o, e, h, he, hbd => by
    simp at h; subst h
    simp only [backOk, Bool.and_eq_true, List.all_eq_true] at hb
    have := hb.1 e (by simpa using he)
    rw [hbd] at this
    have h2 : Nat.ble (e.on + 1) i = true := by simpa [Nat.blt] using this
    have := ble1 h2
    omega
  | o0 :: os, i, hb, k + 1, o, e, h, he, hbd => by
    simp only [backOk, Bool.and_eq_true] at hb
    have := backOk_at hb.2 (k := k) (by simpa using h) he hbd
    omega
def xregion (P : Program) (nt : Nat) (ops : Array Oper) (draw : Bool) (S : St) (K : St → Prop) : Prop :=
  bif draw then
    bif backOk ops.toList 0 then xrops P nt true ops (masks ops.toList []).reverse ops.toList 0 S [] [] K else False
  else xrops P nt false ops [] ops.toList 0 S [] [] K
theorem xregion_wp {ro : Option Nat} (hm : P.follows .mixedOrders = true) {S : St} {K : St → Prop} {id : Nat} {w0 : Base} {Q : Exit → Act → World → Prop} {a : Act} {w : World} (h : xregion P nt ops draw S K) (hs : Stands w0 nt S a w) (hQ : ∀ S' a w, K S' → Stands w0 nt S' a w → Q .normal a w) : wpR ro P (.region id ops draw) Q a w := by
  have hnone : FxOk S.s [] := fun t b hf => by simp [fact] at hf
  have hops : ∀ k o, ops.toList[k]? = some o → ops[0 + k]? = some o := fun k o hk => by simpa using hk
  unfold xregion at h
  cases draw
  · simp only [cond_false] at h
    obtain ⟨rs, h1, h2, _, S', h4, h5⟩ := xrops_told hnone hops h
    exact region_seq h2 (by simpa using h1) hs fun a w hst => hQ S' a w h4 (h5 w0 a w hst)
  · simp only [cond_true] at h
    cases hb : backOk ops.toList 0
    · rw [hb] at h; exact h.elim
    · rw [hb] at h
      simp only [cond_true] at h
      obtain ⟨rs, h1, h2, h3, S', h4, h5⟩ := xrops_told hnone hops h
      refine region_drawn hm ⟨h2, by simpa using h1, fun i j ri rj hij hi hj hcf => ?_, fun i o e ho he hbd => ?_⟩ hs fun a w hst => hQ S' a w h4 (h5 w0 a w hst)
      · have := h3 rfl j rj hj i ri (by simp [List.getElem?_take, hij, hi]) hcf
        rw [Nat.zero_add] at this
        refine masks_anc (os := ops.toList) (acc := []) (fun k o hk => by simpa using hk) (fun j k hjk => by simp at hjk) j i this
      · have := backOk_at hb (k := i) (by simpa using ho) he hbd
        omega
end
end Go.Proofs.Ytjdemohgegldaaa
