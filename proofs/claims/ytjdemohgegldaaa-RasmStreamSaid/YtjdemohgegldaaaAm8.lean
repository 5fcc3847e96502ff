/-
  The small machine's operations: structs, literals of slices, makes, cuts, texts.
-/
import Derived.Test.YtjdemohgegldaaaAm7
import Derived.Laws.IdiomStrings
import Derived.Great.BuildSlice
import Derived.Laws.StructEq
namespace Go.Proofs.Ytjdemohgegldaaa
set_option linter.unusedSimpArgs false
set_option linter.unusedVariables false
open Go.RowKit

def AV.cellsOk : AV → Option (List C)
  | .t x => bif x.cells.all C.ok then some x.cells else none
  | _ => none
theorem AV.cellsOk_rep {E : Env} {w : World} {x : AV} {cs : List C} {v : Value} (h : x.cellsOk = some cs) (hr : AVRep E w x v) : All2 (CRep E w) cs v.cells.toList ∧ ∀ u ∈ v.cells.toList, u.oneCell' = true := by
  cases x with
  | t x =>
    simp only [AV.cellsOk] at h
    cases hc : x.cells.all C.ok
    · rw [hc] at h; cases h
    · rw [hc] at h; simp only [cond_true, Option.some.injEq] at h; subst h
      exact TRep.cells hr hc
  | tup xs => cases h
/-- The parts of a literal. -/
def partsC (ρ : Operand → AV) : List (Nat × Operand) → Option (List (Nat × List C))
  | [] => some []
  | (i, x) :: r => match (ρ x).cellsOk, partsC ρ r with
    | some cs, some l => some ((i, cs) :: l)
    | _, _ => none
theorem partsC_rep {E : Env} {w : World} {ρ : Operand → AV} {a : Act} : ∀ {l : List (Nat × Operand)} {r : List (Nat × List C)}, partsC ρ l = some r → (∀ p ∈ l, AVRep E w (ρ p.2) (a.eval p.2)) →
    All2 (fun p q => p.1 = q.1 ∧ All2 (CRep E w) p.2 q.2) r ((l.map fun p => (p.1, a.eval p.2)).map fun q => (q.1, q.2.cells.toList))
  | [], r, h, _ => by simp [partsC] at h; subst h; trivial
  | (i, x) :: l, r, h, hx => by
    simp only [partsC] at h
    split at h
    · rename_i cs l' h1 h2
      injection h with h; subst h
      exact ⟨⟨rfl, (AV.cellsOk_rep h1 (hx (i, x) (by simp))).1⟩, partsC_rep h2 fun p hp => hx p (by simp [hp])⟩
    · cases h
theorem parts_one {E : Env} {w : World} {ρ : Operand → AV} {a : Act} : ∀ {l : List (Nat × Operand)} {r : List (Nat × List C)}, partsC ρ l = some r → (∀ p ∈ l, AVRep E w (ρ p.2) (a.eval p.2)) →
    ∀ q ∈ (l.map fun p => (p.1, a.eval p.2)).map (fun q => (q.1, q.2.cells.toList)), ∀ u ∈ q.2, u.oneCell' = true
  | [], r, h, _ => by simp
  | (i, x) :: l, r, h, hx => by
    simp only [partsC] at h
    split at h
    · rename_i cs l' h1 h2
      intro q hq u hu
      simp only [List.map_cons, List.mem_cons] at hq
      rcases hq with rfl | hq
      · exact (AV.cellsOk_rep h1 (hx (i, x) (by simp))).2 u hu
      · exact parts_one h2 (fun p hp => hx p (by simp [hp])) q hq u hu
    · cases h
theorem fillL_one (place : Nat → Option (Nat × Nat)) : ∀ (ps : List (Nat × List Value)) (xs r : List Value), fillL place xs ps = some r → (∀ u ∈ xs, u.oneCell' = true) → (∀ q ∈ ps, ∀ u ∈ q.2, u.oneCell' = true) → ∀ u ∈ r, u.oneCell' = true
  | [], xs, r, h, hx, _, u, hu => by simp [fillL] at h; subst h; exact hx u hu
  | (i, v) :: ps, xs, r, h, hx, hp, u, hu => by
    simp only [fillL] at h
    split at h
    · cases h
    · rename_i off size _
      cases hc : (Nat.beq v.length size && Nat.ble (off + v.length) xs.length)
      · rw [hc] at h; cases h
      · rw [hc] at h
        simp only [cond_true] at h
        refine fillL_one place ps _ r h (fun y hy => ?_) (fun q hq => hp q (by simp [hq])) u hu
        simp only [splice, List.mem_append, or_assoc] at hy
        rcases hy with hy | hy | hy
        · exact hx y (List.mem_of_mem_take hy)
        · exact hp (i, v) (by simp) y hy
        · exact hx y (List.mem_of_mem_drop hy)
theorem zeros_rep {E : Env} {w : World} {z : List Value} (hc : z.all scalar = true) : All2 (CRep E w) (z.map C.k) z := by
  induction z with
  | nil => trivial
  | cons u l ih => simp only [List.all_cons, Bool.and_eq_true] at hc; exact ⟨⟨rfl, hc.1⟩, ih hc.2⟩

section
variable {P : Program} {o : Oper} {ρ : Operand → AV} {mem : Nat → Option Ob} {t t' e : TypeId} {x y s : Operand} {i : TypeInfo} {d : TypeDesc}
theorem build_ok {parts : Array (Nat × Operand)} (ho : o.op = .build t parts) (hi : P.info? t = some i) {z : Value} (hz : i.zero = some z) (hzs : z.cells.toList.all scalar = true) {fs : Array Field} (hd : P.underlying t = some (.struct fs))
    {places : List (Nat × Nat)} (hpl : fs.toList.mapM (fun f => (P.info? f.type).map fun i => (f.offset, i.size)) = some places) {ps : List (Nat × List C)} (hps : partsC ρ parts.toList = some ps) {r : List C} (hr : fillL (places.toArray[·]?) (z.cells.toList.map C.k) ps = some r) :
    OpOk P o ρ mem (.t (.agg r)) [] [] [] := by
  refine OpOk.pure [] fun w0 E mem' w a hS hacc hops => ?_
  have hx : ∀ p ∈ parts.toList, AVRep E w (ρ p.2) (a.eval p.2) := fun p hp => hops p.2 (by simp only [ho, Op.operands, List.mem_toArray, List.mem_map]; exact ⟨p, hp, rfl⟩)
  obtain ⟨r', h1, h2⟩ := All2.fillL (places.toArray[·]?) (zeros_rep (E := E) (w := w) hzs) (partsC_rep (a := a) hps hx) hr
  have h3 := fill_fillL (places.toArray[·]?) ((parts.toList.map fun p => (p.1, a.eval p.2))) z.cells r' h1
  refine ⟨.agg r'.toArray, ?_, r', rfl, h2, fillL_one _ _ _ _ h1 (fun u hu => scalar_one ((List.all_eq_true.1 hzs) u hu)) (parts_one hps hx)⟩
  have hb : P.built t (parts.map fun p => (p.1, a.eval p.2)).toList = some r'.toArray := by
    simp only [Program.built, hi, hd, hz, hpl, Array.toList_map]
    exact h3
  have hrun := run_build (P := P) w t (parts.map fun p => (p.1, a.eval p.2)) r'.toArray hb
  simp only [execOp, ho]
  rw [Sem.run_bind, show (parts.map fun (i, x) => (i, a.eval x)) = parts.map fun p => (p.1, a.eval p.2) from rfl, hrun]
  rfl

/-- Cells, element by element. -/
def elemD (agg : Bool) (cs : List D) : D := bif agg then .agg cs else cs.getD 0 default
def chunks (agg : Bool) (sz : Nat) : Nat → List D → List D
  | 0, _ => []
  | n + 1, cs => elemD agg (cs.take sz) :: chunks agg sz n (cs.drop sz)
theorem D.cells_one {x : D} (h : ∀ cs, x ≠ .agg cs) : x.cells = [x] := by
  cases x with
  | agg cs => exact absurd rfl (h cs)
  | _ => rfl
theorem chunks_flat (agg : Bool) (sz : Nat) (hag : agg = false → sz = 1) : ∀ (n : Nat) (cs : List D), cs.length = n * sz → (agg = false → ∀ c ∈ cs, ∀ l, c ≠ .agg l) → flat (chunks agg sz n cs) = cs ∧ (∀ e ∈ chunks agg sz n cs, e.cells.length = sz) ∧ (chunks agg sz n cs).length = n
  | 0, cs, h, _ => by simp at h; subst h; exact ⟨rfl, by simp [chunks], rfl⟩
  | n + 1, cs, h, hc => by
    have hl : sz ≤ cs.length := by rw [h, Nat.succ_mul]; omega
    obtain ⟨h1, h2, h3⟩ := chunks_flat agg sz hag n (cs.drop sz) (by rw [List.length_drop, h, Nat.succ_mul]; omega) (fun ha c hcm => hc ha c (List.mem_of_mem_drop hcm))
    have hel : (elemD agg (cs.take sz)).cells = cs.take sz := by
      cases agg
      · have := hag rfl; subst this
        cases cs with
        | nil => simp at hl
        | cons c cs => simp only [elemD, cond_false, List.take_succ_cons, List.take_zero, List.getD_cons_zero]; exact D.cells_one (hc rfl c (by simp))
      · rfl
    refine ⟨?_, ?_, by simp [chunks, h3]⟩
    · simp only [chunks, flat, List.flatMap_cons, hel]
      have : flat (chunks agg sz n (cs.drop sz)) = cs.drop sz := h1
      simp only [flat] at this
      rw [this, List.take_append_drop]
    · intro e he
      simp only [chunks, List.mem_cons] at he
      rcases he with rfl | he
      · rw [hel, List.length_take]; omega
      · exact h2 e he
def C.dat : C → Option D
  | .d x => some x
  | .k v => some (.v v)
  | _ => none
theorem C.dat_reads {E : Env} {w : World} {c : C} {x : D} {v : Value} (h : c.dat = some x) (hr : CRep E w c v) : Reads E.im w v x := by
  cases c with
  | d y => simp only [C.dat, Option.some.injEq] at h; subst h; exact hr
  | k u => simp only [C.dat, Option.some.injEq] at h; subst h; obtain ⟨rfl, h⟩ := hr; exact .v h
  | _ => simp [C.dat] at h
def datsC : List C → Option (List D)
  | [] => some []
  | c :: cs => match c.dat, datsC cs with
    | some x, some l => some (x :: l)
    | _, _ => none
theorem datsC_reads {E : Env} {w : World} : ∀ {cs : List C} {l : List D} {vs : List Value}, datsC cs = some l → All2 (CRep E w) cs vs → All2 (Reads E.im w) vs l
  | [], l, vs, h, k => by
    simp [datsC] at h; subst h
    cases vs with
    | nil => trivial
    | cons v vs => exact k.elim
  | c :: cs, l, vs, h, k => by
    simp only [datsC] at h
    split at h
    · rename_i x l' h1 h2
      injection h with h; subst h
      cases vs with
      | nil => exact k.elim
      | cons v vs => exact ⟨C.dat_reads h1 k.1, datsC_reads h2 k.2⟩
    · cases h
theorem Reads.notAgg {ok : Nat → Prop} {w : World} {v : Value} {x : D} (h : Reads ok w v x) : ∀ l, x ≠ .agg l := by
  intro l e; subst e; cases h

/-- A row that is made of cells that are known. -/
theorem Sim.newRow {w0 : World} {E : Env} {mem : Nat → Option Ob} {w : World} (h : Sim w0 E mem w) (n : Nat) (hn : ¬ E.bn n) (sz : Nat) (es : List D) (cap : Nat) (cur : Array Value) (T : TypeId) (hw : ∀ e ∈ es, e.cells.length = sz) (hcap : es.length ≤ cap) (hm : cap ≤ maxLen) (hcs : cur.size = cap * sz)
    (hall : All2 (Reads E.im w) (cur.toList.take (es.length * sz)) (flat es)) :
    Sim w0 (E.add n (.slice (some ⟨w.heap.size, 0, none⟩) es.length cap)) (upd mem n (some (.row sz (.sl sz es)))) (w.alloc (.cells cur T)) := by
  have hb := (Below.refl w.heap.size w).alloc (Nat.le_refl _) (.cells cur T)
  refine (h.step hb).add n hn _ _ (obRow (.inr ⟨es, rfl, hw, ?_⟩)) ?_
  · by_cases h0 : cap = 0
    · subst h0
      have : es = [] := List.eq_nil_of_length_eq_zero (by omega)
      subst this
      exact .inl ⟨rfl, w.heap.size, 0, rfl, by simp⟩
    · exact .inr ⟨w.heap.size, cap, T, cur, rfl, heap_alloc_new w _, hcap, by omega, hm, hcs, hall.imp fun _ _ q => q.mono (h.stable hb) (fun _ h => h)⟩
  · intro b hb'
    have : w.heap.size = b := by
      simp only [obk, blk] at hb'
      split at hb'
      · cases hb'
      · injection hb'
    subst this
    exact ⟨h.below.size, by simp, fun hi => by have := (h.im _ hi).1; omega, fun q ob hq => h.fresh q ob hq⟩
theorem buildSlice_ok {parts : Array (Nat × Operand)} {len : Nat} (ho : o.op = .buildSlice t len parts) (hd : P.underlying t = some (.slice e)) (hi : P.info? e = some i) {de : TypeDesc} (hde : P.underlying e = some de) {z : Value} (hz : i.zero = some z) (hzs : z.cells.toList.all scalar = true) (hzl : z.cells.size = i.size)
    (hag : aggD de = false → i.size = 1) (hsmall : len * i.size ≤ 2 ^ 24) (hpos : 0 < i.size) {ps : List (Nat × List C)} (hps : partsC ρ parts.toList = some ps)
    {r : List C} (hr : fillL (fun k => some (k * i.size, i.size)) ((List.range (len * i.size)).map fun k => C.k ((z.cells.toList.getD (k % i.size) undef))) ps = some r) {l : List D} (hl : datsC r = some l) (hrl : r.length = len * i.size) (n : Nat) :
    OpOk P o ρ mem (.t (.one (.row n))) [] [n] [(n, some (.row i.size (.sl i.size (chunks (aggD de) i.size len l))))] := by
  intro w0 E mem' w a K Q hS hacc hn hops hK
  have hx : ∀ p ∈ parts.toList, AVRep E w (ρ p.2) (a.eval p.2) := fun p hp => hops p.2 (by simp only [ho, Op.operands, List.mem_toArray, List.mem_map]; exact ⟨p, hp, rfl⟩)
  obtain ⟨zs, hzs'⟩ : ∃ zs : Array Value, zs = (Array.range (len * i.size)).map (z.cells[· % z.cells.size]!) := ⟨_, rfl⟩
  have hbase : All2 (CRep E w) ((List.range (len * i.size)).map fun k => C.k ((z.cells.toList.getD (k % i.size) undef))) zs.toList := by
    rw [hzs', Array.toList_map, Array.toList_range]
    have : ∀ l : List Nat, All2 (CRep E w) (l.map fun k => C.k ((z.cells.toList.getD (k % i.size) undef))) (l.map fun k => z.cells[k % z.cells.size]!) := by
      intro l
      induction l with
      | nil => trivial
      | cons k l ih =>
        refine ⟨?_, ih⟩
        have hlt : k % i.size < z.cells.size := by rw [hzl]; exact Nat.mod_lt _ hpos
        have e1 : z.cells[k % z.cells.size]! = z.cells[k % i.size] := by rw [hzl, getElem!_pos z.cells _ hlt]
        have e2 : z.cells.toList.getD (k % i.size) undef = z.cells[k % i.size] := by simp [List.getD, hlt]
        show CRep E w (C.k (z.cells.toList.getD (k % i.size) undef)) (z.cells[k % z.cells.size]!)
        rw [e1, e2]
        exact ⟨rfl, (List.all_eq_true.1 hzs) _ (by simp)⟩
    exact this _
  obtain ⟨r', h1, h2⟩ := All2.fillL (fun k => some (k * i.size, i.size)) hbase (partsC_rep (a := a) hps hx) hr
  have h3 := fill_fillL (fun k => some (k * i.size, i.size)) ((parts.toList.map fun p => (p.1, a.eval p.2))) zs r' h1
  have hrd := datsC_reads hl h2
  have hll : l.length = len * i.size := by rw [← hrd.length, ← h2.length, hrl]
  obtain ⟨c1, c2, c3⟩ := chunks_flat (aggD de) i.size hag len l hll (fun _ c hc => by
    obtain ⟨k, hk⟩ := List.getElem?_of_mem hc
    obtain ⟨u, _, hu⟩ := hrd.getR hk
    exact hu.notAgg)
  have hlen1 : len ≤ 2 ^ 24 := Nat.le_trans (Nat.le_mul_of_pos_right _ hpos) hsmall
  have hrun : (execOp a.eval o).run P w = .ok (.value (.slice (some ⟨w.heap.size, 0, none⟩) len len)) (w.alloc (.cells r'.toArray e)) := by
    simp only [execOp, ho]
    rw [Sem.run_bind]
    by_cases h0 : len = 0
    · subst h0
      have hzs0 : zs = #[] := by rw [hzs']; simp
      have hf : Instr.fill (fun k => some (k * i.size, i.size)) #[] (parts.map fun (i, x) => (i, a.eval x)).toList = some r'.toArray := by
        rw [hzs0] at h3; rw [Array.toList_map]; exact h3
      have : (Instr.buildSlice t 0 (parts.map fun (i, x) => (i, a.eval x))).run P w = .ok (.slice (some ⟨w.heap.size, 0, none⟩) 0 0) (w.alloc (.cells r'.toArray e)) := by
        simp [Instr.buildSlice, run_underlying hd, sizeOf, typeInfo, hi, newRow] at hf ⊢
        rw [show Array.map (fun _ => default) (Array.range 0) = (#[] : Array Value) from by simp, hf]; simp
      rw [this]; rfl
    · have hp : ¬ len * i.size = 0 := by
        intro e
        rcases Nat.mul_eq_zero.1 e with e | e <;> omega
      have := run_buildSlice (P := P) w t e len (parts.map fun (i, x) => (i, a.eval x)) r'.toArray i z hd hi hz (by omega) hp (by rw [Array.toList_map, ← hzs']; exact h3)
      rw [this]; rfl
  have hS' := hS.newRow n (hn n (by simp)) i.size (chunks (aggD de) i.size len l) len r'.toArray e c2 (by omega) (by simp only [maxLen]; omega) (by simp [← h2.length, hrl]) (by
    rw [c3, c1]
    have : r'.toArray.toList.take (len * i.size) = r' := by
      simp only [List.toList_toArray]
      exact List.take_of_length_le (by rw [← h2.length, hrl]; exact Nat.le_refl _)
    rw [this]; exact hrd)
  rw [c3] at hS'
  refine wp_of_run hrun ?_
  exact hK _ _ _ (E.le_add n _ (hn n (by simp))) (fun r hr => hr.imp_right fun e => by simp [e]) (hS.stable ((Below.refl _ _).alloc (Nat.le_refl _) _)) ⟨.inr rfl, (upd_same _ _ _).symm, _, _, _, upd_same _ _ _⟩ hS'
end
end Go.Proofs.Ytjdemohgegldaaa
