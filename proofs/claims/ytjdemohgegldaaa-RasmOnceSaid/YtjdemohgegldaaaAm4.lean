/-
  The small machine's operations on memory: load, store, addresses of fields and of elements.
-/
import Derived.Test.YtjdemohgegldaaaAm3
namespace Go.Proofs.Ytjdemohgegldaaa
set_option linter.unusedSimpArgs false
set_option linter.unusedVariables false
open Go.RowKit

def aggD : TypeDesc → Bool
  | .struct _ | .array _ _ => true
  | _ => false
theorem run_isAgg' {P : Program} {t : TypeId} {d : TypeDesc} (hd : P.underlying t = some d) (w : World) : (isAgg t).run P w = .ok (aggD d) w := by
  cases d <;> simp [isAgg, run_underlying hd, aggD]
theorem addr_add (b o j : Nat) : (⟨b, o, none⟩ : Addr).add j = ⟨b, o + j, none⟩ := by unfold Addr.add; split <;> simp_all
theorem run_loadVar' {P : Program} {t : TypeId} {i : TypeInfo} {d : TypeDesc} (hi : P.info? t = some i) (hd : P.underlying t = some d) (w : World) (b o : Nat) (vs : List Value) (hl : vs.length = i.size)
    (h : ∀ j u, vs[j]? = some u → w.cell? ⟨b, o + j, none⟩ = some u) (hne : aggD d = false → 0 < vs.length) :
    (loadVar t ⟨b, o, none⟩).run P w = .ok (bif aggD d then .agg vs.toArray else vs.getD 0 undef) w := by
  have hc := run_loadCells_list (P := P) w ⟨b, o, none⟩ vs (fun j u hj => by rw [addr_add]; exact h j u hj)
  cases hag : aggD d
  · have h0 := hne hag
    have h1 := h 0 vs[0] (by simp [h0])
    simp only [Nat.add_zero] at h1
    simp [loadVar, run_isAgg' hd, hag, h1, List.getD, h0]
  · simp [loadVar, run_isAgg' hd, hag, sizeOf, typeInfo, hi, ← hl, hc]
def D.cell (x : D) (k : Nat) : D := x.cells.getD k default
theorem D.cell_get {x : D} {k : Nat} (h : k < x.cells.length) : x.cells[k]? = some (x.cell k) := by simp [D.cell, h]
theorem flat_at {sz : Nat} : ∀ {es : List D}, (∀ e ∈ es, e.cells.length = sz) → ∀ {m k : Nat} {e : D}, es[m]? = some e → k < sz → (flat es)[m * sz + k]? = e.cells[k]?
  | [], _, m, k, e, h, _ => by simp at h
  | e0 :: es, hw, 0, k, e, h, hk => by
    simp at h; subst h
    have := hw e0 (by simp)
    simp only [flat, List.flatMap_cons, Nat.zero_mul, Nat.zero_add]
    rw [List.getElem?_append_left (by omega)]
  | e0 :: es, hw, m + 1, k, e, h, hk => by
    have h0 := hw e0 (by simp)
    have ih := flat_at (es := es) (fun x hx => hw x (by simp [hx])) (m := m) (k := k) (e := e) (by simpa using h) hk
    simp only [flat, List.flatMap_cons] at ih ⊢
    rw [List.getElem?_append_right (by rw [h0, Nat.succ_mul]; omega), ← ih]
    congr 1
    rw [h0, Nat.succ_mul]; omega

section
variable {P : Program} {o : Oper} {ρ : Operand → AV} {mem : Nat → Option Ob} {t : TypeId} {p : Operand} {i : TypeInfo} {d : TypeDesc}
theorem load_ptr_ok (ho : o.op = .load t p) (hi : P.info? t = some i) (hd : P.underlying t = some d) {r off : Nat} (hp : ρ p = .t (.one (.ptr r off))) {cs : List C} (hm : mem r = some (.box cs))
    (hl : off + i.size ≤ cs.length) (hz : 0 < i.size) : OpOk P o ρ mem (bif aggD d then .t (.agg ((cs.drop off).take i.size)) else .t (.one (cs.getD off .bot))) [r] [] [] := by
  refine OpOk.pure [r] fun w0 E mem' w a hS hacc hx => ?_
  have h1 := hx p (by simp [ho, Op.operands])
  rw [hp] at h1
  obtain ⟨hbn, b, hb, hv⟩ := h1
  obtain ⟨_, b', T, cur, hb', hheap, hall, hone⟩ := hS.ob r _ ((hacc r (by simp)).trans hm)
  rw [hb] at hb'
  simp only [Value.pointer.injEq, Option.some.injEq, Addr.mk.injEq, and_true] at hb'
  subst hb'
  have hlen := hall.length
  let vs := (cur.toList.drop off).take i.size
  have hvl : vs.length = i.size := by simp only [vs, List.length_take, List.length_drop]; omega
  have hrun := run_loadVar' hi hd w b off vs hvl (fun j u hj => by
    rw [cell_row hheap]
    simp only [vs, List.getElem?_take] at hj
    split at hj
    · simpa using hj
    · cases hj) (fun _ => by omega)
  refine ⟨_, by simp [execOp, ho, hv, Instr.loadAt, Instr.sureAddr]; rw [hrun]; rfl, ?_⟩
  have hsub : All2 (CRep E w) ((cs.drop off).take i.size) vs := (hall.drop off).take _
  cases aggD d
  · obtain ⟨c, hc⟩ : ∃ c, ((cs.drop off).take i.size)[0]? = some c := ⟨_, List.getElem?_eq_getElem (by rw [List.length_take, List.length_drop]; omega)⟩
    obtain ⟨u, hu, hr⟩ := hsub.get hc
    have e1 : vs.getD 0 undef = u := by simp [List.getD, hu]
    have e2 : cs.getD off .bot = c := by
      rw [List.getElem?_take, if_pos hz] at hc
      have : cs[off]? = some c := by simpa using hc
      simp [List.getD, this]
    simp only [cond_false]
    rw [e1, e2]
    exact hr
  · exact ⟨vs, rfl, hsub, fun u hu => hone u (List.mem_of_mem_drop (List.mem_of_mem_take hu))⟩
theorem load_pd_ok (ho : o.op = .load t p) (hi : P.info? t = some i) (hd : P.underlying t = some d) {x : D} {j : Nat} (hp : ρ p = .t (.one (.pd x j))) 
    (hl : j + i.size ≤ x.cells.length) (hz : 0 < i.size) : OpOk P o ρ mem (bif aggD d then .t (.agg ((List.range i.size).map fun k => C.d (x.cell (j + k)))) else .t (.one (.d (x.cell j)))) [] [] [] := by
  refine OpOk.pure [] fun w0 E mem' w a hS hacc hx => ?_
  have h1 := hx p (by simp [ho, Op.operands])
  rw [hp] at h1
  obtain ⟨b, off, us, hv, him, hus⟩ := h1
  let vs := (List.range i.size).map fun k => us (j + k)
  have hvl : vs.length = i.size := by simp [vs]
  have hrun := run_loadVar' hi hd w b (off + j) vs hvl (fun k u hk => by
    have hlt : k < i.size := by have := (List.getElem?_eq_some_iff.1 hk).1; omega
    have : us (j + k) = u := by simpa [vs, hlt] using hk
    rw [← this, Nat.add_assoc]
    exact (hus (j + k) _ (D.cell_get (by omega))).1) (fun _ => by omega)
  refine ⟨_, by simp [execOp, ho, hv, Instr.loadAt, Instr.sureAddr]; rw [hrun]; rfl, ?_⟩
  have hsub : All2 (CRep E w) ((List.range i.size).map fun k => C.d (x.cell (j + k))) vs := by
    have : ∀ l : List Nat, (∀ k ∈ l, k < i.size) → All2 (CRep E w) (l.map fun k => C.d (x.cell (j + k))) (l.map fun k => us (j + k)) := by
      intro l
      induction l with
      | nil => intro _; trivial
      | cons k l ih => intro hk; exact ⟨(hus (j + k) _ (D.cell_get (by have := hk k (by simp); omega))).2, ih fun q hq => hk q (by simp [hq])⟩
    exact this _ (by simp)
  cases aggD d
  · have e1 : vs.getD 0 undef = us j := by simp [vs, hz, List.getD]
    simp only [cond_false]
    rw [e1]
    exact (hus j _ (D.cell_get (by omega))).2
  · refine ⟨vs, rfl, hsub, fun u hu => ?_⟩
    obtain ⟨k, hk, rfl⟩ := List.mem_map.1 hu
    exact (hus (j + k) _ (D.cell_get (by have := List.mem_range.1 hk; omega))).2.one

theorem grown_setRow (w : World) (g : Nat) (cs : Array Value) : w.grownBy (w.setRow g cs) (some g) := ⟨rfl, rfl, rfl, by simp, fun k _ hne => setRow_other w g k cs (fun e => hne (by rw [e]))⟩
theorem All2.splice {α β : Type} {R : α → β → Prop} {xs : List α} {ys : List β} (h : All2 R xs ys) {zs : List α} {ts : List β} (k : All2 R zs ts) (n : Nat) : All2 R (xs.take n ++ zs ++ xs.drop (n + zs.length)) (ys.take n ++ ts ++ ys.drop (n + ts.length)) := by
  rw [k.length]
  exact ((h.take n).append k).append (h.drop _)
theorem store_ptr_ok {v : Operand} (ho : o.op = .store t p v) (hi : P.info? t = some i) {r off : Nat} (hp : ρ p = .t (.one (.ptr r off))) {cs : List C} (hm : mem r = some (.box cs)) {y : T} (hv : ρ v = .t y)
    (hc : y.cells.all C.ok = true) (hs : y.cells.length = i.size) (hl : off + y.cells.length ≤ cs.length) :
    OpOk P o ρ mem (.tup []) [r] [] [(r, some (.box (cs.take off ++ y.cells ++ cs.drop (off + y.cells.length))))] := by
  intro w0 E mem' w a K Q hS hacc _ hops hK
  have h1 := hops p (by simp [ho, Op.operands])
  rw [hp] at h1
  obtain ⟨hbn, b, hb, hpv⟩ := h1
  have h2 := hops v (by simp [ho, Op.operands])
  rw [hv] at h2
  obtain ⟨h3, h4⟩ := TRep.cells h2 hc
  have hmr := (hacc r (by simp)).trans hm
  obtain ⟨_, b', T, cur, hb', hheap, hall, hone⟩ := hS.ob r _ hmr
  rw [hb] at hb'
  simp only [Value.pointer.injEq, Option.some.injEq, Addr.mk.injEq, and_true] at hb'
  subst hb'
  have hlen := hall.length
  have hlen2 := h3.length
  simp only [Array.length_toList] at hlen hlen2
  have hst := run_storeCells_at P b off T (a.eval v).cells.toList 0 cur w hheap (by simp only [Array.length_toList]; omega) h4
  simp only [Nat.add_zero, Array.length_toList] at hst
  refine wp_of_skip (w' := w.setRow b (cur.toList.take off ++ (a.eval v).cells.toList ++ cur.toList.drop (off + (a.eval v).cells.size)).toArray) ?_ ?_
  · have hsz : (a.eval v).cells.size = i.size := by omega
    simp [execOp, ho, hpv, Instr.storeAt, Instr.sureAddr, storeVar, sizeOf, typeInfo, hi, hsz]
    rw [hst]; simp [hsz]
  · obtain ⟨hS', hst'⟩ := hS.write (w' := w.setRow b (cur.toList.take off ++ (a.eval v).cells.toList ++ cur.toList.drop (off + (a.eval v).cells.size)).toArray) hmr (b := b) (by rw [hb]; rfl) (grown_setRow w b _) (.box (cs.take off ++ y.cells ++ cs.drop (off + y.cells.length))) (fun k hk => by rw [hb] at hk; injection hk with hk; exact hk.symm)
      ⟨b, T, _, hb, setRow_heap w b cur _ T _ hheap, by
        have hstab : Stable E.im w (w.setRow b (cur.toList.take off ++ (a.eval v).cells.toList ++ cur.toList.drop (off + (a.eval v).cells.size)).toArray) := fun k hk => setRow_other w b k _ (fun e => (hS.live r _ b hmr (by rw [hb]; rfl)).2.2 (e ▸ hk))
        have := (hall.splice h3 off).imp fun _ _ q => q.mono (Env.le.refl E) hstab
        simpa [Array.length_toList] using this, by
        intro u hu
        simp only [List.toList_toArray, List.mem_append, or_assoc] at hu
        rcases hu with hu | hu | hu
        · exact hone u (List.mem_of_mem_take hu)
        · exact h4 u hu
        · exact hone u (List.mem_of_mem_drop hu)⟩
    exact hK _ _ _ (Env.le.refl E) (fun _ h => .inl h) hst' ⟨[], rfl, trivial⟩ hS'
end
end Go.Proofs.Ytjdemohgegldaaa
