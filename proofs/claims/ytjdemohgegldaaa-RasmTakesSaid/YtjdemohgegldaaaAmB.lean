/-
  The small machine's operations: bytes of a text.
-/
import Derived.Test.YtjdemohgegldaaaAmX
import Derived.Laws.IdiomStrings
namespace Go.Proofs.Ytjdemohgegldaaa
set_option linter.unusedSimpArgs false
set_option linter.unusedVariables false
open Go.RowKit

def D.toBytes : D → Option D
  | .v (.string s) => if s.size ≤ 9223372036854775807 then some (.sl 1 (s.data.toList.map fun b => .v (.int .u8 (b.toNat : Nat)))) else none
  | _ => none
section
variable {P : Program} {o : Oper} {ρ : Operand → AV} {mem : Nat → Option Ob}
/-- A block more that stays. -/
theorem Sim.more {w0 : World} {E : Env} {mem : Nat → Option Ob} {w : World} (h : Sim w0 E mem w) {b : Nat} (hb : b < w.heap.size) (hb0 : w0.heap.size ≤ b) (hno : ∀ q o, mem q = some o → obk o (E.ι q) ≠ some b) : Sim w0 ⟨E.ι, E.bn, fun k => E.im k ∨ k = b, E.od⟩ mem w ∧ E.le ⟨E.ι, E.bn, fun k => E.im k ∨ k = b, E.od⟩ := by
  have hle : E.le ⟨E.ι, E.bn, fun k => E.im k ∨ k = b, E.od⟩ := ⟨fun _ h => h, fun _ _ => rfl, fun _ h => .inl h, fun _ h => h⟩
  refine ⟨⟨h.below, fun k hk => ?_, fun q ob hq => ?_, fun q ob k hq hk => ?_, h.dist⟩, hle⟩
  · rcases hk with hk | rfl
    · exact h.im k hk
    · exact ⟨hb, .inr hb0⟩
  · obtain ⟨h1, h2⟩ := h.ob q ob hq
    exact ⟨h1, h2.mono h1 hle (Stable.refl _ _) (Nat.le_refl _) (fun _ _ => rfl)⟩
  · obtain ⟨h1, h2, h3⟩ := h.live q ob k hq hk
    exact ⟨h1, h2, fun hi => by
      rcases hi with hi | rfl
      · exact h3 hi
      · exact hno q ob hq hk⟩
theorem strBytes_ok {s t : TypeId} {x : Operand} (ho : o.op = .convert s t x) {e : TypeId} (hs : P.underlying s = some .string) (ht : P.underlying t = some (.slice e)) (he : P.underlying e = some (.int .u8)) {dx r : D} (hx : (ρ x).dat = some dx) (hr : dx.toBytes = some r) :
    OpOk P o ρ mem (.t (.one (.d r))) [] [] [] := by
  intro w0 E mem' w a K Q hS _ _ hops hK
  unfold D.toBytes at hr
  split at hr
  · rename_i b
    split at hr
    · rename_i hsz
      injection hr with hr; subst hr
      obtain ⟨e1, _⟩ := AV.dat_v hx (hops x (by simp [ho, Op.operands]))
      obtain ⟨G, hG⟩ : ∃ G, G = grownCap w b.size 0 e := ⟨_, rfl⟩
      have hge : b.size ≤ G := hG ▸ grownCap_ge w _ _ _
      have hle : G ≤ maxLen := hG ▸ grownCap_le_maxLen w _ _ _ (by simp only [maxLen]; omega)
      have hrun := run_bytes_of_string (P := P) w s t e b hs ht he
      rw [← hG] at hrun
      generalize hW : w.drew.alloc (.cells (bytesRow b G) e ((bytesRow b G).size, (bytesRow b G).size + 1)) = W at hrun
      have hbel : Below w.heap.size w W := by rw [← hW]; exact (Below.refl _ _).drew.alloc (Nat.le_refl _) _
      have hnew : W.heap[w.heap.size]? = some (.cells (bytesRow b G) e ((bytesRow b G).size, (bytesRow b G).size + 1)) := by rw [← hW]; exact heap_alloc_new w.drew _
      have hlt : w.heap.size < W.heap.size := (Array.getElem?_eq_some_iff.1 hnew).1
      obtain ⟨hS', hle'⟩ := (hS.step hbel).more hlt hS.below.size (fun q ob hq hk => by have := (hS.live q ob _ hq hk).2.1; omega)
      refine wp_of_run (v := .slice (some ⟨w.heap.size, 0, none⟩) b.size G) (w' := W) (by simp [execOp, ho, e1, hrun]) ?_
      have hcells : ∀ k d, (flat (b.data.toList.map fun c => D.v (.int .u8 (c.toNat : Nat))))[k]? = some d → ∃ c : UInt8, b.data[k]? = some c ∧ d = D.v (.int .u8 (c.toNat : Nat)) := fun k d hk => by
        have hf : ∀ l : List UInt8, flat (l.map fun c => D.v (.int .u8 (c.toNat : Nat))) = l.map fun c => D.v (.int .u8 (c.toNat : Nat)) := by
          intro l
          induction l with
          | nil => rfl
          | cons c l ih => simp only [flat, List.map_cons, List.flatMap_cons] at ih ⊢; rw [ih]; rfl
        rw [hf, List.getElem?_map, Option.map_eq_some_iff] at hk
        obtain ⟨c, h1, rfl⟩ := hk
        exact ⟨c, by simpa using h1, rfl⟩
      refine hK ⟨E.ι, E.bn, fun k => E.im k ∨ k = w.heap.size, E.od⟩ W _ hle' (fun r h => .inl h) (hS.stable hbel) ?_ hS'
      refine Reads.sl (fun k => ((bytesRow b G)[k]?).getD undef) (fun _ => rfl) (fun _ => .inr rfl) (by rw [List.length_map, Array.length_toList]; rfl) hge hle (fun x hx => by obtain ⟨c, _, rfl⟩ := List.mem_map.1 hx; rfl) (fun k d hk => ?_) (fun k d hk => ?_)
      · obtain ⟨c, h1, rfl⟩ := hcells k d hk
        have h2 : (bytesRow b G)[k]? = some (.int .u8 (c.toNat : Nat)) := by
          have hk2 : k < b.data.size := (Array.getElem?_eq_some_iff.1 h1).1
          unfold bytesRow
          rw [Array.getElem?_append_left (by simpa using hk2)]
          simp [h1]
        rw [cell_row hnew, Nat.zero_add, h2]; rfl
      · obtain ⟨c, h1, rfl⟩ := hcells k d hk
        have h2 : (bytesRow b G)[k]? = some (.int .u8 (c.toNat : Nat)) := by
          have hk2 : k < b.data.size := (Array.getElem?_eq_some_iff.1 h1).1
          unfold bytesRow
          rw [Array.getElem?_append_left (by simpa using hk2)]
          simp [h1]
        rw [h2]
        show Reads _ W (.int .u8 (c.toNat : Nat)) _
        exact .v rfl
    · cases hr
  · cases hr
/-- A slice that is not empty. -/
def NonE (sz : Nat) (l : D) : Prop := ∃ es, l = .sl sz es ∧ es ≠ []
theorem markRow_ok {t : TypeId} {x : Operand} (ho : o.op = .convert t t x) {e : TypeId} (hd : P.underlying t = some (.slice e)) (he : P.underlying e = some (.int .u8)) {r sz : Nat} {l : D} (hx : ρ x = .t (.one (.row r))) (hm : mem r = some (.row sz l)) (hl : NonE sz l) :
    OpOk P o ρ mem (.t (.one (.d l))) [r] [] [(r, none)] := by
  intro w0 E mem' w a K Q hS hacc _ hops hK
  obtain ⟨es, rfl, hne⟩ := hl
  have h0 := hops x (by simp [ho, Op.operands])
  rw [hx] at h0
  obtain ⟨hbn, hv, _⟩ := h0
  have hmr := (hacc r (by simp)).trans hm
  obtain ⟨_, hrow⟩ := hS.ob r _ hmr
  have hrow : RowRep E w sz (E.ι r) (.sl sz es) := hrow
  rcases hrow with ⟨h, _⟩ | ⟨es', h, hw, ⟨h2, _⟩ | ⟨b, c, T, cur, k1, k2, k3, k4, k5, k6, k7⟩⟩
  · cases h
  · injection h with _ h; subst h; exact absurd h2 hne
  · injection h with _ h; subst h
    have hk : obk (.row sz (.sl sz es)) (E.ι r) = some b := by rw [k1]; simp [obk, blk]; omega
    obtain ⟨l1, l2, l3⟩ := hS.live r _ b hmr hk
    have hsh : w.shape? b = some (T, cur.size) := by unfold World.shape?; rw [k2]
    let w' := w.freeze ⟨b, cur.size, none⟩ 1
    have hheap : w'.heap = w.heap.modify b (fun | .cells c elem (lo, hi) => .cells c elem (if lo == hi then (cur.size, cur.size + 1) else (min lo cur.size, max hi (cur.size + 1))) | o => o) := by
      show (w.freeze ⟨b, cur.size, none⟩ 1).heap = _
      unfold World.freeze
      rw [if_neg (by decide)]
      rfl
    have hb : w'.heap[b]? = some (.cells cur T (cur.size, cur.size + 1)) := by
      rw [hheap, Array.getElem?_modify, if_pos rfl, k2]; rfl
    have hoth : ∀ k, k ≠ b → w'.heap[k]? = w.heap[k]? := fun k hk => by
      rw [hheap, Array.getElem?_modify, if_neg (Ne.symm hk)]
    have hsz : w'.heap.size = w.heap.size := by rw [hheap, Array.size_modify]
    have hst : Stable E.im w w' := fun k hk => hoth k (fun e => l3 (e ▸ hk))
    have hrun : (execOp a.eval o).run P w = .ok (.value (a.eval x)) w' := by
      have e1 : a.eval x = .slice (some ⟨b, 0, none⟩) es.length c := hv.trans k1
      unfold execOp
      simp only [ho, e1]
      simp [convert, run_underlying hd, run_underlying he, markStringish, hsh]
      rfl
    have hle : E.le (E.frz r) := ⟨fun _ h => h, fun _ _ => rfl, fun _ h => .inl h, fun _ h => h⟩
    have hfr : ∀ k, (E.frz r).im k → E.im k ∨ k = b := fun k hk => by
      rcases hk with hk | ⟨o', n', c', h1, _⟩
      · exact .inl hk
      · rw [k1] at h1
        simp only [Value.slice.injEq, Option.some.injEq, Addr.mk.injEq] at h1
        exact .inr h1.1.1.symm
    have hbf : (E.frz r).im b := .inr ⟨0, es.length, c, k1, by omega⟩
    have cases_ : ∀ q y, upd mem' r none q = some y → q ≠ r ∧ mem' q = some y := fun q y hq => by
      by_cases e : q = r
      · subst e; rw [upd_same] at hq; cases hq
      · rw [upd_ne _ _ e] at hq; exact ⟨e, hq⟩
    have hS' : Sim w0 (E.frz r) (upd mem' r none) w' := by
      refine ⟨?_, fun k hk => ?_, fun q y hq => ?_, fun q y k hq hk' => ?_, fun q q' y y' k hq hq' hk' hk2 => ?_⟩
      · exact hS.below.trans ⟨rfl, rfl, rfl, by rw [hsz]; exact Nat.le_refl _, fun k hk => hoth k (by omega)⟩
      · rw [hsz]
        rcases hfr k hk with hk | rfl
        · exact hS.im k hk
        · exact ⟨l2, .inr l1⟩
      · obtain ⟨hne', hq⟩ := cases_ q y hq
        obtain ⟨h1, h2⟩ := hS.ob q y hq
        exact ⟨h1, h2.mono h1 hle hst (by rw [hsz]; exact Nat.le_refl _) (fun k hk' => hoth k (fun e => by subst e; exact hne' (hS.dist q r y _ _ hq hmr hk' hk)))⟩
      · obtain ⟨hne', hq⟩ := cases_ q y hq
        obtain ⟨h1, h2, h3⟩ := hS.live q y k hq hk'
        refine ⟨h1, by rw [hsz]; exact h2, fun hi => ?_⟩
        rcases hfr k hi with hi | rfl
        · exact h3 hi
        · exact hne' (hS.dist q r y _ _ hq hmr hk' hk)
      · obtain ⟨_, hq⟩ := cases_ q y hq
        obtain ⟨_, hq'⟩ := cases_ q' y' hq'
        exact hS.dist q q' y y' k hq hq' hk' hk2
    refine wp_of_run hrun ?_
    refine hK (E.frz r) w' _ hle (fun r h => .inl h) hst ?_ hS'
    show Reads (E.frz r).im w' (a.eval x) (.sl sz es)
    rw [hv, k1]
    refine .sl (fun k => (cur[k]?).getD undef) (fun _ => rfl) (fun _ => hbf) rfl k3 k5 hw (fun k d hk => ?_) (fun k d hk => ?_)
    · obtain ⟨u, hu, _⟩ := k7.getR hk
      rw [List.getElem?_take] at hu
      split at hu
      · rw [Nat.zero_add, cell_row hb]
        have : cur[k]? = some u := by simpa using hu
        rw [this]; rfl
      · cases hu
    · obtain ⟨u, hu, hr⟩ := k7.getR hk
      rw [List.getElem?_take] at hu
      split at hu
      · have : cur[k]? = some u := by simpa using hu
        simp only [this, Option.getD_some]
        exact hr.mono hst hle.im
      · cases hu
end
end Go.Proofs.Ytjdemohgegldaaa
