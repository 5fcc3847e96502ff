/-
  Rows of numbers of the call's own: read, appended.
-/
import Derived.Test.YtjkbhmlpmapobaaW10
import Derived.WalkKit
import Derived.Laws.AppendOwnNone
namespace Go.Proofs.Ytjkbhmlpmapobaa
open Go.RowKit

theorem info3 : (Try.prog.info? 3).map (fun i => (i.zero, i.size, i.bytes)) = some (some (.int .i64 0), 1, 8) := by kernel_rfl

/-- The cells of numbers. -/
def cellsOf (zs : List Int) : List Value := zs.map (Value.int .i64)
theorem cellsOf_append (a b : List Int) : cellsOf (a ++ b) = cellsOf a ++ cellsOf b := List.map_append
theorem cellsOf_length (a : List Int) : (cellsOf a).length = a.length := List.length_map _
theorem cellsOf_one (zs : List Int) : ∀ u ∈ cellsOf zs, u.oneCell' = true := by
  intro u hu
  obtain ⟨b, _, rfl⟩ := List.mem_map.1 hu
  rfl
theorem IsRow.cells {w : World} {ad : Addr} {n c : Nat} {zs : List Int} (h : IsRow .i64 w (some ad) n c zs) : ∀ j u, (cellsOf zs)[j]? = some u → w.cell? (ad.add j) = some u := by
  intro j u hu
  obtain ⟨h1, h2, h3, h4, h5⟩ := h
  have hj : j < zs.length := by
    have := (List.getElem?_eq_some_iff.1 hu).1
    rwa [cellsOf_length] at this
  rcases h5 with h5 | ⟨b, o, e, hlt, hc⟩
  · omega
  · injection e with e
    subst e
    have ea : (Addr.mk b o none).add j = ⟨b, o + j, none⟩ := by
      unfold Addr.add
      split
      · rename_i h; simp
      · rfl
    rw [ea, hc j (by omega), ← hu]
    simp [cellsOf, List.getD_eq_getElem?_getD, hj]
theorem IsRow.none_ {w : World} {n c : Nat} {zs : List Int} (h : IsRow .i64 w none n c zs) : n = 0 ∧ c = 0 ∧ zs = [] := by
  obtain ⟨h1, h2, h3, h4, h5⟩ := h
  rcases h5 with h5 | ⟨b, o, e, _⟩
  · exact ⟨by omega, h5, List.eq_nil_of_length_eq_zero (by omega)⟩
  · cases e
/-- What is owned is a row. -/
theorem row_own {w : World} {base e : Nat} {v : Value} {n : Nat} {zs : List Int} (h : w.ownsRow base e 1 v n (cellsOf zs)) (hz : ∀ z ∈ zs, (Lit.int .i64 z).wf = true) : ∃ A cap, v = .slice A n cap ∧ IsRow .i64 w A n cap zs := by
  have hl := h.1
  rw [cellsOf_length, Nat.mul_one] at hl
  rcases h.2 with ⟨rfl, hn⟩ | ⟨g, cap, cur, rfl, hb, hg, hnc, hcm, hcs, ht⟩
  · subst hn
    exact ⟨_, _, rfl, hl, Nat.le_refl _, Nat.zero_le _, hz, .inl rfl⟩
  · refine ⟨_, _, rfl, hl, hnc, hcm, hz, .inr ⟨g, 0, rfl, (Array.getElem?_eq_some_iff.1 hg).1, fun j hj => ?_⟩⟩
    have := h.cellAt j (by omega)
    rw [Nat.zero_add, this]
    have hj' : j < zs.length := by omega
    simp [cellsOf, List.getD_eq_getElem?_getD, hj']

/-- append of a row of numbers to a row of the call's own. -/
theorem wpList_append_row {P : Program} {w : World} {ops : Array Oper} {rest : List Oper} {o : Oper} {a : Act} {Q : Exit → Act → World → Prop} (hgd : o.guard = none) (s x : Operand) (t : TypeId)
    (ho : o.op = .call { callee := .builtin .append, args := #[s, x], argTypes := #[t, t] })
    (base : Nat) (e : TypeId) (i : TypeInfo) (z : Value) (bytes : Nat) (ht : P.underlying t = some (.slice e)) (hi : P.info? e = some i) (hz : i.zero = some z)
    (hsize : i.size = 1) (hby : i.bytes = bytes) (hzs : z.cells.size = 1)
    (v : Value) (n : Nat) (xs : List Value) (hs : a.eval s = v) (hown : w.ownsRow base e 1 v n xs)
    (A : Option Addr) (m c : Nat) (zs : List Int) (hx : a.eval x = .slice A m c) (hrd : IsRow .i64 w A m c zs)
    (h63 : n + m ≤ maxLen) (hbytes : (n + m) * bytes ≤ 140737488355328) (hbase : base ≤ w.heap.size)
    (h : ∀ v' w', w'.ownsRow base e 1 v' (n + m) (xs ++ cellsOf zs) → w.grownBy w' v.ownBlock → wpList P ops Q rest (a.put o.dst v') w') : wpList P ops Q (o :: rest) a w := by
  cases A with
  | some ad =>
    exact wpList_append_own _ hgd s x t ho base e i z 1 bytes ht hi hz hsize hby hzs (by decide) v n xs hs hown ad m c (cellsOf zs) hx (by rw [cellsOf_length, Nat.mul_one]; exact hrd.1) hrd.cells (cellsOf_one zs) h63 hbytes hbase fun v' w' k1 k2 _ => h v' w' k1 k2
  | none =>
    obtain ⟨rfl, rfl, rfl⟩ := hrd.none_
    refine wpList_append_own_none hgd s x t ho base e i 1 ht hi v n xs hs hown hx (h v w ?_ (World.grownBy.refl w _))
    simpa [cellsOf] using hown
/-- One number in a block of its own is a row. -/
theorem row_one (w : World) (z : Int) (hz : (Lit.int .i64 z).wf = true) : IsRow .i64 (w.alloc (.cells #[.int .i64 z] 3)) (some ⟨w.heap.size, 0, none⟩) 1 1 [z] := by
  refine ⟨rfl, Nat.le_refl _, by simp [maxLen], fun y hy => (by simp at hy; rw [hy]; exact hz), .inr ⟨_, _, rfl, by simp, fun i hi => ?_⟩⟩
  match i, hi with
  | 0, _ => simp
theorem i16_i64 {z : Int} (h : (Lit.int .i16 z).wf = true) : (Lit.int .i64 z).wf = true := by
  obtain ⟨h1, h2⟩ := wf_i16 h
  have e1 : IntKind.i64.min = -9223372036854775808 := rfl
  have e2 : IntKind.i64.max = 9223372036854775807 := rfl
  simp only [Lit.wf, Bool.and_eq_true, decide_eq_true_eq]
  omega
end Go.Proofs.Ytjkbhmlpmapobaa
