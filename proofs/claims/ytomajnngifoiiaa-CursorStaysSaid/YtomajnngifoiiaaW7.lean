/-
  Bytes read of a slice, whatever slice it is; appending them to a row of the call's own.
-/
import Derived.Test.YtomajnngifoiiaaW6
import Derived.WalkKit
import Derived.Laws.AppendOwnNone
import Derived.Lib.ConvBytes
import Derived.Lib.BufferRead
namespace Go.Proofs.Ytomajnngifoiiaa
open Go.RowKit

/-- The cells of bytes. -/
def cellsOf (bs : List UInt8) : List Value := bs.map fun b => .int .u8 (b.toNat : Int)
theorem cellsOf_append (a b : List UInt8) : cellsOf (a ++ b) = cellsOf a ++ cellsOf b := List.map_append
theorem cellsOf_length (a : List UInt8) : (cellsOf a).length = a.length := List.length_map _
theorem cellsOf_at (bs : List UInt8) (j : Nat) (hj : j < bs.length) : (cellsOf bs)[j]? = some (.int .u8 (bs[j].toNat : Int)) := by simp [cellsOf, hj]
theorem cellsOf_one (bs : List UInt8) : ∀ u ∈ cellsOf bs, u.oneCell' = true := by
  intro u hu
  obtain ⟨b, _, rfl⟩ := List.mem_map.1 hu
  rfl

/-- The slice reads as these bytes. -/
def Rd (w : World) (v : Value) (bs : List UInt8) : Prop :=
  ∃ ao c, v = .slice ao bs.length c ∧ bs.length ≤ c ∧ c ≤ maxLen ∧ (ao = none → c = 0 ∧ bs = []) ∧
    (bs = [] ∨ ∃ g o, ao = some ⟨g, o, none⟩ ∧ g < w.heap.size ∧ ∀ j (hj : j < bs.length), w.cell? ⟨g, o + j, none⟩ = some (.int .u8 (bs[j].toNat : Int)))
theorem Rd.below {w w' : World} {v : Value} {bs : List UInt8} {B : Nat} (h : Rd w v bs) (hB : w.heap.size ≤ B) (hb : Below B w w') : Rd w' v bs := by
  obtain ⟨ao, c, rfl, h1, h2, h3, h4⟩ := h
  refine ⟨ao, c, rfl, h1, h2, h3, h4.imp_right ?_⟩
  rintro ⟨g, o, e, hlt, hc⟩
  exact ⟨g, o, e, Nat.lt_of_lt_of_le hlt hb.size, fun j hj => (hb.cell (p := ⟨g, o + j, none⟩) (Nat.lt_of_lt_of_le hlt hB)).trans (hc j hj)⟩
theorem Rd.cells {w : World} {ad : Addr} {n c : Nat} {bs : List UInt8} (h : Rd w (.slice (some ad) n c) bs) : n = bs.length ∧ ∀ j u, (cellsOf bs)[j]? = some u → w.cell? (ad.add j) = some u := by
  obtain ⟨ao, c', e, h1, h2, h3, h4⟩ := h
  injection e with e1 e2 e3
  subst e1 e2
  refine ⟨rfl, fun j u hu => ?_⟩
  have hj : j < bs.length := by
    have := (List.getElem?_eq_some_iff.1 hu).1
    rwa [cellsOf_length] at this
  rcases h4 with h4 | ⟨g, o, e, hlt, hc⟩
  · rw [h4] at hj; simp at hj
  · injection e with e
    subst e
    rw [cellsOf_at bs j hj] at hu
    have ea : (Addr.mk g o none).add j = ⟨g, o + j, none⟩ := by
      unfold Addr.add
      split
      · rename_i h; simp
      · rfl
    rw [ea, hc j hj, hu]
theorem Rd.nil_ {w : World} {n c : Nat} {bs : List UInt8} (h : Rd w (.slice none n c) bs) : n = 0 ∧ c = 0 ∧ bs = [] := by
  obtain ⟨ao, c', e, h1, h2, h3, h4⟩ := h
  injection e with e1 e2 e3
  subst e1 e2 e3
  obtain ⟨rfl, rfl⟩ := h3 rfl
  exact ⟨rfl, rfl, rfl⟩
/-- What is owned reads so. -/
theorem Rd.own {w : World} {base e : Nat} {v : Value} {n : Nat} {bs : List UInt8} (h : w.ownsRow base e 1 v n (cellsOf bs)) : Rd w v bs := by
  have hl := h.1
  rw [cellsOf_length, Nat.mul_one] at hl
  rcases h.2 with ⟨rfl, hn⟩ | ⟨g, cap, cur, rfl, hb, hg, hnc, hcm, hcs, ht⟩
  · have hb : bs = [] := List.eq_nil_of_length_eq_zero (by omega)
    subst hb
    subst hn
    exact ⟨_, _, rfl, Nat.le_refl _, Nat.zero_le _, fun _ => ⟨rfl, rfl⟩, .inl rfl⟩
  · refine ⟨some ⟨g, 0, none⟩, cap, by rw [hl], by omega, hcm, fun h => (by cases h), .inr ⟨g, 0, rfl, (Array.getElem?_eq_some_iff.1 hg).1, fun j hj => ?_⟩⟩
    have := h.cellAt j (by omega)
    rw [Nat.zero_add, this, cellsOf_at bs j hj]
/-- What came in reads so. -/
theorem Rd.row {w : World} {A : Option Addr} {len cap : Nat} {zs : List Int} (h : IsRow .u8 w A len cap zs) (hA : A = .none → cap = 0) : Rd w (.slice A len cap) (zs.map fun z => UInt8.ofNat z.toNat) := by
  obtain ⟨h1, h2, h3, h4, h5⟩ := h
  refine ⟨A, cap, by rw [List.length_map, h1], by rw [List.length_map]; omega, h3, ?_, ?_⟩
  · intro e
    have := hA e
    refine ⟨this, ?_⟩
    have : zs = [] := List.eq_nil_of_length_eq_zero (by omega)
    rw [this]; rfl
  · rcases h5 with h5 | ⟨b, o, e, hlt, hc⟩
    · left
      have : zs = [] := List.eq_nil_of_length_eq_zero (by omega)
      rw [this]; rfl
    · refine .inr ⟨b, o, e, hlt, fun j hj => ?_⟩
      have hj' : j < zs.length := by simpa using hj
      rw [hc j (by omega)]
      have hz := wf_u8 (h4 zs[j] (List.getElem_mem hj'))
      have e1 : zs.getD j 0 = zs[j] := by rw [List.getD_eq_getElem?_getD]; simp [hj']
      rw [e1, List.getElem_map]
      have e2 : ((UInt8.ofNat zs[j].toNat).toNat : Int) = zs[j] := by
        rw [UInt8.toNat_ofNat']; omega
      rw [e2]

/-- append of bytes that are read of whatever slice, to a row of the call's own. -/
theorem wpList_append_rd {P : Program} {w : World} {ops : Array Oper} {rest : List Oper} {o : Oper} {a : Act} {Q : Exit → Act → World → Prop} (hgd : o.guard = Option.none) (s x : Operand) (t : TypeId)
    (ho : o.op = .call { callee := .builtin .append, args := #[s, x], argTypes := #[t, t] })
    (base : Nat) (e : TypeId) (i : TypeInfo) (z : Value) (bytes : Nat) (ht : P.underlying t = some (.slice e)) (hi : P.info? e = some i) (hz : i.zero = some z)
    (hsize : i.size = 1) (hby : i.bytes = bytes) (hzs : z.cells.size = 1)
    (v : Value) (n : Nat) (xs : List Value) (hs : a.eval s = v) (hown : w.ownsRow base e 1 v n xs)
    (vx : Value) (bs : List UInt8) (hx : a.eval x = vx) (hrd : Rd w vx bs)
    (h63 : n + bs.length ≤ maxLen) (hbytes : (n + bs.length) * bytes ≤ 140737488355328) (hbase : base ≤ w.heap.size)
    (h : ∀ v' w', w'.ownsRow base e 1 v' (n + bs.length) (xs ++ cellsOf bs) → w.grownBy w' v.ownBlock → wpList P ops Q rest (a.put o.dst v') w') : wpList P ops Q (o :: rest) a w := by
  obtain ⟨ao, c, rfl, h1, h2, h3, h4⟩ := id hrd
  cases ao with
  | some ad =>
    exact wpList_append_own _ hgd s x t ho base e i z 1 bytes ht hi hz hsize hby hzs (by decide) v n xs hs hown ad bs.length c (cellsOf bs) hx (by rw [cellsOf_length, Nat.mul_one]) hrd.cells.2 (cellsOf_one bs) h63 hbytes hbase fun v' w' k1 k2 _ => h v' w' k1 k2
  | none =>
    obtain ⟨rfl, hb⟩ := h3 rfl
    subst hb
    refine wpList_append_own_none hgd s x t ho base e i 1 ht hi v n xs hs hown hx (h v w ?_ (World.grownBy.refl w _))
    simpa [cellsOf] using hown

/-- string(b) of whatever slice. -/
theorem run_string_rd {P : Program} {w : World} {v : Value} {bs : List UInt8} (src dst e : TypeId) (hs : P.underlying src = some (.slice e)) (he : P.underlying e = some (.int .u8)) (hd : P.underlying dst = some .string) (h : Rd w v bs) :
    (convert src dst v).run P w = .ok (.string ⟨bs.toArray⟩) w := by
  obtain ⟨ao, c, rfl, h1, h2, h3, h4⟩ := id h
  cases ao with
  | some ad =>
    refine run_convert_bytes_back w src dst e ad c bs hs he hd fun j hj => ?_
    exact h.cells.2 j _ (cellsOf_at bs j hj)
  | none =>
    obtain ⟨rfl, hb⟩ := h3 rfl
    subst hb
    exact Lib.run_convert_nil_bytes w src dst e 0 hs he hd
end Go.Proofs.Ytomajnngifoiiaa
