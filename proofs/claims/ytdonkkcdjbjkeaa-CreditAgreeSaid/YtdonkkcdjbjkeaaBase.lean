/-
  Words for all walks of this seat: blocks of the call's own with their cells, what a call keeps of them, structs and slices of structs that come in.
-/
import Derived.Test.YtdonkkcdjbjkeaaKit
import Derived.Deep.SlicePairs
import Derived.Deep.Fields
import Derived.Laws.AppendOwnNone
namespace Go.Proofs.Ytdonkkcdjbjkeaa
open Go.RowKit

/-- Two steps of a call: what was there below the first world's end is as it was. -/
theorem bt {w a b : World} (h : Below w.heap.size w a) (k : Below a.heap.size a b) : Below w.heap.size w b := h.trans (k.mono h.size)
/-- A contract over what an earlier world had. -/
theorem rel_of {f : FuncId} {args : Array Value} {v : Value} {w0 w : World} (h : Calls Try.prog f args w fun e w' => e = .returned v ∧ Below w.heap.size w w') (hb : Below w0.heap.size w0 w) :
    Calls Try.prog f args w fun e w' => e = .returned v ∧ Below w0.heap.size w0 w' := h.mono fun _ _ ⟨he, hw⟩ => ⟨he, bt hb hw⟩
/-- A contract that tells the exact world, told with less. -/
theorem less_of {f : FuncId} {args : Array Value} {v : Value} {w : World} {o : Obj} (h : Calls Try.prog f args w fun e w' => e = .returned v ∧ w.alloc o = w') :
    Calls Try.prog f args w fun e w' => e = .returned v ∧ Below w.heap.size w w' := h.mono fun _ _ ⟨he, hw⟩ => ⟨he, by rw [← hw]; exact (Below.refl _ _).alloc (Nat.le_refl _) _⟩
/-- Behind a call the old cells read as before. -/
theorem bcell {W w1 : World} (hb : Below W.heap.size W w1) : (∀ b o, b < W.heap.size → w1.cell? ⟨b, o, none⟩ = W.cell? ⟨b, o, none⟩) ∧ (∀ b o, b < W.heap.size → w1.frozen? ⟨b, o, none⟩ = W.frozen? ⟨b, o, none⟩) :=
  ⟨fun b o h => hb.cell (p := ⟨b, o, none⟩) h, fun b o h => hb.frozen (p := ⟨b, o, none⟩) h⟩

/-- A block of the call's own: its cells, all of them free. -/
def Cs (w : World) (b : Nat) (vs : List Value) : Prop := ∀ i u, vs[i]? = some u → w.cell? ⟨b, i, none⟩ = some u ∧ w.frozen? ⟨b, i, none⟩ = false
theorem Cs.below {w w' : World} {b B : Nat} {vs : List Value} (h : Cs w b vs) (hb : Below B w w') (hB : b < B) : Cs w' b vs :=
  fun i u hu => ⟨(hb.cell (p := ⟨b, i, none⟩) hB).trans (h i u hu).1, (hb.frozen (p := ⟨b, i, none⟩) hB).trans (h i u hu).2⟩
theorem Cs.new (w : World) (vs : List Value) (t : TypeId) : Cs (w.alloc (.cells vs.toArray t)) w.heap.size vs := by
  intro i u hu
  constructor
  · simp [World.cell?_alloc_new, hu]
  · simp [go_sem]
theorem Cs.newAt (w : World) (H : Nat) (hH : w.heap.size = H) (vs : List Value) (t : TypeId) : Cs (w.alloc (.cells vs.toArray t)) H vs := by subst hH; exact Cs.new w vs t
theorem Cs.alloc {w : World} {b : Nat} {vs : List Value} (h : Cs w b vs) (hb : b < w.heap.size) (o : Obj) : Cs (w.alloc o) b vs :=
  h.below ((Below.refl w.heap.size w).alloc (Nat.le_refl _) o) hb
theorem Cs.drew {w : World} {b : Nat} {vs : List Value} (h : Cs w b vs) : Cs w.drew b vs := h
theorem Cs.set {w : World} {b : Nat} {vs : List Value} (h : Cs w b vs) (i : Nat) (u : Value) : Cs (w.setCell ⟨b, i, none⟩ u) b (vs.set i u) := by
  intro j v hv
  by_cases hij : i = j
  · subst hij
    have hl : i < vs.length := by
      have := (List.getElem?_eq_some_iff.1 hv).1
      simpa using this
    have hv' : v = u := by simpa [hl] using hv.symm
    subst hv'
    obtain ⟨h1, h2⟩ := h i vs[i] (by simp [hl])
    exact ⟨by simp [go_sem, h1], by simp [go_sem, h2]⟩
  · rw [List.getElem?_set_ne hij] at hv
    obtain ⟨h1, h2⟩ := h j v hv
    exact ⟨by rw [World.cell?_setCell_other _ _ _ _ (by intro e; injection e with _ e; exact hij e)]; exact h1, by simp [go_sem, h2]⟩
theorem Cs.far {w : World} {b : Nat} {vs : List Value} (h : Cs w b vs) {g : Nat} (hne : g ≠ b) (i : Nat) (u : Value) : Cs (w.setCell ⟨g, i, none⟩ u) b vs := by
  intro j v hv
  obtain ⟨h1, h2⟩ := h j v hv
  exact ⟨by rw [World.cell?_setCell_other _ _ _ _ (by intro e; injection e with e; exact hne e)]; exact h1, by simp [go_sem, h2]⟩
/-- The world with values laid into a block, from a place on. -/
def layC (w : World) (b : Nat) : Nat → List Value → World
  | _, [] => w
  | i, v :: vs => layC (w.setCell ⟨b, i, none⟩ v) b (i + 1) vs
def over : List Value → Nat → List Value → List Value
  | us, _, [] => us
  | us, i, v :: vs => over (us.set i v) (i + 1) vs
theorem Cs.lay {b : Nat} (vs : List Value) : ∀ {w : World} {us : List Value} (i : Nat), Cs w b us → Cs (layC w b i vs) b (over us i vs) := by
  induction vs with
  | nil => intro w us i h; exact h
  | cons v vs ih => intro w us i h; exact ih (i + 1) (h.set i v)
theorem Cs.layFar {b g : Nat} (hne : g ≠ b) {us : List Value} (vs : List Value) : ∀ {w : World} (i : Nat), Cs w b us → Cs (layC w g i vs) b us := by
  induction vs with
  | nil => intro w i h; exact h
  | cons v vs ih => intro w i h; exact ih (i + 1) (h.far hne i v)
theorem below_layC {B b : Nat} (hb : B ≤ b) (vs : List Value) : ∀ {w0 w : World} (i : Nat), Below B w0 w → Below B w0 (layC w b i vs) := by
  induction vs with
  | nil => intro w0 w i h; exact h
  | cons v vs ih => intro w0 w i h; exact ih (i + 1) (h.setCell (p := ⟨b, i, none⟩) hb v)
theorem size_layC {b : Nat} (vs : List Value) : ∀ (w : World) (i : Nat), (layC w b i vs).heap.size = w.heap.size := by
  induction vs with
  | nil => intro w i; rfl
  | cons v vs ih => intro w i; rw [layC, ih]; simp [World.setCell]

section
variable {w : World} {b : Nat} {v0 v1 v2 v3 v4 v5 : Value}
theorem Cs.o1 (h : Cs w b [v0]) : w.cell? ⟨b, 0, none⟩ = some v0 ∧ w.frozen? ⟨b, 0, none⟩ = false := h 0 _ rfl
theorem Cs.o2 (h : Cs w b [v0, v1]) : (w.cell? ⟨b, 0, none⟩ = some v0 ∧ w.cell? ⟨b, 1, none⟩ = some v1) ∧ w.frozen? ⟨b, 0, none⟩ = false ∧ w.frozen? ⟨b, 1, none⟩ = false :=
  ⟨⟨(h 0 _ rfl).1, (h 1 _ rfl).1⟩, (h 0 _ rfl).2, (h 1 _ rfl).2⟩
theorem Cs.o3 (h : Cs w b [v0, v1, v2]) : (w.cell? ⟨b, 0, none⟩ = some v0 ∧ w.cell? ⟨b, 1, none⟩ = some v1 ∧ w.cell? ⟨b, 2, none⟩ = some v2) ∧ w.frozen? ⟨b, 0, none⟩ = false ∧ w.frozen? ⟨b, 1, none⟩ = false ∧ w.frozen? ⟨b, 2, none⟩ = false :=
  ⟨⟨(h 0 _ rfl).1, (h 1 _ rfl).1, (h 2 _ rfl).1⟩, (h 0 _ rfl).2, (h 1 _ rfl).2, (h 2 _ rfl).2⟩
theorem Cs.o4 (h : Cs w b [v0, v1, v2, v3]) : (w.cell? ⟨b, 0, none⟩ = some v0 ∧ w.cell? ⟨b, 1, none⟩ = some v1 ∧ w.cell? ⟨b, 2, none⟩ = some v2 ∧ w.cell? ⟨b, 3, none⟩ = some v3) ∧ w.frozen? ⟨b, 0, none⟩ = false ∧ w.frozen? ⟨b, 1, none⟩ = false ∧ w.frozen? ⟨b, 2, none⟩ = false ∧ w.frozen? ⟨b, 3, none⟩ = false :=
  ⟨⟨(h 0 _ rfl).1, (h 1 _ rfl).1, (h 2 _ rfl).1, (h 3 _ rfl).1⟩, (h 0 _ rfl).2, (h 1 _ rfl).2, (h 2 _ rfl).2, (h 3 _ rfl).2⟩
end

/-- Cells from a place on, as one conjunction. -/
def RdC (w : World) (b : Nat) : Nat → List Value → Prop
  | _, [] => True
  | i, [v] => w.cell? ⟨b, i, none⟩ = some v
  | i, v :: u :: vs => w.cell? ⟨b, i, none⟩ = some v ∧ RdC w b (i + 1) (u :: vs)
theorem Cs.rdFrom {w : World} {b : Nat} : ∀ (vs : List Value) (i : Nat) {us : List Value}, (∀ j u, vs[j]? = some u → us[i + j]? = some u) → Cs w b us → RdC w b i vs := by
  intro vs
  induction vs with
  | nil => intro i us h k; trivial
  | cons v vs ih =>
    intro i us h k
    cases vs with
    | nil => exact (k i v (h 0 v rfl)).1
    | cons u vs => exact ⟨(k i v (h 0 v rfl)).1, ih (i + 1) (fun j x hx => by rw [Nat.add_assoc, Nat.add_comm 1 j]; exact h (j + 1) x hx) k⟩
theorem Cs.rd {w : World} {b : Nat} {vs : List Value} (h : Cs w b vs) : RdC w b 0 vs := Cs.rdFrom vs 0 (fun j u hu => by rw [Nat.zero_add]; exact hu) h

/-- Below the first world's end all is as it was, and these blocks hold these cells. -/
def Keep (w V : World) (l : List (Nat × List Value)) : Prop := Below w.heap.size w V ∧ ∀ x ∈ l, x.1 < V.heap.size ∧ Cs V x.1 x.2
theorem Keep.start (w : World) : Keep w w [] := ⟨Below.refl _ _, fun x hx => by cases hx⟩
theorem Keep.call {w V V' : World} {l : List (Nat × List Value)} (h : Keep w V l) (hb : Below V.heap.size V V') : Keep w V' l :=
  ⟨bt h.1 hb, fun x hx => ⟨Nat.lt_of_lt_of_le (h.2 x hx).1 hb.size, (h.2 x hx).2.below hb (h.2 x hx).1⟩⟩
theorem Keep.drew {w V : World} {l : List (Nat × List Value)} (h : Keep w V l) : Keep w V.drew l := h.call (Below.refl _ _).drew
theorem Keep.made {w V : World} {l : List (Nat × List Value)} (h : Keep w V l) (o : Obj) : Keep w (V.alloc o) l := h.call ((Below.refl _ _).alloc (Nat.le_refl _) _)
theorem Keep.alloc {w V : World} {l : List (Nat × List Value)} (h : Keep w V l) (vs : List Value) (t : TypeId) : Keep w (V.alloc (.cells vs.toArray t)) ((V.heap.size, vs) :: l) := by
  have hb : Below V.heap.size V (V.alloc (.cells vs.toArray t)) := (Below.refl _ _).alloc (Nat.le_refl _) _
  refine ⟨(h.call hb).1, fun x hx => ?_⟩
  rcases List.mem_cons.1 hx with rfl | hx
  · exact ⟨by simp, Cs.new V vs t⟩
  · exact (h.call hb).2 x hx
theorem Keep.allocAt {w V : World} {l : List (Nat × List Value)} (h : Keep w V l) (H : Nat) (hH : V.heap.size = H) (vs : List Value) (t : TypeId) : Keep w (V.alloc (.cells vs.toArray t)) ((H, vs) :: l) := by subst hH; exact h.alloc vs t
theorem Keep.at_ {w V : World} {l : List (Nat × List Value)} (h : Keep w V l) (i : Nat) {b : Nat} {vs : List Value} (hi : l[i]? = some (b, vs)) : b < V.heap.size ∧ Cs V b vs :=
  h.2 _ (List.mem_of_getElem? hi)
theorem Keep.cut {w V : World} {l k : List (Nat × List Value)} (h : Keep w V l) (hk : ∀ x ∈ k, x ∈ l) : Keep w V k := ⟨h.1, fun x hx => h.2 x (hk x hx)⟩
/-- Values laid into one of them that is the call's own. -/
theorem Keep.lay {w V : World} {l : List (Nat × List Value)} (h : Keep w V l) (b i : Nat) (vs : List Value) (hb : w.heap.size ≤ b) :
    Keep w (layC V b i vs) (l.map fun x => if x.1 = b then (x.1, over x.2 i vs) else x) := by
  refine ⟨below_layC hb vs i h.1, fun x hx => ?_⟩
  obtain ⟨y, hy, rfl⟩ := List.mem_map.1 hx
  obtain ⟨h1, h2⟩ := h.2 y hy
  rw [size_layC]
  split
  · rename_i e
    refine ⟨h1, ?_⟩
    show Cs _ y.1 _
    rw [e] at h2 ⊢
    exact Cs.lay vs i h2
  · rename_i e
    exact ⟨h1, Cs.layFar (Ne.symm e) vs i h2⟩
/-- All of them read, as one conjunction. -/
def RdL (w' : World) : List (Nat × List Value) → Prop
  | [] => True
  | [x] => RdC w' x.1 0 x.2
  | x :: y :: l => RdC w' x.1 0 x.2 ∧ RdL w' (y :: l)
theorem rdL_of {w' : World} : ∀ (l : List (Nat × List Value)), (∀ x ∈ l, Cs w' x.1 x.2) → RdL w' l := by
  intro l
  induction l with
  | nil => intro _; trivial
  | cons x l ih =>
    intro h
    cases l with
    | nil => exact (h x (by simp)).rd
    | cons y l => exact ⟨(h x (by simp)).rd, ih fun z hz => h z (by simp [hz])⟩
/-- .. whatever was made since. -/
theorem Keep.held {w V w' : World} {l : List (Nat × List Value)} (h : Keep w V l) (hb : Below V.heap.size V w') : Below V.heap.size V w' ∧ RdL w' l :=
  ⟨hb, rdL_of l fun x hx => ((h.call hb).2 x hx).2⟩

/-- What a region that draws its order keeps: that only newer memory was touched, and what follows of it. -/
theorem with_below {B : Nat} {V w' : World} {A : Prop} (hb : Below B V w') (h : Below B V w' → A) : Below B V w' ∧ A := ⟨hb, h hb⟩

/-- A slice of structs of two numbers that came in. -/
def IsRecs (k0 k1 : IntKind) (w : World) (a : Option Addr) (len cap : Nat) (zs : List (Int × Int)) : Prop :=
  zs.length = len ∧ len ≤ cap ∧ cap ≤ maxLen ∧ (∀ z ∈ zs, (Lit.int k0 z.1).wf = true ∧ (Lit.int k1 z.2).wf = true) ∧
    (cap = 0 ∨ ∃ b o, a = some ⟨b, o, none⟩ ∧ b < w.heap.size ∧ ∀ i, i < len → w.cell? ⟨b, o + i * 2, none⟩ = some (.int k0 (zs.getD i (0, 0)).1) ∧ w.cell? ⟨b, o + i * 2 + 1, none⟩ = some (.int k1 (zs.getD i (0, 0)).2))
theorem IsRecs.below {k0 k1 : IntKind} {w w' : World} {a : Option Addr} {len cap : Nat} {zs : List (Int × Int)} {B : Nat} (h : IsRecs k0 k1 w a len cap zs) (hB : w.heap.size ≤ B) (hb : Below B w w') : IsRecs k0 k1 w' a len cap zs := by
  obtain ⟨h1, h2, h3, h4, h5⟩ := h
  refine ⟨h1, h2, h3, h4, h5.imp_right ?_⟩
  rintro ⟨b, o, e, hlt, hc⟩
  exact ⟨b, o, e, Nat.lt_of_lt_of_le hlt hb.size, fun i hi => ⟨(hb.cell (p := ⟨b, o + i * 2, none⟩) (Nat.lt_of_lt_of_le hlt hB)).trans (hc i hi).1, (hb.cell (p := ⟨b, o + i * 2 + 1, none⟩) (Nat.lt_of_lt_of_le hlt hB)).trans (hc i hi).2⟩⟩
theorem IsRecs.at_ {k0 k1 : IntKind} {w : World} {a : Option Addr} {len cap : Nat} {zs : List (Int × Int)} (h : IsRecs k0 k1 w a len cap zs) {i : Nat} (hi : i < len) :
    ∃ b o, a = some ⟨b, o, none⟩ ∧ b < w.heap.size ∧ (w.cell? ⟨b, o + i * 2, none⟩ = some (.int k0 (zs.getD i (0, 0)).1) ∧ w.cell? ⟨b, o + i * 2 + 1, none⟩ = some (.int k1 (zs.getD i (0, 0)).2)) ∧ (Lit.int k0 (zs.getD i (0, 0)).1).wf = true ∧ (Lit.int k1 (zs.getD i (0, 0)).2).wf = true := by
  obtain ⟨h1, h2, h3, h4, h5⟩ := h
  rcases h5 with h5 | ⟨b, o, e, hlt, hc⟩
  · omega
  · exact ⟨b, o, e, hlt, hc i hi, h4 _ (by rw [List.getD_eq_getElem?_getD]; simp [show i < zs.length by omega])⟩
section
variable {H : Type} {enc : TypeId × Value → H} {P : Program} {w : World}
theorem recs_of {t e : TypeId} {f0 f1 : Field} {k0 k1 : IntKind} {a : Option Addr} {len cap : Nat} {d : DataW H} {ps : List MemPlace} (ht : P.underlying t = some (.slice e)) (he : P.underlying e = some (.struct #[f0, f1]))
    (ce : P.cellsOf e = 2) (o0 : f0.offset = 0) (o1 : f1.offset = 1) (c0 : P.cellsOf f0.type = 1) (c1 : P.cellsOf f1.type = 1) (t0 : P.underlying f0.type = some (.int k0)) (t1 : P.underlying f1.type = some (.int k1))
    (h : DataW.Trod enc P w 0 (fun _ => true) true t (.slice a len cap) d ps) : ∃ zs, IsRecs k0 k1 w a len cap zs := by
  obtain ⟨fuel, hf⟩ := h
  rcases Go.Deep.open_slice_pairs ht he ce o0 o1 c0 c1 hf with ⟨hcs, _⟩ | ⟨x, l, c, m, n, V0, V1, D0, D1, P0, P1, hcs, _, hl, hm, hmm, _, hx⟩
  · simp [Value.cells] at hcs
    obtain ⟨rfl, rfl, rfl⟩ := hcs
    exact ⟨[], rfl, Nat.le_refl _, Nat.zero_le _, by simp, .inl rfl⟩
  · simp [Value.cells] at hcs
    obtain ⟨rfl, rfl, rfl⟩ := hcs
    simp only [if_true] at hmm
    subst hmm
    have hz : ∀ i, i < m → ∃ z : Int × Int, (V0 i = .int k0 z.1 ∧ V1 i = .int k1 z.2) ∧ (Lit.int k0 z.1).wf = true ∧ (Lit.int k1 z.2).wf = true := by
      intro i hi
      obtain ⟨_, _, h0, h1⟩ := hx i hi
      obtain ⟨z0, e0, _, w0⟩ := DataW.trod_int t0 h0
      obtain ⟨z1, e1, _, w1⟩ := DataW.trod_int t1 h1
      exact ⟨(z0, z1), ⟨by simpa using e0, by simpa using e1⟩, w0, w1⟩
    obtain ⟨z, hz⟩ := Go.Deep.choose_lt hz
    refine ⟨(List.range len).map z, by simp, hl, hm, ?_, ?_⟩
    · intro y hy
      obtain ⟨i, hi, rfl⟩ := List.mem_map.1 hy
      have := List.mem_range.1 hi
      exact (hz i (by omega)).2
    · rcases Nat.eq_zero_or_pos m with h0 | h0
      · exact .inl h0
      · obtain ⟨b, o, s⟩ := x
        have g0 := (hx 0 (by omega)).1
        have g0' : w.cell? ⟨b, o, s⟩ = some (V0 0) := by simpa [Addr.add] using g0
        have hs : s = none := by simpa using World.cell?_spot g0'
        subst hs
        have ea : ∀ q, (Addr.mk b o none).add q = ⟨b, o + q, none⟩ := by
          intro q
          unfold Addr.add
          split
          · rename_i h; simp
          · rfl
        refine .inr ⟨b, o, rfl, ?_, fun i hi => ?_⟩
        · rcases Nat.lt_or_ge b w.heap.size with hlt | hge
          · exact hlt
          · simp [World.cell?, Array.getElem?_eq_none hge] at g0'
        · obtain ⟨h0, h1, _, _⟩ := hx i (by omega)
          obtain ⟨⟨e0, e1⟩, _⟩ := hz i (by omega)
          rw [ea, e0] at h0
          rw [ea, e1] at h1
          have eg : ((List.range len).map z).getD i (0, 0) = z i := by rw [List.getD_eq_getElem?_getD]; simp [hi]
          rw [eg]
          exact ⟨h0, h1⟩
end
theorem IsRecs.drew {k0 k1 : IntKind} {w : World} {a : Option Addr} {len cap : Nat} {zs : List (Int × Int)} (h : IsRecs k0 k1 w a len cap zs) : IsRecs k0 k1 w.drew a len cap zs := h
theorem IsRecs.alloc {k0 k1 : IntKind} {w : World} {a : Option Addr} {len cap : Nat} {zs : List (Int × Int)} (h : IsRecs k0 k1 w a len cap zs) (o : Obj) : IsRecs k0 k1 (w.alloc o) a len cap zs := h.below (Nat.le_refl _) ((Below.refl _ _).alloc (Nat.le_refl _) o)
theorem IsRow.drew {k : IntKind} {w : World} {a : Option Addr} {len cap : Nat} {zs : List Int} (h : IsRow k w a len cap zs) : IsRow k w.drew a len cap zs := h
theorem IsRow.alloc {k : IntKind} {w : World} {a : Option Addr} {len cap : Nat} {zs : List Int} (h : IsRow k w a len cap zs) (o : Obj) : IsRow k (w.alloc o) a len cap zs := h.below (Nat.le_refl _) ((Below.refl _ _).alloc (Nat.le_refl _) o)

/-- A slice whose elements (each of so many cells) are these cells, one element behind the other; nil and empty ones too. -/
def Rw (size : Nat) (w : World) (A : Option Addr) (len cap : Nat) (xs : List Value) : Prop :=
  xs.length = len * size ∧ len ≤ cap ∧ cap ≤ maxLen ∧
    (cap = 0 ∨ ∃ b o, A = some ⟨b, o, none⟩ ∧ b < w.heap.size ∧ ∀ j u, xs[j]? = some u → w.cell? ⟨b, o + j, none⟩ = some u)
theorem add_at (b o q : Nat) : (Addr.mk b o none).add q = ⟨b, o + q, none⟩ := by
  unfold Addr.add
  split
  · rename_i h; simp
  · rfl
theorem Rw.below {size : Nat} {w w' : World} {A : Option Addr} {len cap B : Nat} {xs : List Value} (h : Rw size w A len cap xs) (hB : w.heap.size ≤ B) (hb : Below B w w') : Rw size w' A len cap xs := by
  obtain ⟨h1, h2, h3, h4⟩ := h
  refine ⟨h1, h2, h3, h4.imp_right ?_⟩
  rintro ⟨b, o, e, hlt, hc⟩
  exact ⟨b, o, e, Nat.lt_of_lt_of_le hlt hb.size, fun j u hu => (hb.cell (p := ⟨b, o + j, none⟩) (Nat.lt_of_lt_of_le hlt hB)).trans (hc j u hu)⟩
theorem Rw.drew {size : Nat} {w : World} {A : Option Addr} {len cap : Nat} {xs : List Value} (h : Rw size w A len cap xs) : Rw size w.drew A len cap xs := h
theorem Rw.alloc {size : Nat} {w : World} {A : Option Addr} {len cap : Nat} {xs : List Value} (h : Rw size w A len cap xs) (o : Obj) : Rw size (w.alloc o) A len cap xs := h.below (Nat.le_refl _) ((Below.refl _ _).alloc (Nat.le_refl _) o)
theorem Rw.none_ {size : Nat} {w : World} {len cap : Nat} {xs : List Value} (h : Rw size w none len cap xs) : len = 0 ∧ cap = 0 ∧ xs = [] := by
  obtain ⟨h1, h2, h3, h4⟩ := h
  rcases h4 with h4 | ⟨b, o, e, _⟩
  · have : len = 0 := by omega
    subst this
    exact ⟨rfl, h4, List.eq_nil_of_length_eq_zero (by simpa using h1)⟩
  · cases e
theorem Rw.cells {size : Nat} {w : World} {ad : Addr} {len cap : Nat} {xs : List Value} (h : Rw size w (some ad) len cap xs) : ∀ j u, xs[j]? = some u → w.cell? (ad.add j) = some u := by
  intro j u hu
  obtain ⟨h1, h2, h3, h4⟩ := h
  rcases h4 with h4 | ⟨b, o, e, _, hc⟩
  · have : len = 0 := by omega
    subst this
    have : xs = [] := List.eq_nil_of_length_eq_zero (by simpa using h1)
    subst this
    simp at hu
  · injection e with e
    subst e
    rw [add_at]
    exact hc j u hu
theorem Rw.at_ {size : Nat} {w : World} {A : Option Addr} {len cap : Nat} {xs : List Value} (h : Rw size w A len cap xs) (hl : 0 < len) :
    ∃ b o, A = some ⟨b, o, none⟩ ∧ b < w.heap.size ∧ ∀ j u, xs[j]? = some u → w.cell? ⟨b, o + j, none⟩ = some u := by
  obtain ⟨h1, h2, h3, h4⟩ := h
  rcases h4 with h4 | h4
  · omega
  · exact h4
/-- What is owned is such a slice. -/
theorem rw_own {size : Nat} {w : World} {base e : Nat} {v : Value} {n : Nat} {xs : List Value} (h : w.ownsRow base e size v n xs) : ∃ A cap, v = .slice A n cap ∧ Rw size w A n cap xs := by
  rcases h.2 with ⟨rfl, hn⟩ | ⟨g, cap, cur, rfl, hb, hg, hnc, hcm, hcs, ht⟩
  · subst hn
    exact ⟨_, _, rfl, h.1, Nat.le_refl _, Nat.zero_le _, .inl rfl⟩
  · refine ⟨_, _, rfl, h.1, hnc, hcm, .inr ⟨g, 0, rfl, (Array.getElem?_eq_some_iff.1 hg).1, fun j u hj => ?_⟩⟩
    have hjl := (List.getElem?_eq_some_iff.1 hj).1
    rw [Nat.zero_add, h.cellAt j (by rw [← h.1]; exact hjl), hj]
/-- One element in a block of its own. -/
theorem rw_new (size n : Nat) (w : World) (vs : List Value) (e : TypeId) (h : vs.length = n * size) (hn : n ≤ maxLen) : Rw size (w.alloc (.cells vs.toArray e)) (some ⟨w.heap.size, 0, none⟩) n n vs :=
  ⟨h, Nat.le_refl _, hn, .inr ⟨_, _, rfl, by simp, fun j u hu => by rw [Nat.zero_add, World.cell?_alloc_new]; simp [hu]⟩⟩
theorem rw_newAt (size n : Nat) (w : World) (H : Nat) (hH : w.heap.size = H) (vs : List Value) (e : TypeId) (h : vs.length = n * size) (hn : n ≤ maxLen) : Rw size (w.alloc (.cells vs.toArray e)) (some ⟨H, 0, none⟩) n n vs := by
  subst hH; exact rw_new size n w vs e h hn
/-- append of such a slice to a row of the call's own. -/
theorem wpList_append_rw {P : Program} {w : World} {ops : Array Oper} {rest : List Oper} {o : Oper} {a : Act} {Q : Exit → Act → World → Prop} (hgd : o.guard = none) (s x : Operand) (t : TypeId)
    (ho : o.op = .call { callee := .builtin .append, args := #[s, x], argTypes := #[t, t] })
    (base : Nat) (e : TypeId) (i : TypeInfo) (z : Value) (size bytes : Nat) (ht : P.underlying t = some (.slice e)) (hi : P.info? e = some i) (hz : i.zero = some z)
    (hsize : i.size = size) (hby : i.bytes = bytes) (hzs : z.cells.size = size) (hsz : 0 < size)
    (v : Value) (n : Nat) (xs : List Value) (hs : a.eval s = v) (hown : w.ownsRow base e size v n xs)
    (A : Option Addr) (m c : Nat) (ys : List Value) (hx : a.eval x = .slice A m c) (hrd : Rw size w A m c ys) (h1 : ∀ u ∈ ys, u.oneCell' = true)
    (h63 : n + m ≤ maxLen) (hbytes : (n + m) * bytes ≤ 140737488355328) (hbase : base ≤ w.heap.size)
    (h : ∀ v' w', w'.ownsRow base e size v' (n + m) (xs ++ ys) → w.grownBy w' v.ownBlock → wpList P ops Q rest (a.put o.dst v') w') : wpList P ops Q (o :: rest) a w := by
  cases A with
  | some ad =>
    exact wpList_append_own _ hgd s x t ho base e i z size bytes ht hi hz hsize hby hzs hsz v n xs hs hown ad m c ys hx hrd.1 hrd.cells h1 h63 hbytes hbase fun v' w' k1 k2 _ => h v' w' k1 k2
  | none =>
    obtain ⟨rfl, rfl, rfl⟩ := hrd.none_
    refine wpList_append_own_none hgd s x t ho base e i size ht hi v n xs hs hown hx (h v w ?_ (World.grownBy.refl w _))
    simpa using hown

/-- The cells of numbers; of pairs of numbers. -/
def flat1 (k : IntKind) (zs : List Int) : List Value := zs.map (Value.int k)
def flat2 (k0 k1 : IntKind) : List (Int × Int) → List Value
  | [] => []
  | z :: zs => .int k0 z.1 :: .int k1 z.2 :: flat2 k0 k1 zs
theorem flat1_append (k : IntKind) (a b : List Int) : flat1 k (a ++ b) = flat1 k a ++ flat1 k b := List.map_append
theorem flat1_length (k : IntKind) (a : List Int) : (flat1 k a).length = a.length := List.length_map _
theorem flat1_one (k : IntKind) (zs : List Int) : ∀ u ∈ flat1 k zs, u.oneCell' = true := by
  intro u hu
  obtain ⟨b, _, rfl⟩ := List.mem_map.1 hu
  rfl
theorem flat2_append (k0 k1 : IntKind) (a b : List (Int × Int)) : flat2 k0 k1 (a ++ b) = flat2 k0 k1 a ++ flat2 k0 k1 b := by
  induction a with
  | nil => rfl
  | cons z a ih => simp [flat2, ih]
theorem flat2_length (k0 k1 : IntKind) (a : List (Int × Int)) : (flat2 k0 k1 a).length = a.length * 2 := by
  induction a with
  | nil => rfl
  | cons z a ih => simp [flat2, ih]; omega
theorem flat2_one (k0 k1 : IntKind) (zs : List (Int × Int)) : ∀ u ∈ flat2 k0 k1 zs, u.oneCell' = true := by
  induction zs with
  | nil => intro u hu; cases hu
  | cons z a ih =>
    intro u hu
    simp only [flat2, List.mem_cons] at hu
    rcases hu with rfl | rfl | hu
    · rfl
    · rfl
    · exact ih u hu
theorem flat2_at (k0 k1 : IntKind) : ∀ (zs : List (Int × Int)) (i : Nat), i < zs.length → (flat2 k0 k1 zs)[i * 2]? = some (.int k0 (zs.getD i (0, 0)).1) ∧ (flat2 k0 k1 zs)[i * 2 + 1]? = some (.int k1 (zs.getD i (0, 0)).2) := by
  intro zs
  induction zs with
  | nil => intro i hi; simp at hi
  | cons z a ih =>
    intro i hi
    cases i with
    | zero => exact ⟨rfl, rfl⟩
    | succ i =>
      have := ih i (by simpa using hi)
      rw [show (i + 1) * 2 = i * 2 + 1 + 1 from by omega]
      simpa [flat2, List.getD_eq_getElem?_getD] using this
theorem IsRecs.rw_ {k0 k1 : IntKind} {w : World} {a : Option Addr} {len cap : Nat} {zs : List (Int × Int)} (h : IsRecs k0 k1 w a len cap zs) : Rw 2 w a len cap (flat2 k0 k1 zs) := by
  obtain ⟨h1, h2, h3, h4, h5⟩ := h
  refine ⟨by rw [flat2_length, h1], h2, h3, h5.imp_right ?_⟩
  rintro ⟨b, o, e, hlt, hc⟩
  refine ⟨b, o, e, hlt, fun j u hu => ?_⟩
  have hj : j < len * 2 := by
    have := (List.getElem?_eq_some_iff.1 hu).1
    rw [flat2_length, h1] at this
    exact this
  obtain ⟨c0, c1⟩ := hc (j / 2) (by omega)
  obtain ⟨g0, g1⟩ := flat2_at k0 k1 zs (j / 2) (by omega)
  rcases (show j = j / 2 * 2 ∨ j = j / 2 * 2 + 1 from by omega) with e | e
  · rw [e] at hu ⊢
    rw [g0] at hu
    injection hu with hu
    rw [← hu]; exact c0
  · rw [e] at hu ⊢
    rw [g1] at hu
    injection hu with hu
    rw [← hu]; exact c1
theorem recs_rw {k0 k1 : IntKind} {w : World} {a : Option Addr} {len cap : Nat} {zs : List (Int × Int)} (h : Rw 2 w a len cap (flat2 k0 k1 zs)) (hw : ∀ z ∈ zs, (Lit.int k0 z.1).wf = true ∧ (Lit.int k1 z.2).wf = true) : IsRecs k0 k1 w a len cap zs := by
  obtain ⟨h1, h2, h3, h4⟩ := h
  rw [flat2_length] at h1
  refine ⟨by omega, h2, h3, hw, h4.imp_right ?_⟩
  rintro ⟨b, o, e, hlt, hc⟩
  refine ⟨b, o, e, hlt, fun i hi => ?_⟩
  obtain ⟨g0, g1⟩ := flat2_at k0 k1 zs i (by omega)
  exact ⟨hc _ _ g0, hc _ _ g1⟩
theorem IsRow.rw_ {k : IntKind} {w : World} {a : Option Addr} {len cap : Nat} {zs : List Int} (h : IsRow k w a len cap zs) : Rw 1 w a len cap (flat1 k zs) := by
  obtain ⟨h1, h2, h3, h4, h5⟩ := h
  refine ⟨by rw [flat1_length, h1, Nat.mul_one], h2, h3, h5.imp_right ?_⟩
  rintro ⟨b, o, e, hlt, hc⟩
  refine ⟨b, o, e, hlt, fun j u hu => ?_⟩
  have hj : j < zs.length := by
    have := (List.getElem?_eq_some_iff.1 hu).1
    rwa [flat1_length] at this
  rw [hc j (by omega), ← hu]
  simp [flat1, List.getD_eq_getElem?_getD, hj]
theorem row_rw {k : IntKind} {w : World} {a : Option Addr} {len cap : Nat} {zs : List Int} (h : Rw 1 w a len cap (flat1 k zs)) (hw : ∀ z ∈ zs, (Lit.int k z).wf = true) : IsRow k w a len cap zs := by
  obtain ⟨h1, h2, h3, h4⟩ := h
  rw [flat1_length] at h1
  refine ⟨by omega, h2, h3, hw, h4.imp_right ?_⟩
  rintro ⟨b, o, e, hlt, hc⟩
  refine ⟨b, o, e, hlt, fun i hi => ?_⟩
  have hi' : i < zs.length := by omega
  exact hc i _ (by simp [flat1, List.getD_eq_getElem?_getD, hi'])
/-- One pair in a block of its own. -/
theorem rec_one (k0 k1 : IntKind) (w : World) (H : Nat) (hH : w.heap.size = H) (k n : Int) (hk : (Lit.int k0 k).wf = true) (hn : (Lit.int k1 n).wf = true) (e : TypeId) :
    IsRecs k0 k1 (w.alloc (.cells #[.int k0 k, .int k1 n] e)) (some ⟨H, 0, none⟩) 1 1 [(k, n)] :=
  recs_rw (rw_newAt 2 1 w H hH [.int k0 k, .int k1 n] e rfl (by simp [maxLen])) (fun z hz => by simp at hz; subst hz; exact ⟨hk, hn⟩)
/-- Two blocks were made ahead of a call, in either order, with or without a draw behind them: what one of them holds behind the call. -/
theorem z_first {W w5 : World} (vs : List Value) (t : TypeId) {o : Obj} (hb : Below ((W.alloc (.cells vs.toArray t)).alloc o).heap.size ((W.alloc (.cells vs.toArray t)).alloc o) w5) : Cs w5 W.heap.size vs :=
  ((Cs.new W vs t).alloc (by simp) o).below hb (by simp; omega)
theorem z_first_drew {W w5 : World} (vs : List Value) (t : TypeId) {o : Obj} (hb : Below ((W.alloc (.cells vs.toArray t)).alloc o).drew.heap.size ((W.alloc (.cells vs.toArray t)).alloc o).drew w5) : Cs w5 W.heap.size vs :=
  ((Cs.new W vs t).alloc (by simp) o).drew.below hb (by simp; omega)
theorem z_second {W w5 : World} (vs : List Value) (t : TypeId) {o : Obj} (hb : Below ((W.alloc o).alloc (.cells vs.toArray t)).heap.size ((W.alloc o).alloc (.cells vs.toArray t)) w5) : Cs w5 (W.heap.size + 1) vs :=
  (Cs.newAt (W.alloc o) (W.heap.size + 1) (by simp) vs t).below hb (by simp)
theorem z_second_drew {W w5 : World} (vs : List Value) (t : TypeId) {o : Obj} (hb : Below ((W.alloc o).alloc (.cells vs.toArray t)).drew.heap.size ((W.alloc o).alloc (.cells vs.toArray t)).drew w5) : Cs w5 (W.heap.size + 1) vs :=
  (Cs.newAt (W.alloc o) (W.heap.size + 1) (by simp) vs t).drew.below hb (by simp)
theorem z_lone {W w5 : World} (vs : List Value) (t : TypeId) (hb : Below (W.alloc (.cells vs.toArray t)).heap.size (W.alloc (.cells vs.toArray t)) w5) : Cs w5 W.heap.size vs := (Cs.new W vs t).below hb (by simp)
theorem z_lone_drew {W w5 : World} (vs : List Value) (t : TypeId) (hb : Below (W.alloc (.cells vs.toArray t)).drew.heap.size (W.alloc (.cells vs.toArray t)).drew w5) : Cs w5 W.heap.size vs := (Cs.new W vs t).drew.below hb (by simp)
theorem Cs.lt {w : World} {b : Nat} {v : Value} {vs : List Value} (h : Cs w b (v :: vs)) : b < w.heap.size := by
  have hc := (h 0 v rfl).1
  rcases Nat.lt_or_ge b w.heap.size with hlt | hge
  · exact hlt
  · simp [World.cell?, Array.getElem?_eq_none hge] at hc
/-- A block that was made since is filled. -/
theorem Keep.laid {w V0 V : World} {l : List (Nat × List Value)} (h : Keep w V0 l) (hb : Below V0.heap.size V0 V) {g : Nat} {u : Value} {us : List Value} (hz : Cs V g (u :: us)) (hg : V0.heap.size ≤ g) (vs : List Value) : Keep w (layC V g 0 vs) ((g, over (u :: us) 0 vs) :: l) := by
  have h1 := h.call hb
  have hs := h.1.size
  refine ⟨below_layC (by omega) vs 0 h1.1, fun x hx => ?_⟩
  rw [size_layC]
  rcases List.mem_cons.1 hx with rfl | hx
  · exact ⟨hz.lt, Cs.lay vs 0 hz⟩
  · have := (h.2 x hx).1
    exact ⟨(h1.2 x hx).1, Cs.layFar (by omega) vs 0 (h1.2 x hx).2⟩
theorem Keep.add {w V : World} {l : List (Nat × List Value)} (h : Keep w V l) {g : Nat} {u : Value} {us : List Value} (hz : Cs V g (u :: us)) : Keep w V ((g, u :: us) :: l) :=
  ⟨h.1, fun x hx => by
    rcases List.mem_cons.1 hx with rfl | hx
    · exact ⟨hz.lt, hz⟩
    · exact h.2 x hx⟩
/-- One block of them alone, laid anew. -/
theorem Keep.one {w V : World} {l : List (Nat × List Value)} (h : Keep w V l) (i : Nat) {b : Nat} {us : List Value} (hi : l[i]? = some (b, us)) (hb : w.heap.size ≤ b) (vs : List Value) : Keep w (layC V b 0 vs) [(b, over us 0 vs)] := by
  obtain ⟨h1, h2⟩ := h.at_ i hi
  refine ⟨below_layC hb vs 0 h.1, fun x hx => ?_⟩
  simp only [List.mem_singleton] at hx
  subst hx
  rw [size_layC]
  exact ⟨h1, Cs.lay vs 0 h2⟩
/-- Two blocks that were made since are filled. -/
theorem Keep.laid2 {w V0 V : World} {l : List (Nat × List Value)} (h : Keep w V0 l) (hb : Below V0.heap.size V0 V) {g r : Nat} {u u' : Value} {us us' : List Value} (hz : Cs V g (u :: us)) (hy : Cs V r (u' :: us')) (hg : V0.heap.size ≤ g) (hr : V0.heap.size ≤ r) (hne : g ≠ r) (vs vs' : List Value) :
    Keep w (layC (layC V g 0 vs) r 0 vs') ((r, over (u' :: us') 0 vs') :: (g, over (u :: us) 0 vs) :: l) := by
  have h1 := h.laid hb hz hg vs
  have hs := (h.call hb).1.size
  have hs0 := h.1.size
  refine ⟨below_layC (by omega) vs' 0 h1.1, fun x hx => ?_⟩
  rw [size_layC]
  rcases List.mem_cons.1 hx with rfl | hx
  · exact ⟨by rw [size_layC]; exact hy.lt, Cs.lay vs' 0 (Cs.layFar hne vs 0 hy)⟩
  · refine ⟨(h1.2 x hx).1, Cs.layFar ?_ vs' 0 (h1.2 x hx).2⟩
    rcases List.mem_cons.1 hx with rfl | hx
    · exact Ne.symm hne
    · have := (h.2 x hx).1
      omega
theorem Keep.swap {w V : World} {x y : Nat × List Value} {l : List (Nat × List Value)} (h : Keep w V (x :: y :: l)) : Keep w V (y :: x :: l) :=
  h.cut fun z hz => by simp only [List.mem_cons] at hz ⊢; rcases hz with h | h | h <;> simp [h]
/-- One of the blocks laid anew, and those that stay. -/
theorem Keep.lay1 {w V : World} {l : List (Nat × List Value)} (h : Keep w V l) (i : Nat) {g : Nat} {us : List Value} (hi : l[i]? = some (g, us)) (hg : w.heap.size ≤ g) (vs : List Value) (k : List (Nat × List Value)) (hk : ∀ x ∈ k, x ∈ l ∧ x.1 ≠ g) :
    Keep w (layC V g 0 vs) ((g, over us 0 vs) :: k) := by
  refine ⟨below_layC hg vs 0 h.1, fun x hx => ?_⟩
  rw [size_layC]
  rcases List.mem_cons.1 hx with rfl | hx
  · obtain ⟨h1, h2⟩ := h.at_ i hi
    exact ⟨h1, Cs.lay vs 0 h2⟩
  · obtain ⟨h1, h2⟩ := hk x hx
    exact ⟨(h.2 x h1).1, Cs.layFar (Ne.symm h2) vs 0 (h.2 x h1).2⟩
/-- Two of the blocks laid anew, and those that stay. -/
theorem Keep.lay2 {w V : World} {l : List (Nat × List Value)} (h : Keep w V l) (i j : Nat) {g r : Nat} {us us' : List Value} (hi : l[i]? = some (g, us)) (hj : l[j]? = some (r, us')) (hg : w.heap.size ≤ g) (hr : w.heap.size ≤ r) (hne : g ≠ r) (vs vs' : List Value)
    (k : List (Nat × List Value)) (hk : ∀ x ∈ k, x ∈ l ∧ x.1 ≠ g ∧ x.1 ≠ r) :
    Keep w (layC (layC V g 0 vs) r 0 vs') ((r, over us' 0 vs') :: (g, over us 0 vs) :: k) := by
  have h1 := h.lay1 i hi hg vs ((r, us') :: k) (fun x hx => by
    rcases List.mem_cons.1 hx with rfl | hx
    · exact ⟨List.mem_of_getElem? hj, Ne.symm hne⟩
    · exact ⟨(hk x hx).1, (hk x hx).2.1⟩)
  exact h1.lay1 1 rfl hr vs' ((g, over us 0 vs) :: k) (fun x hx => by
    rcases List.mem_cons.1 hx with rfl | hx
    · exact ⟨by simp, hne⟩
    · exact ⟨by simp [hx], (hk x hx).2.2⟩)
theorem Keep.base {w V V' : World} {l : List (Nat × List Value)} (h : Keep w V l) {B : Nat} (hb : Below B V V') (hw : w.heap.size ≤ B) (hl : ∀ x ∈ l, x.1 < B) : Keep w V' l :=
  ⟨h.1.trans (hb.mono hw), fun x hx => ⟨Nat.lt_of_lt_of_le (h.2 x hx).1 hb.size, (h.2 x hx).2.below hb (hl x hx)⟩⟩
theorem own_below {w w' : World} {base e size n : Nat} {v : Value} {xs : List Value} (h : w.ownsRow base e size v n xs) (hb : Below w.heap.size w w') : w'.ownsRow base e size v n xs :=
  h.kept (row := none) ⟨hb.os, hb.tape, hb.output, hb.size, fun i hi _ => hb.block i hi⟩ (by cases hv : v.ownBlock <;> simp)
theorem own_layC {b base e size n : Nat} {v : Value} {xs : List Value} (vs : List Value) : ∀ {w : World} (i : Nat), b < base → w.ownsRow base e size v n xs → (layC w b i vs).ownsRow base e size v n xs := by
  induction vs with
  | nil => intro w i _ h; exact h
  | cons u vs ih =>
    intro w i hb h
    refine ih (i + 1) hb (h.kept (row := some b) ⟨rfl, rfl, rfl, by simp [World.setCell], fun k hk hne => Below.heap_setCell _ _ _ _ (fun e => hne (by rw [e]))⟩ ?_)
    right
    intro e
    have := (h.lt b e).1
    omega
theorem grown_below {w w' : World} {base e size n : Nat} {v : Value} {xs : List Value} (h : w.ownsRow base e size v n xs) (hg : w.grownBy w' v.ownBlock) (hB : base ≤ w.heap.size) : Below base w w' :=
  (Below.refl base w).grown hg hB (fun q hq => (h.lt q hq).1)
theorem own_layNe {b base e size n : Nat} {v : Value} {xs : List Value} (vs : List Value) : ∀ {w : World} (i : Nat), (∀ q, v.ownBlock = some q → q < b) → w.ownsRow base e size v n xs → (layC w b i vs).ownsRow base e size v n xs := by
  induction vs with
  | nil => intro w i _ h; exact h
  | cons u vs ih =>
    intro w i hb h
    refine ih (i + 1) hb (h.kept (row := some b) ⟨rfl, rfl, rfl, by simp [World.setCell], fun k hk hne => Below.heap_setCell _ _ _ _ (fun e => hne (by rw [e]))⟩ ?_)
    right
    intro e
    have := hb b e
    omega
theorem own_mono {w : World} {base base' e size n : Nat} {v : Value} {xs : List Value} (h : w.ownsRow base e size v n xs) (hb : base' ≤ base) : w.ownsRow base' e size v n xs := by
  refine ⟨h.1, h.2.imp_right ?_⟩
  rintro ⟨g, cap, cur, h1, h2, h3⟩
  exact ⟨g, cap, cur, h1, Nat.le_trans hb h2, h3⟩
theorem row_of_own {k : IntKind} {w : World} {base e n : Nat} {v : Value} {zs : List Int} (h : w.ownsRow base e 1 v n (flat1 k zs)) (hw : ∀ z ∈ zs, (Lit.int k z).wf = true) : ∃ A c, v = .slice A n c ∧ IsRow k w A n c zs := by
  obtain ⟨A, c, rfl, hr⟩ := rw_own h
  exact ⟨A, c, rfl, row_rw hr hw⟩
end Go.Proofs.Ytdonkkcdjbjkeaa
