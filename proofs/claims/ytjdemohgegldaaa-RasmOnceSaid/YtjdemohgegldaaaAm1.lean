/-
  A small machine over data: what the values of a run stand for. Data; what lies in memory that is never written again; blocks and rows of a call's own.
-/
import Derived.Test.YtjdemohgegldaaaRows
import Derived.WalkKit
import Derived.ProofKit
import Derived.Below
import Derived.Laws.AppendOwn
import Derived.Laws.IdiomCopy
import Derived.Laws.Tables
import Derived.Laws.NewBlocks
import Derived.Scope
import Derived.Lib.Hide
namespace Go.Proofs.Ytjdemohgegldaaa
set_option linter.unusedSimpArgs false
set_option linter.unusedVariables false
open Go.RowKit

/-- Data. A slice that is not nil has its elements; a nil slice is a plain value. -/
inductive D where
  | v (x : Value)
  | agg (cs : List D)
  | sl (sz : Nat) (es : List D)
  | fn (f : Nat) (caps : List D)
  | pt (x : D)
deriving Inhabited

def D.cells : D → List D
  | .agg cs => cs
  | d => [d]
def flat (es : List D) : List D := es.flatMap D.cells
def nilS : Value := .slice none 0 0

/-- Values of one cell that lead nowhere. -/
def scalar : Value → Bool
  | .bool _ | .int _ _ | .float _ _ | .complex _ _ _ | .string _ | .nilFunc | .nilIface => true
  | .pointer none | .map none | .chan none => true
  | .slice none 0 0 => true
  | .func (.func _) ⟨[]⟩ ⟨[]⟩ => true
  | _ => false

/-- A value reads as data; what it leads to lies in the blocks that 'ok' names. -/
inductive Reads (ok : Nat → Prop) (w : World) : Value → D → Prop
  | v {x : Value} (h : scalar x = true) : Reads ok w x (.v x)
  | sl {b o n c sz : Nat} {q : Option Nat} {es : List D} (us : Nat → Value) (hs : es ≠ [] → q = none) (hb : flat es ≠ [] → ok b) (hn : es.length = n) (hc : n ≤ c) (hm : c ≤ maxLen) (hw : ∀ e ∈ es, e.cells.length = sz)
      (hl : ∀ k d, (flat es)[k]? = some d → w.cell? ⟨b, o + k, none⟩ = some (us k)) (hr : ∀ k d, (flat es)[k]? = some d → Reads ok w (us k) d) :
      Reads ok w (.slice (some ⟨b, o, q⟩) n c) (.sl sz es)
  | fn {f : Nat} {caps : List D} (cvs : List Value) (hn : cvs.length = caps.length) (hr : ∀ (k : Nat) (d : D) (v : Value), caps[k]? = some d → cvs[k]? = some v → Reads ok w v d) : Reads ok w (.func (.func f) ⟨[]⟩ ⟨cvs⟩) (.fn f caps)
  | pt {b o : Nat} {x : D} (us : Nat → Value) (hb : x.cells ≠ [] → ok b) (hl : ∀ (k : Nat) (d : D), x.cells[k]? = some d → w.cell? ⟨b, o + k, none⟩ = some (us k)) (hr : ∀ (k : Nat) (d : D), x.cells[k]? = some d → Reads ok w (us k) d) :
      Reads ok w (.pointer (some ⟨b, o, none⟩)) (.pt x)

/-- Blocks that stay. -/
def Stable (ok : Nat → Prop) (w w' : World) : Prop := ∀ b, ok b → w'.heap[b]? = w.heap[b]?
theorem Stable.refl (ok : Nat → Prop) (w : World) : Stable ok w w := fun _ _ => rfl
theorem Stable.trans {ok : Nat → Prop} {a b c : World} (h : Stable ok a b) (k : Stable ok b c) : Stable ok a c := fun x hx => (k x hx).trans (h x hx)
theorem Stable.mono {ok ok' : Nat → Prop} {a b : World} (h : Stable ok a b) (k : ∀ x, ok' x → ok x) : Stable ok' a b := fun x hx => h x (k x hx)
theorem Stable.cell {ok : Nat → Prop} {w w' : World} (h : Stable ok w w') {b o : Nat} (hb : ok b) : w'.cell? ⟨b, o, none⟩ = w.cell? ⟨b, o, none⟩ := World.cell?_of_block (w := w) (h b hb)

theorem Reads.mono {ok ok' : Nat → Prop} {w w' : World} {v : Value} {d : D} (h : Reads ok w v d) (hs : Stable ok w w') (hok : ∀ b, ok b → ok' b) : Reads ok' w' v d := by
  induction h with
  | v h => exact .v h
  | sl us hs' hb hn hc hm hw hl hr ih => exact .sl us hs' (fun h => hok _ (hb h)) hn hc hm hw (fun k d hk => (hs.cell (hb (fun e => by rw [e] at hk; simp at hk))).trans (hl k d hk)) ih
  | fn cvs hn hr ih => exact .fn cvs hn ih
  | pt us hb hl hr ih => exact .pt us (fun h => hok _ (hb h)) (fun k d hk => (hs.cell (hb (fun e => by rw [e] at hk; simp at hk))).trans (hl k d hk)) ih

/-- A block that holds no cells is read by nobody. -/
theorem Reads.less {ok : Nat → Prop} {w : World} {v : Value} {d : D} (h : Reads ok w v d) {l : Nat} (hl0 : ∀ o, w.cell? ⟨l, o, none⟩ = none) : Reads (fun b => ok b ∧ b ≠ l) w v d := by
  induction h with
  | v h => exact .v h
  | @sl b o n c sz q es us hs' hb hn hc hm hw hl hr ih =>
    refine .sl us hs' (fun h => ⟨hb h, ?_⟩) hn hc hm hw hl ih
    rintro rfl
    cases he : flat es with
    | nil => exact h he
    | cons d es' => have := hl 0 d (by simp [he]); rw [hl0] at this; cases this
  | fn cvs hn hr ih => exact .fn cvs hn ih
  | @pt b o x us hb hl hr ih =>
    refine .pt us (fun h => ⟨hb h, ?_⟩) hl ih
    rintro rfl
    cases he : x.cells with
    | nil => exact h he
    | cons d es' => have := hl 0 d (by simp [he]); rw [hl0] at this; cases this

/-- One cell of the small machine: data; a known value; a pointer into a block of the call's own; a pointer to memory that reads as the cells of data from some place on; a pointer to an element of a row of the call's own; such a row, whole; a piece of it. -/
inductive C where
  | d (x : D)
  | k (x : Value)
  | ptr (r o : Nat)
  | pd (x : D) (j : Nat)
  | ep (r : Nat) (i : D) (sz j : Nat)
  | row (r : Nat)
  | sub (r : Nat) (sz : Nat) (lo hi : D)
  | bot
deriving Inhabited
inductive T where
  | one (c : C)
  | agg (cs : List C)
deriving Inhabited
inductive AV where
  | t (x : T)
  | tup (xs : List T)
deriving Inhabited
inductive Ob where
  | box (cs : List C)
  | row (sz : Nat) (x : D)
  | imm (x : D)
deriving Inhabited

structure Env where
  ι : Nat → Value
  bn : Nat → Prop
  im : Nat → Prop
  od : Nat → Prop
structure Env.le (E E' : Env) : Prop where
  bn : ∀ r, E.bn r → E'.bn r
  ι : ∀ r, E.bn r → E'.ι r = E.ι r
  im : ∀ b, E.im b → E'.im b
  od : ∀ b, E'.od b → E.od b
theorem Env.le.refl (E : Env) : E.le E := ⟨fun _ h => h, fun _ _ => rfl, fun _ h => h, fun _ h => h⟩
theorem Env.le.trans {A B C : Env} (h : A.le B) (k : B.le C) : A.le C := ⟨fun r x => k.bn r (h.bn r x), fun r x => (k.ι r (h.bn r x)).trans (h.ι r x), fun b x => k.im b (h.im b x), fun b x => h.od b (k.od b x)⟩

def All2 {α β : Type} (R : α → β → Prop) : List α → List β → Prop
  | [], [] => True
  | a :: xs, b :: ys => R a b ∧ All2 R xs ys
  | _, _ => False
theorem All2.length {α β : Type} {R : α → β → Prop} : ∀ {xs : List α} {ys : List β}, All2 R xs ys → xs.length = ys.length
  | [], [], _ => rfl
  | a :: xs, b :: ys, h => by simp [All2.length h.2]
  | [], b :: ys, h => h.elim
  | a :: xs, [], h => h.elim
theorem All2.imp {α β : Type} {R S : α → β → Prop} (hi : ∀ a b, R a b → S a b) : ∀ {xs : List α} {ys : List β}, All2 R xs ys → All2 S xs ys
  | [], [], _ => trivial
  | a :: xs, b :: ys, h => ⟨hi _ _ h.1, All2.imp hi h.2⟩
  | [], b :: ys, h => h.elim
  | a :: xs, [], h => h.elim
theorem All2.get {α β : Type} {R : α → β → Prop} : ∀ {xs : List α} {ys : List β}, All2 R xs ys → ∀ {i : Nat} {a : α}, xs[i]? = some a → ∃ b, ys[i]? = some b ∧ R a b
  | [], [], _, i, a, h => by simp at h
  | a :: xs, b :: ys, h, 0, a', e => by simp at e; subst e; exact ⟨b, rfl, h.1⟩
  | a :: xs, b :: ys, h, i + 1, a', e => by simpa using All2.get h.2 (i := i) (a := a') (by simpa using e)
  | [], b :: ys, h, _, _, _ => h.elim
  | a :: xs, [], h, _, _, _ => h.elim
theorem All2.getR {α β : Type} {R : α → β → Prop} : ∀ {xs : List α} {ys : List β}, All2 R xs ys → ∀ {i : Nat} {b : β}, ys[i]? = some b → ∃ a, xs[i]? = some a ∧ R a b
  | [], [], _, i, a, h => by simp at h
  | a :: xs, b :: ys, h, 0, b', e => by simp at e; subst e; exact ⟨a, rfl, h.1⟩
  | a :: xs, b :: ys, h, i + 1, b', e => by simpa using All2.getR h.2 (i := i) (b := b') (by simpa using e)
  | [], b :: ys, h, _, _, _ => h.elim
  | a :: xs, [], h, _, _, _ => h.elim
theorem All2.append {α β : Type} {R : α → β → Prop} : ∀ {xs : List α} {ys : List β} {zs : List α} {ts : List β}, All2 R xs ys → All2 R zs ts → All2 R (xs ++ zs) (ys ++ ts)
  | [], [], _, _, _, k => k
  | a :: xs, b :: ys, _, _, h, k => ⟨h.1, All2.append h.2 k⟩
  | [], b :: ys, _, _, h, _ => h.elim
  | a :: xs, [], _, _, h, _ => h.elim
theorem All2.take {α β : Type} {R : α → β → Prop} : ∀ {xs : List α} {ys : List β} (n : Nat), All2 R xs ys → All2 R (xs.take n) (ys.take n)
  | [], [], n, _ => by simp [All2]
  | a :: xs, b :: ys, 0, h => by simp [All2]
  | a :: xs, b :: ys, n + 1, h => ⟨h.1, All2.take n h.2⟩
  | [], b :: ys, _, h => h.elim
  | a :: xs, [], _, h => h.elim
theorem All2.drop {α β : Type} {R : α → β → Prop} : ∀ {xs : List α} {ys : List β} (n : Nat), All2 R xs ys → All2 R (xs.drop n) (ys.drop n)
  | [], [], n, _ => by simp [All2]
  | a :: xs, b :: ys, 0, h => h
  | a :: xs, b :: ys, n + 1, h => All2.drop n h.2
  | [], b :: ys, _, h => h.elim
  | a :: xs, [], _, h => h.elim
theorem All2.set {α β : Type} {R : α → β → Prop} {a' : α} {b' : β} (hr : R a' b') : ∀ {xs : List α} {ys : List β} (n : Nat), All2 R xs ys → All2 R (xs.set n a') (ys.set n b')
  | [], [], n, _ => by simp [All2]
  | a :: xs, b :: ys, 0, h => ⟨hr, h.2⟩
  | a :: xs, b :: ys, n + 1, h => ⟨h.1, All2.set hr n h.2⟩
  | [], b :: ys, _, h => h.elim
  | a :: xs, [], _, h => h.elim

def CRep (E : Env) (w : World) : C → Value → Prop
  | .d x, v => Reads E.im w v x
  | .k x, v => v = x ∧ scalar x = true
  | .ptr r o, v => E.bn r ∧ ∃ b, E.ι r = .pointer (some ⟨b, 0, none⟩) ∧ v = .pointer (some ⟨b, o, none⟩)
  | .pd x j, v => ∃ b o, ∃ us : Nat → Value, v = .pointer (some ⟨b, o + j, none⟩) ∧ (x.cells ≠ [] → E.im b) ∧ ∀ k d, x.cells[k]? = some d → w.cell? ⟨b, o + k, none⟩ = some (us k) ∧ Reads E.im w (us k) d
  | .ep r i sz j, v => E.bn r ∧ ∃ b n c m k, E.ι r = .slice (some ⟨b, 0, none⟩) n c ∧ i = .v (.int k m) ∧ 0 ≤ m ∧ m < n ∧ v = .pointer (some ⟨b, m.toNat * sz + j, none⟩)
  | .row r, v => E.bn r ∧ v = E.ι r ∧ ∃ a n c, E.ι r = .slice a n c
  | .sub r sz lo hi, v => E.bn r ∧ ∃ b n c l h k k', E.ι r = .slice (some ⟨b, 0, none⟩) n c ∧ lo = .v (.int k (l : Nat)) ∧ hi = .v (.int k' (h : Nat)) ∧ l ≤ h ∧ h ≤ n ∧
      v = .slice (some ⟨b, (if c = l then 0 else l * sz), none⟩) (h - l) (c - l)
  | .bot, _ => True

def TRep (E : Env) (w : World) : T → Value → Prop
  | .one c, v => CRep E w c v
  | .agg cs, v => ∃ vs : List Value, v = .agg vs.toArray ∧ All2 (CRep E w) cs vs ∧ (∀ u ∈ vs, u.oneCell' = true)
def AVRep (E : Env) (w : World) : AV → Value → Prop
  | .t x, v => TRep E w x v
  | .tup xs, v => ∃ vs : List Value, v = .tuple vs.toArray ∧ All2 (TRep E w) xs vs

theorem CRep.mono {E E' : Env} {w w' : World} {c : C} {v : Value} (h : CRep E w c v) (hE : E.le E') (hs : Stable E.im w w') : CRep E' w' c v := by
  cases c with
  | d x => exact Reads.mono h hs hE.im
  | k x => exact h
  | ptr r o => obtain ⟨hb, b, h1, h2⟩ := h; exact ⟨hE.bn _ hb, b, (hE.ι r hb).trans h1, h2⟩
  | pd x j =>
    obtain ⟨b, o, us, h1, h2, h3⟩ := h
    exact ⟨b, o, us, h1, fun h => hE.im _ (h2 h), fun k d hk => ⟨(hs.cell (h2 (fun e => by rw [e] at hk; simp at hk))).trans (h3 k d hk).1, (h3 k d hk).2.mono hs hE.im⟩⟩
  | ep r i sz j => obtain ⟨hb, b, n, c, m, k, h1, h2⟩ := h; exact ⟨hE.bn _ hb, b, n, c, m, k, (hE.ι r hb).trans h1, h2⟩
  | row r => exact ⟨hE.bn _ h.1, h.2.1.trans (hE.ι r h.1).symm, by rw [hE.ι r h.1]; exact h.2.2⟩
  | sub r sz lo hi => obtain ⟨hb, b, n, c, l, m, k, k', h1, h2⟩ := h; exact ⟨hE.bn _ hb, b, n, c, l, m, k, k', (hE.ι r hb).trans h1, h2⟩
  | bot => trivial
theorem TRep.mono {E E' : Env} {w w' : World} {t : T} {v : Value} (h : TRep E w t v) (hE : E.le E') (hs : Stable E.im w w') : TRep E' w' t v := by
  cases t with
  | one c => exact CRep.mono h hE hs
  | agg cs => obtain ⟨vs, h1, h2, h3⟩ := h; exact ⟨vs, h1, h2.imp fun _ _ q => q.mono hE hs, h3⟩
theorem AVRep.mono {E E' : Env} {w w' : World} {t : AV} {v : Value} (h : AVRep E w t v) (hE : E.le E') (hs : Stable E.im w w') : AVRep E' w' t v := by
  cases t with
  | t x => exact TRep.mono h hE hs
  | tup xs => obtain ⟨vs, h1, h2⟩ := h; exact ⟨vs, h1, h2.imp fun _ _ q => q.mono hE hs⟩

/-- The block that an object is written in. -/
def blk : Value → Option Nat
  | .pointer (some a) => some a.block
  | .slice (some a) _ c => if c = 0 then none else some a.block
  | _ => none

def RowRep (E : Env) (w : World) (sz : Nat) (v : Value) (x : D) : Prop :=
  (x = .v nilS ∧ v = nilS) ∨
  (∃ es, x = .sl sz es ∧ (∀ e ∈ es, e.cells.length = sz) ∧
    ((es = [] ∧ ∃ b o, v = .slice (some ⟨b, o, none⟩) 0 0 ∧ True) ∨
     ∃ b c T, ∃ cur : Array Value, v = .slice (some ⟨b, 0, none⟩) es.length c ∧ w.heap[b]? = some (.cells cur T (0, 0)) ∧ es.length ≤ c ∧ 0 < c ∧ c ≤ maxLen ∧ cur.size = c * sz ∧
       All2 (Reads E.im w) (cur.toList.take (es.length * sz)) (flat es)))
def ObRep (E : Env) (w : World) (r : Nat) : Ob → Prop
  | .box cs => ∃ b T, ∃ cur : Array Value, E.ι r = .pointer (some ⟨b, 0, none⟩) ∧ w.heap[b]? = some (.cells cur T (0, 0)) ∧ All2 (CRep E w) cs cur.toList ∧ ∀ u ∈ cur.toList, u.oneCell' = true
  | .row sz x => RowRep E w sz (E.ι r) x
  | .imm x => Reads E.im w (E.ι r) x
/-- The block that an object owns. -/
def obk : Ob → Value → Option Nat
  | .imm _, _ => none
  | _, v => blk v
theorem RowRep.mono {E E' : Env} {w w' : World} {sz : Nat} {v : Value} {x : D} (h : RowRep E w sz v x) (hE : E.le E') (hs : Stable E.im w w') (hz : w.heap.size ≤ w'.heap.size) (hb : ∀ b, blk v = some b → w'.heap[b]? = w.heap[b]?) : RowRep E' w' sz v x := by
  rcases h with h | ⟨es, h1, h2, h3⟩
  · exact .inl h
  · refine .inr ⟨es, h1, h2, ?_⟩
    rcases h3 with ⟨h3, b, o, h4, h5⟩ | ⟨b, c, T, cur, rfl, k2, k3, k4, k5, k6, k7⟩
    · exact .inl ⟨h3, b, o, h4, h5⟩
    refine .inr ?_
    exact ⟨b, c, T, cur, rfl, (hb b (by simp [blk]; omega)).trans k2, k3, k4, k5, k6, k7.imp fun _ _ q => q.mono hs hE.im⟩
theorem ObRep.mono {E E' : Env} {w w' : World} {r : Nat} {ob : Ob} (h : ObRep E w r ob) (hr : E.bn r) (hE : E.le E') (hs : Stable E.im w w') (hz : w.heap.size ≤ w'.heap.size) (hb : ∀ b, obk ob (E.ι r) = some b → w'.heap[b]? = w.heap[b]?) : ObRep E' w' r ob := by
  cases ob with
  | box cs =>
    obtain ⟨b, T, cur, h1, h2, h3, h4⟩ := h
    exact ⟨b, T, cur, (hE.ι r hr).trans h1, (hb b (by rw [h1]; rfl)).trans h2, h3.imp fun _ _ q => q.mono hE hs, h4⟩
  | row sz x =>
    show RowRep E' w' sz (E'.ι r) x
    rw [hE.ι r hr]
    exact RowRep.mono h hE hs hz hb
  | imm x =>
    show Reads E'.im w' (E'.ι r) x
    rw [hE.ι r hr]
    exact Reads.mono h hs hE.im

/-- The small machine's memory stands for the world's. -/
structure Sim (w0 : World) (E : Env) (mem : Nat → Option Ob) (w : World) : Prop where
  below : Below w0.heap.size w0 w
  im : ∀ b, E.im b → b < w.heap.size ∧ (E.od b ∨ w0.heap.size ≤ b)
  ob : ∀ r o, mem r = some o → E.bn r ∧ ObRep E w r o
  live : ∀ r o b, mem r = some o → obk o (E.ι r) = some b → w0.heap.size ≤ b ∧ b < w.heap.size ∧ ¬ E.im b
  dist : ∀ r r' o o' b, mem r = some o → mem r' = some o' → obk o (E.ι r) = some b → obk o' (E.ι r') = some b → r = r'

/-- Nothing that stands for something is touched. -/
theorem Sim.step {w0 : World} {E : Env} {mem : Nat → Option Ob} {w w' : World} (h : Sim w0 E mem w) (hb : Below w.heap.size w w') : Sim w0 E mem w' where
  below := h.below.trans (hb.mono h.below.size)
  im := fun b hx => ⟨Nat.lt_of_lt_of_le (h.im b hx).1 hb.size, (h.im b hx).2⟩
  ob := fun r o hr => by
    obtain ⟨h1, h2⟩ := h.ob r o hr
    exact ⟨h1, h2.mono h1 (Env.le.refl E) (fun b hx => hb.block b (h.im b hx).1) hb.size (fun b hx => hb.block b (h.live r o b hr hx).2.1)⟩
  live := fun r o b hr hx => by
    obtain ⟨h1, h2, h3⟩ := h.live r o b hr hx
    exact ⟨h1, Nat.lt_of_lt_of_le h2 hb.size, h3⟩
  dist := h.dist
theorem Sim.stable {w0 : World} {E : Env} {mem : Nat → Option Ob} {w w' : World} (h : Sim w0 E mem w) (hb : Below w.heap.size w w') : Stable E.im w w' := fun b hx => hb.block b (h.im b hx).1
/-- Less is kept in mind. -/
theorem Sim.drop {w0 : World} {E : Env} {mem mem' : Nat → Option Ob} {w : World} (h : Sim w0 E mem w) (hm : ∀ r o, mem' r = some o → mem r = some o) : Sim w0 E mem' w where
  below := h.below
  im := h.im
  ob := fun r o hr => h.ob r o (hm r o hr)
  live := fun r o b hr => h.live r o b (hm r o hr)
  dist := fun r r' o o' b hr hr' => h.dist r r' o o' b (hm r o hr) (hm r' o' hr')

def upd {α : Type} (f : Nat → α) (i : Nat) (x : α) : Nat → α := fun j => bif Nat.beq j i then x else f j
theorem upd_same {α : Type} (f : Nat → α) (i : Nat) (x : α) : upd f i x i = x := by simp [upd]
theorem upd_ne {α : Type} (f : Nat → α) {i j : Nat} (x : α) (h : j ≠ i) : upd f i x j = f j := by
  have : Nat.beq j i = false := by rw [Bool.eq_false_iff]; intro e; exact h (Nat.eq_of_beq_eq_true e)
  simp [upd, this]
def updL {α : Type} (f : Nat → Option α) : List (Nat × Option α) → Nat → Option α
  | [] => f
  | (i, x) :: l => updL (upd f i x) l
end Go.Proofs.Ytjdemohgegldaaa
