/-
  What a function does, as data: a contract, and a call of it.
-/
import Derived.Test.YtjdemohgegldaaaAm9
namespace Go.Proofs.Ytjdemohgegldaaa
set_option linter.unusedSimpArgs false
set_option linter.unusedVariables false
open Go.RowKit

def ArgV (ok : Nat → Prop) (w : World) : D → Value → Prop
  | .agg cs, v => ∃ vs : List Value, v = .agg vs.toArray ∧ All2 (Reads ok w) vs cs
  | d, v => Reads ok w v d
def noEnv : Env := ⟨fun _ => undef, fun _ => False, fun _ => False, fun _ => True⟩
def ResC (w : World) : D → Value → Prop
  | .v x, u => u = x ∧ scalar x = true
  | .sl sz es, u => RowRep noEnv w sz u (.sl sz es)
  | _, _ => False
def ResV (w : World) : D → Value → Prop
  | .agg cs, u => ∃ vs : List Value, u = .agg vs.toArray ∧ All2 (ResC w) cs vs
  | d, u => ResC w d u
def blksV : Value → List Nat
  | .agg vs => vs.toList.filterMap blk
  | v => [v].filterMap blk
def pack : List Value → Value
  | [u] => u
  | us => .tuple us.toArray
/-- Called with values that read as these data, a function returns values of its own that read as those data; nothing that was there is turned. -/
def PureD (P : Program) (f : FuncId) (args res : List D) : Prop :=
  ∀ (ok : Nat → Prop) (w : World) (vs : List Value), (∀ b, ok b → b < w.heap.size) → All2 (ArgV ok w) args vs →
    Calls P f vs.toArray w fun e w' => ∃ us, e = .returned (pack us) ∧ Below w.heap.size w w' ∧ All2 (ResV w') res us ∧ (∀ b ∈ us.flatMap blksV, w.heap.size ≤ b ∧ b < w'.heap.size) ∧ (us.flatMap blksV).Nodup

def cellsD (mem : Nat → Option Ob) : List C → Option (List D)
  | [] => some []
  | c :: cs => match c.toD mem, cellsD mem cs with
    | some x, some l => some (x :: l)
    | _, _ => none
def argD (mem : Nat → Option Ob) : AV → Option D
  | .t (.one c) => c.toD mem
  | .t (.agg cs) => (cellsD mem cs).map .agg
  | _ => none
def argsD (mem : Nat → Option Ob) (ρ : Operand → AV) : List Operand → Option (List D)
  | [] => some []
  | x :: xs => match argD mem (ρ x), argsD mem ρ xs with
    | some d, some l => some (d :: l)
    | _, _ => none
def AV.acc : AV → List Nat
  | .t (.one c) => c.acc
  | .t (.agg cs) => cs.flatMap C.acc
  | _ => []
theorem toD_reads {w0 : World} {E : Env} {mem mem' : Nat → Option Ob} {w : World} {c : C} {v : Value} {x : D} (hS : Sim w0 E mem' w) (hacc : ∀ r ∈ c.acc, mem' r = mem r) (hc : CRep E w c v) (hd : c.toD mem = some x) : Reads (fun b => b < w.heap.size) w v x := by
  cases c with
  | d y => simp only [C.toD, Option.some.injEq] at hd; subst hd; exact Reads.mono hc (Stable.refl _ _) (fun b hb => (hS.im b hb).1)
  | k u => simp only [C.toD, Option.some.injEq] at hd; subst hd; obtain ⟨rfl, h⟩ := hc; exact .v h
  | row r =>
    have hm := hacc r (by simp [C.acc])
    simp only [C.toD] at hd
    obtain ⟨_, rfl, _⟩ := hc
    split at hd
    · rename_i sz' x' hmr
      injection hd with hd; subst hd
      have hmr' := hm.trans hmr
      obtain ⟨_, hrow⟩ := hS.ob r _ hmr'
      exact RowRep.reads hrow _ (fun b hb => (hS.im b hb).1) (fun b o n c hv h0 => (hS.live r _ b hmr' (by rw [hv]; simp [obk, blk, h0])).2.1)
    · rename_i x' hmr
      injection hd with hd; subst hd
      obtain ⟨_, hrow⟩ := hS.ob r _ (hm.trans hmr)
      exact Reads.mono hrow (Stable.refl _ _) (fun b hb => (hS.im b hb).1)
    · cases hd
  | _ => simp [C.toD] at hd
theorem cellsD_reads {w0 : World} {E : Env} {mem mem' : Nat → Option Ob} {w : World} (hS : Sim w0 E mem' w) : ∀ {cs : List C} {vs : List Value} {l : List D}, (∀ r ∈ cs.flatMap C.acc, mem' r = mem r) → All2 (CRep E w) cs vs → cellsD mem cs = some l → All2 (Reads (fun b => b < w.heap.size) w) vs l
  | [], vs, l, _, h, hd => by
    simp [cellsD] at hd; subst hd
    cases vs with
    | nil => trivial
    | cons v vs => exact h.elim
  | c :: cs, vs, l, ha, h, hd => by
    simp only [cellsD] at hd
    split at hd
    · rename_i x l' h1 h2
      injection hd with hd; subst hd
      cases vs with
      | nil => exact h.elim
      | cons v vs => exact ⟨toD_reads hS (fun r hr => ha r (by simp [hr])) h.1 h1, cellsD_reads hS (fun r hr => ha r (by rw [List.flatMap_cons]; exact List.mem_append_right _ hr)) h.2 h2⟩
    · cases hd
theorem Reads.argV {ok : Nat → Prop} {w : World} {v : Value} {x : D} (h : Reads ok w v x) : ArgV ok w x v := by
  cases h with
  | v h => exact .v h
  | sl us hs hb hn hc hm hw hl hr => exact .sl us hs hb hn hc hm hw hl hr
  | fn cvs hn hr => exact .fn cvs hn hr
  | pt us hb hl hr => exact .pt us hb hl hr
theorem argD_rep {w0 : World} {E : Env} {mem mem' : Nat → Option Ob} {w : World} (hS : Sim w0 E mem' w) {x : AV} {v : Value} {d : D} (ha : ∀ r ∈ x.acc, mem' r = mem r) (h : AVRep E w x v) (hd : argD mem x = some d) : ArgV (fun b => b < w.heap.size) w d v := by
  unfold argD at hd
  split at hd
  · exact (toD_reads hS ha h hd).argV
  · obtain ⟨l, hl, rfl⟩ := Option.map_eq_some_iff.1 hd
    obtain ⟨vs, rfl, h2, _⟩ := h
    exact ⟨vs, rfl, cellsD_reads hS ha h2 hl⟩
  · cases hd
theorem argsD_rep {w0 : World} {E : Env} {mem mem' : Nat → Option Ob} {w : World} (hS : Sim w0 E mem' w) {ρ : Operand → AV} {a : Act} : ∀ {xs : List Operand} {l : List D}, (∀ r ∈ xs.flatMap (fun x => (ρ x).acc), mem' r = mem r) → (∀ x ∈ xs, AVRep E w (ρ x) (a.eval x)) → argsD mem ρ xs = some l → All2 (ArgV (fun b => b < w.heap.size) w) l (xs.map a.eval)
  | [], l, _, _, hd => by simp [argsD] at hd; subst hd; trivial
  | x :: xs, l, ha, hx, hd => by
    simp only [argsD] at hd
    split at hd
    · rename_i d l' h1 h2
      injection hd with hd; subst hd
      exact ⟨argD_rep hS (fun r hr => ha r (by simp [hr])) (hx x (by simp)) h1, argsD_rep hS (fun r hr => ha r (by rw [List.flatMap_cons]; exact List.mem_append_right _ hr)) (fun y hy => hx y (by simp [hy])) h2⟩
    · cases hd

/-- What a call gave is the caller's own: its slices are rows. -/
def adoptCells : Nat → List (Option Nat) → List D → List C × List (Nat × Option Ob)
  | n, none :: ks, x :: xs => ((C.d x) :: (adoptCells n ks xs).1, (adoptCells n ks xs).2)
  | n, some sz :: ks, x :: xs => ((C.row n) :: (adoptCells (n + 1) ks xs).1, (n, some (.row sz x)) :: (adoptCells (n + 1) ks xs).2)
  | _, _, _ => ([], [])
def fitsCells : List (Option Nat) → List D → Prop
  | [], [] => True
  | none :: ks, x :: xs => (∃ y, x = .v y) ∧ fitsCells ks xs
  | some sz :: ks, x :: xs => (x = .v nilS ∨ ∃ es, x = .sl sz es) ∧ fitsCells ks xs
  | _, _ => False
abbrev Shape := Bool × List (Option Nat)
def xsOf (sh : Shape) (r : D) : List D := bif sh.1 then (List.range sh.2.length).map r.cell else [r]
def fitsOne (sh : Shape) (r : D) : Prop := (bif sh.1 then ∃ cs, r = .agg cs ∧ cs.length = sh.2.length else True) ∧ fitsCells sh.2 (xsOf sh r)
def fits : List Shape → List D → Prop
  | [], [] => True
  | sh :: shs, r :: rs => fitsOne sh r ∧ fits shs rs
  | _, _ => False
def adopt : Nat → List Shape → List D → List T × List (Nat × Option Ob)
  | n, sh :: shs, r :: rs =>
    ((bif sh.1 then T.agg (adoptCells n sh.2 (xsOf sh r)).1 else T.one ((adoptCells n sh.2 (xsOf sh r)).1.headD .bot)) :: (adopt (n + (adoptCells n sh.2 (xsOf sh r)).2.length) shs rs).1,
     (adoptCells n sh.2 (xsOf sh r)).2 ++ (adopt (n + (adoptCells n sh.2 (xsOf sh r)).2.length) shs rs).2)
  | _, _, _ => ([], [])
def packT : List T → AV
  | [t] => .t t
  | ts => .tup ts

theorem scalar_blk {v : Value} (h : scalar v = true) : blk v = none := by
  unfold scalar at h
  split at h <;> first | rfl | cases h
theorem updL_append {α : Type} : ∀ (a b : List (Nat × Option α)) (f : Nat → Option α), updL f (a ++ b) = updL (updL f a) b
  | [], b, f => rfl
  | (i, x) :: a, b, f => updL_append a b _
theorem adoptCells_ok {w0 : World} {w : World} {B0 : Nat} (hB : w0.heap.size ≤ B0) : ∀ (ks : List (Option Nat)) (n : Nat) (xs : List D) (vs : List Value) (E : Env) (mem : Nat → Option Ob), Sim w0 E mem w → (∀ r, n ≤ r → r < n + (adoptCells n ks xs).2.length → ¬ E.bn r) → fitsCells ks xs → All2 (ResC w) xs vs →
    (∀ b ∈ vs.filterMap blk, B0 ≤ b ∧ b < w.heap.size) → (vs.filterMap blk).Nodup → (∀ b, E.im b → b < B0) → (∀ q o b, mem q = some o → obk o (E.ι q) = some b → b ∉ vs.filterMap blk) →
    ∃ E', E.le E' ∧ Sim w0 E' (updL mem (adoptCells n ks xs).2) w ∧ All2 (CRep E' w) (adoptCells n ks xs).1 vs ∧ (∀ b, E'.im b → E.im b) ∧ (∀ r, E'.bn r → E.bn r ∨ (n ≤ r ∧ r < n + (adoptCells n ks xs).2.length)) ∧
      (∀ q o b, updL mem (adoptCells n ks xs).2 q = some o → obk o (E'.ι q) = some b → (∃ o', mem q = some o' ∧ obk o' (E.ι q) = some b) ∨ b ∈ vs.filterMap blk) ∧ (∀ u ∈ vs, u.oneCell' = true)
  | [], n, xs, vs, E, mem, hS, hn, hf, hr, hb, hnd, him, hown => by
    cases xs with
    | cons x xs => exact hf.elim
    | nil =>
      cases vs with
      | cons v vs => exact hr.elim
      | nil => exact ⟨E, Env.le.refl E, hS, trivial, fun _ h => h, fun _ h => .inl h, fun q o b hq hk => .inl ⟨o, hq, hk⟩, by simp⟩
  | k :: ks, n, xs, vs, E, mem, hS, hn, hf, hr, hb, hnd, him, hown => by
    cases xs with
    | nil => cases k <;> exact hf.elim
    | cons x xs =>
      cases vs with
      | nil => exact hr.elim
      | cons v vs =>
        obtain ⟨hr1, hr2⟩ := hr
        cases k with
        | none =>
          obtain ⟨⟨y, rfl⟩, hf2⟩ := hf
          obtain ⟨rfl, hsc⟩ := hr1
          have hbl : blk v = none := scalar_blk hsc
          have hfm : (v :: vs).filterMap blk = vs.filterMap blk := by simp [List.filterMap_cons, hbl]
          rw [hfm] at hb hnd hown ⊢
          obtain ⟨E', h1, h2, h3, h4, h5, h6, h7⟩ := adoptCells_ok hB ks n xs vs E mem hS hn hf2 hr2 hb hnd him hown
          exact ⟨E', h1, h2, ⟨.v hsc, h3⟩, h4, h5, h6, fun u hu => by
            rcases List.mem_cons.1 hu with rfl | hu
            · exact scalar_one hsc
            · exact h7 u hu⟩
        | some sz =>
          obtain ⟨hx, hf2⟩ := hf
          have hrow : RowRep noEnv w sz v x := by
            rcases hx with rfl | ⟨es, rfl⟩
            · obtain ⟨rfl, _⟩ := hr1; exact .inl ⟨rfl, rfl⟩
            · have hr1 : RowRep noEnv w _ v _ := hr1; exact hr1
          have hn0 : ¬ E.bn n := hn n (Nat.le_refl _) (by simp [adoptCells])
          have hle := E.le_add n v hn0
          have hrow' : RowRep (E.add n v) w sz v x := RowRep.mono (E := noEnv) hrow ⟨fun _ h => h.elim, fun _ h => h.elim, fun _ h => h.elim, fun _ _ => trivial⟩ (Stable.refl _ _) (Nat.le_refl _) (fun _ _ => rfl)
          have hvs : ∃ a n c, v = .slice a n c := by
            rcases hrow with ⟨_, h⟩ | ⟨es, _, _, ⟨_, b, o, h, _⟩ | ⟨b, c, T, cur, h, _⟩⟩
            · exact ⟨_, _, _, h⟩
            · exact ⟨_, _, _, h⟩
            · exact ⟨_, _, _, h⟩
          have hmem : ∀ b, blk v = some b → b ∈ (v :: vs).filterMap blk := fun b hb' => by simp [List.filterMap_cons, hb']
          have hS1 := hS.add n hn0 v (.row sz x) (obRow hrow') (fun b hb' => by
            have hb'' : blk v = some b := hb'
            obtain ⟨q1, q2⟩ := hb b (hmem b hb'')
            exact ⟨by omega, q2, fun hi => by have := him b hi; omega, fun q o hq hk => hown q o b hq hk (hmem b hb'')⟩)
          have hsub : ∀ b, b ∈ vs.filterMap blk → b ∈ (v :: vs).filterMap blk := fun b hb' => by
            cases hv : blk v <;> simp [List.filterMap_cons, hv]
            · simpa using hb'
            · exact .inr (by simpa using hb')
          have hnd2 : (vs.filterMap blk).Nodup := by
            cases hv : blk v
            · simpa [List.filterMap_cons, hv] using hnd
            · simp only [List.filterMap_cons, hv, List.nodup_cons] at hnd; exact hnd.2
          have hnotin : ∀ b, blk v = some b → b ∉ vs.filterMap blk := fun b hb' => by
            simp only [List.filterMap_cons, hb', List.nodup_cons] at hnd; exact hnd.1
          have hobk : ∀ q o b, upd mem n (some (.row sz x)) q = some o → obk o ((E.add n v).ι q) = some b → (q = n ∧ blk v = some b) ∨ (mem q = some o ∧ obk o (E.ι q) = some b) := fun q o b hq hk => by
            by_cases e : q = n
            · subst e
              rw [upd_same] at hq; injection hq with hq; subst hq
              rw [show (E.add q v).ι q = v from upd_same _ _ _] at hk
              exact .inl ⟨rfl, hk⟩
            · rw [upd_ne _ _ e] at hq
              rw [show (E.add n v).ι q = E.ι q from upd_ne _ _ e] at hk
              exact .inr ⟨hq, hk⟩
          obtain ⟨E', h1, h2, h3, h4, h5, h6, h7⟩ := adoptCells_ok hB ks (n + 1) xs vs (E.add n v) (upd mem n (some (.row sz x))) hS1 (fun r hr hr2 hb' => by rcases hb' with hb' | rfl; exact hn r (by omega) (by simp only [adoptCells, List.length_cons]; omega) hb'; omega) hf2 hr2 (fun b hb' => hb b (hsub b hb')) hnd2 him
            (fun q o b hq hk => by
              rcases hobk q o b hq hk with ⟨_, hk⟩ | ⟨hq, hk⟩
              · exact hnotin b hk
              · exact fun hb' => hown q o b hq hk (hsub b hb'))
          refine ⟨E', hle.trans h1, h2, ⟨⟨h1.bn n (.inr rfl), ?_, ?_⟩, h3⟩, h4, fun r hr => ?_, fun q o b hq hk => ?_, fun u hu => ?_⟩
          · rw [h1.ι n (.inr rfl)]; exact (upd_same _ _ _).symm
          · rw [h1.ι n (.inr rfl), show (E.add n v).ι n = v from upd_same _ _ _]; exact hvs
          · simp only [adoptCells, List.length_cons]
            rcases h5 r hr with h5 | h5
            · rcases h5 with h5 | rfl
              · exact .inl h5
              · exact .inr ⟨Nat.le_refl _, by omega⟩
            · exact .inr ⟨by omega, by omega⟩
          · rcases h6 q o b hq hk with ⟨o', hq', hk'⟩ | hm
            · rcases hobk q o' b hq' hk' with ⟨_, hk'⟩ | ⟨hq', hk'⟩
              · exact .inr (hmem b hk')
              · exact .inl ⟨o', hq', hk'⟩
            · exact .inr (hsub b hm)
          · rcases List.mem_cons.1 hu with rfl | hu
            · obtain ⟨a, n, c, h⟩ := hvs; rw [h]; rfl
            · exact h7 u hu
theorem filterMap_nil_of_none {vs : List Value} (h : ∀ v ∈ vs, blk v = none) : vs.filterMap blk = [] := by
  rw [List.filterMap_eq_nil_iff]; exact h
theorem resC_notAgg {w : World} {r : D} {u : Value} (h : ResC w r u) : blksV u = [u].filterMap blk := by
  cases r with
  | v x => obtain ⟨rfl, hs⟩ := h; cases u <;> first | rfl | (simp [scalar] at hs)
  | sl sz es =>
    have h : RowRep noEnv w sz u (.sl sz es) := h
    rcases h with ⟨_, rfl⟩ | ⟨es, _, _, ⟨_, b, o, rfl, _⟩ | ⟨b, c, T, cur, rfl, _⟩⟩ <;> rfl
  | agg cs => exact h.elim
  | fn _ _ => exact h.elim
  | pt _ => exact h.elim
theorem adopt_ok {w0 : World} {w : World} {B0 : Nat} (hB : w0.heap.size ≤ B0) : ∀ (shs : List Shape) (n : Nat) (rs : List D) (us : List Value) (E : Env) (mem : Nat → Option Ob), Sim w0 E mem w → (∀ r, n ≤ r → r < n + (adopt n shs rs).2.length → ¬ E.bn r) → fits shs rs → All2 (ResV w) rs us →
    (∀ b ∈ us.flatMap blksV, B0 ≤ b ∧ b < w.heap.size) → (us.flatMap blksV).Nodup → (∀ b, E.im b → b < B0) → (∀ q o b, mem q = some o → obk o (E.ι q) = some b → b ∉ us.flatMap blksV) →
    ∃ E', E.le E' ∧ Sim w0 E' (updL mem (adopt n shs rs).2) w ∧ All2 (TRep E' w) (adopt n shs rs).1 us ∧ (∀ r, E'.bn r → E.bn r ∨ (n ≤ r ∧ r < n + (adopt n shs rs).2.length))
  | [], n, rs, us, E, mem, hS, hn, hf, hr, hb, hnd, him, hown => by
    cases rs with
    | cons r rs => exact hf.elim
    | nil =>
      cases us with
      | cons u us => exact hr.elim
      | nil => exact ⟨E, Env.le.refl E, hS, trivial, fun _ h => .inl h⟩
  | sh :: shs, n, rs, us, E, mem, hS, hn, hf, hr, hb, hnd, him, hown => by
    cases rs with
    | nil => exact hf.elim
    | cons r rs =>
      cases us with
      | nil => exact hr.elim
      | cons u us =>
        obtain ⟨⟨hag, hfc⟩, hf2⟩ := hf
        obtain ⟨hr1, hr2⟩ := hr
        -- the first result's cells
        obtain ⟨vs, hvs, hres, hblk⟩ : ∃ vs : List Value, u.cells.toList = vs ∧ All2 (ResC w) (xsOf sh r) vs ∧ blksV u = vs.filterMap blk := by
          obtain ⟨agg, ks⟩ := sh
          cases agg
          · have hx : xsOf (false, ks) r = [r] := rfl
            rw [hx]
            have hrc : ResC w r u := by
              cases r with
              | agg cs =>
                rw [hx] at hfc
                cases ks with
                | nil => exact hfc.elim
                | cons k ks =>
                  cases k with
                  | none => obtain ⟨⟨y, hy⟩, _⟩ := hfc; cases hy
                  | some sz => obtain ⟨hy, _⟩ := hfc; rcases hy with hy | ⟨es, hy⟩ <;> cases hy
              | v x => exact hr1
              | sl sz es => exact hr1
              | fn _ _ => exact hr1
              | pt _ => exact hr1
            have hc : u.cells.toList = [u] := by
              cases r with
              | v x => obtain ⟨rfl, hs⟩ := hrc; have := scalar_one hs; cases u <;> first | rfl | (simp [Value.oneCell'] at this)
              | sl sz es =>
                have h : RowRep noEnv w sz u (.sl sz es) := hrc
                rcases h with ⟨_, rfl⟩ | ⟨es, _, _, ⟨_, b, o, rfl, _⟩ | ⟨b, c, T, cur, rfl, _⟩⟩ <;> rfl
              | agg cs => exact hrc.elim
              | fn _ _ => exact hrc.elim
              | pt _ => exact hrc.elim
            exact ⟨[u], hc, ⟨hrc, trivial⟩, resC_notAgg hrc⟩
          · obtain ⟨cs, rfl, hl⟩ := hag
            have hl : cs.length = ks.length := hl
            obtain ⟨vs, rfl, hall⟩ := hr1
            refine ⟨vs, by simp [Value.cells], ?_, by simp [blksV]⟩
            have hx : xsOf (true, ks) (.agg cs) = cs := by
              simp only [xsOf, cond_true]
              apply List.ext_getElem?
              intro k
              by_cases hk : k < ks.length
              · simp [hk, D.cell, D.cells, List.getD, show k < cs.length by omega]
              · simp [List.getElem?_eq_none (show cs.length ≤ k by omega), show ks.length ≤ k by omega]
            rw [hx]; exact hall
        have hsplit : (u :: us).flatMap blksV = vs.filterMap blk ++ us.flatMap blksV := by rw [List.flatMap_cons, hblk]
        rw [hsplit] at hb hnd hown
        rw [List.nodup_append] at hnd
        obtain ⟨nd1, nd2, nd3⟩ := hnd
        obtain ⟨E1, h1, h2, h3, h4, h5, h6, h7⟩ := adoptCells_ok hB sh.2 n (xsOf sh r) vs E mem hS (fun q hq hq2 => hn q hq (by simp only [adopt, List.length_append]; omega)) hfc hres (fun b hb' => hb b (List.mem_append_left _ hb')) nd1 him (fun q o b hq hk hb' => hown q o b hq hk (List.mem_append_left _ hb'))
        obtain ⟨E2, g1, g2, g3, g4⟩ := adopt_ok hB shs (n + (adoptCells n sh.2 (xsOf sh r)).2.length) rs us E1 (updL mem (adoptCells n sh.2 (xsOf sh r)).2) h2 (fun q hq hq2 hb' => by rcases h5 q hb' with h5 | h5; exact hn q (by omega) (by simp only [adopt, List.length_append]; omega) h5; omega) hf2 hr2
          (fun b hb' => hb b (List.mem_append_right _ hb')) nd2 (fun b hb' => him b (h4 b hb')) (fun q o b hq hk hb' => by
            rcases h6 q o b hq hk with ⟨o', hq', hk'⟩ | hm
            · exact hown q o' b hq' hk' (List.mem_append_right _ hb')
            · exact nd3 b hm b hb' rfl)
        refine ⟨E2, h1.trans g1, by simpa [adopt, updL_append] using g2, ⟨?_, g3⟩, fun q hq => ?_⟩
        · obtain ⟨agg, ks⟩ := sh
          cases agg
          · cases vs with
            | nil => 
              simp only [xsOf, cond_false] at hres
              exact hres.elim
            | cons v vs =>
              have hres' := hres
              simp only [xsOf, cond_false] at hres'
              obtain ⟨hrc, hnil⟩ := hres'
              cases vs with
              | cons _ _ => exact hnil.elim
              | nil =>
                have hu : u = v := by
                  have : u.cells.toList = [v] := hvs
                  cases r with
                  | v x => have hr1 : ResC w (.v x) u := hr1; obtain ⟨rfl, hs⟩ := hr1; have h1 := scalar_one hs; cases u <;> first | (simpa [Value.cells] using this) | (simp [Value.oneCell'] at h1)
                  | sl sz es =>
                    have hr1 : RowRep noEnv w sz u (.sl sz es) := hr1
                    rcases hr1 with ⟨_, rfl⟩ | ⟨es, _, _, ⟨_, b, o, rfl, _⟩ | ⟨b, c, T, cur, rfl, _⟩⟩ <;> simpa [Value.cells, nilS] using this
                  | agg cs => exact hrc.elim
                  | fn _ _ => exact hrc.elim
                  | pt _ => exact hrc.elim
                subst hu
                show TRep E2 w (T.one ((adoptCells n ks (xsOf (false, ks) r)).1.headD .bot)) u
                have h3' := h3
                cases hcs : (adoptCells n ks (xsOf (false, ks) r)).1 with
                | nil => simp only [hcs] at h3'; exact h3'.elim
                | cons c cs => simp only [hcs] at h3'; exact CRep.mono h3'.1 g1 (Stable.refl _ _)
          · obtain ⟨cs, rfl, hl⟩ := hag
            obtain ⟨vs', rfl, hall⟩ := hr1
            have : vs' = vs := by simpa [Value.cells] using hvs
            subst this
            exact ⟨vs', rfl, h3.imp fun _ _ q => CRep.mono q g1 (Stable.refl _ _), h7⟩
        · simp only [adopt, List.length_append]
          rcases g4 q hq with g4 | g4
          · rcases h5 q g4 with h5 | h5
            · exact .inl h5
            · exact .inr ⟨h5.1, by omega⟩
          · exact .inr ⟨by omega, by omega⟩

section
variable {P : Program} {o : Oper} {ρ : Operand → AV} {mem : Nat → Option Ob}
theorem call_ok {fo : Operand} {args : Array Operand} {tys : Array TypeId} (ho : o.op = .call { callee := .value fo, args := args, argTypes := tys }) {f : FuncId} (hfo : ρ fo = .t (.one (.k (.func (.func f) ⟨[]⟩ ⟨[]⟩)))) {fn : Func} (hf : P.funcs[f]? = some fn) (hname : (fn.name == "runtime.NumGoroutine") = false) (hbody : fn.body.isNone = false)
    {ds : List D} (hds : argsD mem ρ args.toList = some ds) {res : List D} (hc : PureD P f ds res) {shs : List Shape} (hfit : fits shs res) (n m : Nat) (hm : n + (adopt n shs res).2.length ≤ m) :
    OpOk P o ρ mem (packT (adopt n shs res).1) (args.toList.flatMap fun x => (ρ x).acc) ((List.range (m - n)).map (n + ·)) (adopt n shs res).2 := by
  intro w0 E mem' w a K Q hS hacc hn hops hK
  have hfv := hops fo (by simp [ho, Op.operands, Call.operands])
  rw [hfo] at hfv
  have hfv : a.eval fo = .func (.func f) ⟨[]⟩ ⟨[]⟩ := hfv.1
  have hargs := argsD_rep hS (a := a) hacc (fun x hx => hops x (by simp only [ho, Op.operands, Call.operands, Array.mem_append]; exact .inr (by simpa using hx))) hds
  have hcall := hc _ w _ (fun b hb => hb) hargs
  have hrun : (execOp a.eval o).run P w = .ok (.enter f (args.map a.eval)) w := by
    unfold execOp
    simp only [ho, resolve, hfv, Deferred.ofValue, Sem.run_bind, Sem.run_pure, Result.andThen_ok, invoke, callFunc, run_program, hf]
    have : ((⟨[]⟩ : Array Value) ++ args.map a.eval ++ ⟨[]⟩) = args.map a.eval := by
      show (#[] ++ args.map a.eval ++ #[]) = _
      simp
    rw [this]
    simp [hname, hbody]
  unfold Oper.wp
  rw [hrun, Oper.upon_enter]
  have e1 : (args.toList.map a.eval).toArray = args.map a.eval := by apply Array.ext'; simp
  rw [e1] at hcall
  refine hcall.mono ?_
  rintro ev w' ⟨us, rfl, hb, hres, hblk, hnd⟩
  obtain ⟨E', h1, h2, h3, h4⟩ := adopt_ok (B0 := w.heap.size) hS.below.size shs n res us E mem' (hS.step hb) (fun r hr hr2 => hn r (List.mem_map.2 ⟨r - n, List.mem_range.2 (by omega), by omega⟩)) hfit hres hblk hnd (fun b hb => (hS.im b hb).1) (fun q ob b hq hk hb' => by
    have := (hS.live q ob b hq hk).2.1
    have := (hblk b hb').1
    omega)
  refine hK E' w' (pack us) h1 (fun r hr => (h4 r hr).imp_right fun hr => List.mem_map.2 ⟨r - n, List.mem_range.2 (by omega), by omega⟩) (hS.stable hb) ?_ h2
  revert h3
  generalize (adopt n shs res).1 = ts
  intro h3
  match ts, us, h3 with
  | [], [], _ => exact ⟨[], rfl, trivial⟩
  | [t], [u], h3 => exact h3.1
  | t :: t' :: ts, u :: u' :: us, h3 => exact ⟨_, rfl, h3⟩
end
end Go.Proofs.Ytjdemohgegldaaa
