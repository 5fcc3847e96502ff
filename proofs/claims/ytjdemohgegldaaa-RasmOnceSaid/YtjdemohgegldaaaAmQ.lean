/-
  A function whose results are only to be read: its contract out of its body.
-/
import Derived.Test.YtjdemohgegldaaaAmZ
namespace Go.Proofs.Ytjdemohgegldaaa
set_option linter.unusedSimpArgs false
set_option linter.unusedVariables false
open Go.RowKit

theorem toD_readsG {w0 : World} {E : Env} {mem : Nat → Option Ob} {w : World} {ok : Nat → Prop} (hok1 : ∀ b, E.im b → ok b) (hok2 : ∀ b, w0.heap.size ≤ b → b < w.heap.size → ok b) (hS : Sim w0 E mem w) {c : C} {v : Value} {x : D} (hc : CRep E w c v) (hd : c.toD mem = some x) : Reads ok w v x := by
  cases c with
  | d y => simp only [C.toD, Option.some.injEq] at hd; subst hd; exact Reads.mono hc (Stable.refl _ _) hok1
  | k u => simp only [C.toD, Option.some.injEq] at hd; subst hd; obtain ⟨rfl, h⟩ := hc; exact .v h
  | row r =>
    simp only [C.toD] at hd
    obtain ⟨_, rfl, _⟩ := hc
    split at hd
    · rename_i sz' x' hmr
      injection hd with hd; subst hd
      obtain ⟨_, hrow⟩ := hS.ob r _ hmr
      exact RowRep.reads hrow _ hok1 (fun b o n c hv h0 => by
        obtain ⟨k1, k2, _⟩ := hS.live r _ b hmr (by rw [hv]; simp [obk, blk, h0])
        exact hok2 b k1 k2)
    · rename_i x' hmr
      injection hd with hd; subst hd
      obtain ⟨_, hrow⟩ := hS.ob r _ hmr
      exact Reads.mono hrow (Stable.refl _ _) hok1
    · cases hd
  | _ => simp [C.toD] at hd
theorem cellsD_readsG {w0 : World} {E : Env} {mem : Nat → Option Ob} {w : World} {ok : Nat → Prop} (hok1 : ∀ b, E.im b → ok b) (hok2 : ∀ b, w0.heap.size ≤ b → b < w.heap.size → ok b) (hS : Sim w0 E mem w) : ∀ {cs : List C} {vs : List Value} {l : List D}, All2 (CRep E w) cs vs → cellsD mem cs = some l → All2 (Reads ok w) vs l
  | [], vs, l, h, hd => by
    simp [cellsD] at hd; subst hd
    cases vs with
    | nil => trivial
    | cons v vs => exact h.elim
  | c :: cs, vs, l, h, hd => by
    simp only [cellsD] at hd
    split at hd
    · rename_i x l' h1 h2
      injection hd with hd; subst hd
      cases vs with
      | nil => exact h.elim
      | cons v vs => exact ⟨toD_readsG hok1 hok2 hS h.1 h1, cellsD_readsG hok1 hok2 hS h.2 h2⟩
    · cases hd
def tP (mem : Nat → Option Ob) : Go.Proofs.Ytjdemohgegldaaa.T → Option D
  | .one c => c.toD mem
  | .agg cs => (cellsD mem cs).map .agg
def tsP (mem : Nat → Option Ob) : List Go.Proofs.Ytjdemohgegldaaa.T → Option (List D)
  | [] => some []
  | t :: ts => match tP mem t, tsP mem ts with
    | some x, some l => some (x :: l)
    | _, _ => none
theorem tP_rep {w0 : World} {E : Env} {mem : Nat → Option Ob} {w : World} {ok : Nat → Prop} (hok1 : ∀ b, E.im b → ok b) (hok2 : ∀ b, w0.heap.size ≤ b → b < w.heap.size → ok b) (hS : Sim w0 E mem w) {t : Go.Proofs.Ytjdemohgegldaaa.T} {u : Value} {d : D} (h : TRep E w t u) (hd : tP mem t = some d) : ArgV ok w d u := by
  cases t with
  | one c => exact (toD_readsG hok1 hok2 hS h hd).argV
  | agg cs =>
    obtain ⟨l, hl, rfl⟩ := Option.map_eq_some_iff.1 hd
    obtain ⟨vs, rfl, h2, _⟩ := h
    exact ⟨vs, rfl, cellsD_readsG hok1 hok2 hS h2 hl⟩
theorem tsP_rep {w0 : World} {E : Env} {mem : Nat → Option Ob} {w : World} {ok : Nat → Prop} (hok1 : ∀ b, E.im b → ok b) (hok2 : ∀ b, w0.heap.size ≤ b → b < w.heap.size → ok b) (hS : Sim w0 E mem w) : ∀ {ts : List Go.Proofs.Ytjdemohgegldaaa.T} {us : List Value} {ds : List D}, All2 (TRep E w) ts us → tsP mem ts = some ds → All2 (ArgV ok w) ds us
  | [], us, ds, h, hd => by
    simp [tsP] at hd; subst hd
    cases us with
    | nil => trivial
    | cons _ _ => exact h.elim
  | t :: ts, us, ds, h, hd => by
    simp only [tsP] at hd
    split at hd
    · rename_i x l hx hl
      injection hd with hd; subst hd
      cases us with
      | nil => exact h.elim
      | cons u us => exact ⟨tP_rep hok1 hok2 hS h.1 hx, tsP_rep hok1 hok2 hS h.2 hl⟩
    · cases hd
def xretR (P : Program) (fn : Func) (res : List D) (S : St) : Prop :=
  match resTs P S fn.results.toList with
  | some ts => match tsP S.mem ts with
    | some ds => ds = res
    | none => False
  | none => False
def xretRK (P : Program) (fn : Func) (res : List D) : Exit → St → Prop
  | .normal, S => xretR P fn res S
  | .ret, S => xretR P fn res S
  | _, _ => False
section
variable {P : Program}
theorem read_of (hm : P.follows .mixedOrders = true) {f : FuncId} {fn : Func} (hf : P.funcs[f]? = some fn) {c : Code} (hb : fn.body = some c) {args res : List D} {Lp : Nat → Option Ann} (hnt : Nat.ble (fn.params.size + fn.nfree) fn.ntmps = true) (ha : argFits (argShapes P fn) args)
    (h : xrun P fn.ntmps Lp c (startOf P fn args) (xretRK P fn res)) : ReadD P f args res := by
  intro ok w vs hok hargs
  have hlen : args.length = fn.params.size + fn.nfree := by
    have : ∀ {ks : List (Option Nat)} {ds : List D}, argFits ks ds → ds.length = ks.length := by
      intro ks
      induction ks with
      | nil => intro ds h; cases ds with | nil => rfl | cons _ _ => exact h.elim
      | cons k ks ih => intro ds h; cases ds with | nil => exact h.elim | cons d ds => simp [ih h.2]
    simpa [argShapes] using this ha
  have hvl := hargs.length
  have hnt := ble1 hnt
  have hstart : Stands ⟨w, fun _ => False, w, fun _ => undef, 0, ok⟩ fn.ntmps (startOf P fn args) { tmps := vs.toArray ++ Array.replicate (fn.ntmps - vs.toArray.size) undef, defers := [] } w := by
    refine ⟨⟨fun _ => undef, fun _ => False, ok, ok⟩, ⟨Below.refl _ _, fun b hb => ⟨hok b hb, .inl hb⟩, fun r o h => (by cases h), fun r o b h => (by cases h), fun r r' o o' b h => (by cases h)⟩, fun t => ?_, fun r h => h.elim, ?_, Marks.nil _ _ _, ⟨Nat.zero_le _, fun _ h => h.elim, fun _ h => h.elim, fun _ h => absurd h (Nat.not_lt_zero _), fun _ h => h⟩⟩
    · have := argSlots_rep (E := ⟨fun _ => undef, fun _ => False, ok, ok⟩) ha hargs t
      have e : (vs.toArray ++ Array.replicate (fn.ntmps - vs.toArray.size) undef).getD t undef = vs.getD t undef := by
        simp only [Array.getD_eq_getD_getElem?, Array.getElem?_append, List.size_toArray, List.getElem?_toArray, Array.getElem?_replicate, List.getD_eq_getElem?_getD]
        by_cases ht : t < vs.length
        · simp [ht]
        · rw [if_neg ht, List.getElem?_eq_none (Nat.le_of_not_lt ht)]
          split <;> rfl
      show AVRep _ w (argSlots _ _ t) ((vs.toArray ++ Array.replicate (fn.ntmps - vs.toArray.size) undef).getD t undef)
      rw [e]; exact this
    · simp; omega
  refine calls_of_wpR hf hb hstart (Post := xretR P fn res) (xrun_wp hm c _ _ _ _ _ h hstart fun e S' a' w' hk hst => ?_) (fun S' a' w' hx hst => ?_)
  · cases e with
    | normal => exact ⟨.inl rfl, S', hk, hst⟩
    | ret => exact ⟨.inr rfl, S', hk, hst⟩
    | exit i => exact hk.elim
    | goto i => exact hk.elim
    | panic i => exact hk.elim
    | outgrown => exact hk.elim
  · obtain ⟨E, h1, h2, h3, h4, h5⟩ := hst
    unfold xretR at hx
    split at hx
    · rename_i ts hts
      split at hx
      · rename_i ds hds
        subst hx
        obtain ⟨us, hus, hall⟩ := resTs_rep h1 h2 hts
        refine ⟨_, run_results' hus, us, rfl, h1.below, tsP_rep (fun b hb => ?_) (fun b k1 k2 => .inr ⟨k1, k2⟩) h1 hall hds⟩
        obtain ⟨k1, k2⟩ := h1.im b hb
        rcases k2 with k2 | k2
        · exact .inl (h5.2.od b k2)
        · exact .inr ⟨k2, k1⟩
      · exact hx.elim
    · exact hx.elim
def CondR (P : Program) (Lp : Nat → Option Ann) (fn : Func) (args res : List D) : Prop :=
  argFits (argShapes P fn) args ∧ xrun P fn.ntmps Lp (bodyOf fn) (startOf P fn args) (xretRK P fn res)
theorem read_cond (hm : P.follows .mixedOrders = true) {f : FuncId} {fn : Func} (hf : P.funcs[f]? = some fn) (hb : fn.body = some (bodyOf fn)) {args res : List D} {Lp : Nat → Option Ann} (hnt : Nat.ble (fn.params.size + fn.nfree) fn.ntmps = true) (h : CondR P Lp fn args res) : ReadD P f args res :=
  read_of hm hf hb hnt h.1 h.2
end
end Go.Proofs.Ytjdemohgegldaaa
