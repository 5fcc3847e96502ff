/-
  The small machine: a function's contract out of its body.
-/
import Derived.Test.YtjdemohgegldaaaAm16
namespace Go.Proofs.Ytjdemohgegldaaa
set_option linter.unusedSimpArgs false
set_option linter.unusedVariables false
open Go.RowKit

def cellObl (mem : Nat → Option Ob) : C → Prop
  | .k _ => True
  | .d x => ∃ y, x = .v y
  | .row r => match mem r with | some (.row _ x) => PlainD x | _ => False
  | _ => False
def C.toR (mem : Nat → Option Ob) : C → Option D
  | .k v => some (.v v)
  | .d x => some x
  | .row r => match mem r with | some (.row _ x) => some x | _ => none
  | _ => none
def cellsR (mem : Nat → Option Ob) : List C → Option (List D)
  | [] => some []
  | c :: cs => match c.toR mem, cellsR mem cs with
    | some x, some l => some (x :: l)
    | _, _ => none
def tR (mem : Nat → Option Ob) : T → Option D
  | .one c => c.toR mem
  | .agg cs => (cellsR mem cs).map .agg
def tsR (mem : Nat → Option Ob) : List T → Option (List D)
  | [] => some []
  | t :: ts => match tR mem t, tsR mem ts with
    | some x, some l => some (x :: l)
    | _, _ => none
def resT (P : Program) (S : St) : ResultVar → Option T
  | .tmp t => match S.s t with | .t x => some x | _ => none
  | .cell a t => match P.info? t, P.underlying t, S.s a with
    | some i, some d, .t (.one (.ptr r off)) => match S.mem r with
      | some (.box cs) => bif Nat.ble 1 i.size && Nat.ble (off + i.size) cs.length then some (bif aggD d then .agg ((cs.drop off).take i.size) else .one (cs.getD off .bot)) else none
      | _ => none
    | _, _, _ => none
def resTs (P : Program) (S : St) : List ResultVar → Option (List T)
  | [] => some []
  | r :: rs => match resT P S r, resTs P S rs with
    | some t, some l => some (t :: l)
    | _, _ => none
def xret (P : Program) (fn : Func) (res : List D) (S : St) : Prop :=
  match resTs P S fn.results.toList with
  | some ts => match tsR S.mem ts with
    | some ds => bif nodupB (ts.flatMap T.names) then allP (cellObl S.mem) (ts.flatMap T.cells) ∧ ds = res else False
    | none => False
  | none => False
def xretK (P : Program) (fn : Func) (res : List D) : Exit → St → Prop
  | .normal, S => xret P fn res S
  | .ret, S => xret P fn res S
  | _, _ => False

/-- The shapes of what comes in: arguments, then what is captured. -/
def argShapes (P : Program) (fn : Func) : List (Option Nat) := fn.params.toList.map (shapeArg P) ++ List.replicate fn.nfree none
def startOf (P : Program) (fn : Func) (args : List D) : St := ⟨argSlots (argShapes P fn) args, fun _ => none, 0⟩

section
variable {P : Program}
def readRes (tmps : Array Value) : ResultVar → Sem Value
  | .tmp t => pure (tmps.getD t undef)
  | .cell x t => do loadVar t (← asAddr (tmps.getD x undef))
theorem resT_rep {S : St} {a : Act} {w0 w : World} {E : Env} (h1 : Sim w0 E S.mem w) (h2 : Slots E w S.s a) {r : ResultVar} {t : T} (h : resT P S r = some t) :
    ∃ u, (readRes a.tmps r).run P w = .ok u w ∧ TRep E w t u := by
  cases r with
  | tmp x =>
    simp only [resT] at h
    split at h
    · rename_i y hy
      injection h with h; subst h
      have := h2 x
      rw [hy] at this
      exact ⟨_, rfl, this⟩
    · cases h
  | cell x ty =>
    simp only [resT] at h
    split at h
    · rename_i i d r off hi hd hx
      split at h
      · rename_i cs hm
        cases hc : (Nat.ble 1 i.size && Nat.ble (off + i.size) cs.length)
        · rw [hc] at h; cases h
        · rw [hc] at h
          simp only [cond_true, Option.some.injEq] at h
          simp only [Bool.and_eq_true] at hc
          have c1 := ble1 hc.1
          have c2 := ble1 hc.2
          have h3 := h2 x
          rw [hx] at h3
          obtain ⟨hbn, b, hb, hv⟩ := h3
          obtain ⟨_, b', T', cur, hb', hheap, hall, hone⟩ := h1.ob r _ hm
          rw [hb] at hb'
          simp only [Value.pointer.injEq, Option.some.injEq, Addr.mk.injEq, and_true] at hb'
          subst hb'
          have hlen := hall.length
          let vs := (cur.toList.drop off).take i.size
          have hvl : vs.length = i.size := by simp only [vs, List.length_take, List.length_drop]; omega
          have hrun := run_loadVar' hi hd w b off vs hvl (fun j u hj => by
            rw [cell_row hheap]
            simp only [vs, List.getElem?_take] at hj
            split at hj
            · simpa using hj
            · cases hj) (fun _ => by omega)
          have hsub : All2 (CRep E w) ((cs.drop off).take i.size) vs := (hall.drop off).take _
          refine ⟨_, by simp only [readRes, hv, asAddr, Sem.run_bind, Sem.run_pure, Result.andThen_ok]; exact hrun, ?_⟩
          subst h
          cases aggD d
          · obtain ⟨c, hc⟩ : ∃ c, ((cs.drop off).take i.size)[0]? = some c := ⟨_, List.getElem?_eq_getElem (by rw [List.length_take, List.length_drop]; omega)⟩
            obtain ⟨u, hu, hr⟩ := hsub.get hc
            have e1 : vs.getD 0 undef = u := by simp [List.getD, hu]
            have e2 : cs.getD off .bot = c := by
              rw [List.getElem?_take, if_pos (by omega)] at hc
              have : cs[off]? = some c := by simpa using hc
              simp [List.getD, this]
            simp only [cond_false]
            rw [e1, e2]
            exact hr
          · exact ⟨vs, rfl, hsub, fun u hu => hone u (List.mem_of_mem_drop (List.mem_of_mem_take hu))⟩
      · cases h
    · cases h
theorem resTs_rep {S : St} {a : Act} {w0 w : World} {E : Env} (h1 : Sim w0 E S.mem w) (h2 : Slots E w S.s a) : ∀ {rs : List ResultVar} {ts : List T}, resTs P S rs = some ts →
    ∃ us, (rs.mapM (readRes a.tmps)).run P w = .ok us w ∧ All2 (TRep E w) ts us
  | [], ts, h => by simp [resTs] at h; subst h; exact ⟨[], rfl, trivial⟩
  | r :: rs, ts, h => by
    simp only [resTs] at h
    split at h
    · rename_i t l ht hl
      injection h with h; subst h
      obtain ⟨u, hu, hr⟩ := resT_rep h1 h2 ht
      obtain ⟨us, hus, hrs⟩ := resTs_rep h1 h2 hl
      refine ⟨u :: us, ?_, hr, hrs⟩
      rw [List.mapM_cons]
      simp only [Sem.run_bind]
      rw [hu]
      simp only [Result.andThen_ok, hus, Sem.run_pure]
    · cases h
theorem run_results' {fn : Func} {tmps : Array Value} {w : World} {us : List Value} (h : (fn.results.toList.mapM (readRes tmps)).run P w = .ok us w) : (results fn tmps).run P w = .ok (pack us) w := by
  have e0 : results fn tmps = (do let vs ← fn.results.mapM (readRes tmps); pure (if h : vs.size = 1 then vs[0] else .tuple vs)) := rfl
  rw [e0, Sem.run_bind]
  have e : fn.results.mapM (readRes tmps) = List.toArray <$> fn.results.toList.mapM (readRes tmps) := by
    conv => lhs; rw [← Array.toArray_toList (xs := fn.results)]
    rw [List.mapM_toArray]
  rw [e, Sem.run_map, h]
  simp only [Result.andThen_ok, Sem.run_pure]
  congr 1
  match us with
  | [] => rfl
  | [u] => rfl
  | u :: v :: us => simp [pack]

theorem cell_res {S : St} {w0 w : World} {E : Env} (h1 : Sim w0 E S.mem w) {c : C} {v : Value} {d : D} (hd : c.toR S.mem = some d) (ho : cellObl S.mem c) (h : CRep E w c v) :
    ResC w d v ∧ blk v = (match c.names with | [r] => blk (E.ι r) | _ => none) ∧ (c.names = [] ∨ ∃ r sz x, c.names = [r] ∧ S.mem r = some (.row sz x)) := by
  cases c with
  | k x =>
    simp only [C.toR, Option.some.injEq] at hd; subst hd
    obtain ⟨rfl, hs⟩ := h
    exact ⟨⟨rfl, hs⟩, scalar_blk hs, .inl rfl⟩
  | d x =>
    simp only [C.toR, Option.some.injEq] at hd; subst hd
    obtain ⟨y, rfl⟩ := ho
    have h : Reads E.im w v (.v y) := h
    cases h with
    | v hs => exact ⟨⟨rfl, hs⟩, scalar_blk hs, .inl rfl⟩
  | row r =>
    simp only [C.toR] at hd
    simp only [cellObl] at ho
    obtain ⟨_, rfl, _⟩ := h
    split at hd
    · rename_i sz x hm
      injection hd with hd; subst hd
      rw [hm] at ho
      have ho : Plain x := ho.out
      obtain ⟨_, hrow⟩ := h1.ob r _ hm
      have hrow : RowRep E w sz (E.ι r) x := hrow
      refine ⟨?_, rfl, .inr ⟨r, sz, x, rfl, hm⟩⟩
      rcases hrow with ⟨rfl, h⟩ | ⟨es, rfl, hw, hcase⟩
      · exact ⟨h, rfl⟩
      · refine .inr ⟨es, rfl, hw, hcase.imp_right ?_⟩
        rintro ⟨b, c, T, cur, k1, k2, k3, k4, k5, k6, k7⟩
        refine ⟨b, c, T, cur, k1, k2, k3, k4, k5, k6, All2.mk k7.length fun j u d hu hd => ?_⟩
        obtain ⟨u', hu', hr⟩ := k7.getR hd
        rw [hu] at hu'; injection hu' with hu'; subst hu'
        obtain ⟨y, rfl⟩ := ho d (List.mem_of_getElem? hd)
        cases hr with
        | v hs => exact .v hs
    · cases hd
  | _ => exact ho.elim
theorem cells_res {S : St} {w0 w : World} {E : Env} (h1 : Sim w0 E S.mem w) : ∀ {cs : List C} {vs : List Value} {ds : List D}, cellsR S.mem cs = some ds → (∀ c ∈ cs, cellObl S.mem c) → All2 (CRep E w) cs vs →
    All2 (ResC w) ds vs ∧ vs.filterMap blk = (cs.flatMap C.names).filterMap (fun r => blk (E.ι r)) ∧ ∀ r ∈ cs.flatMap C.names, ∃ sz x, S.mem r = some (.row sz x)
  | [], vs, ds, hd, _, h => by
    simp [cellsR] at hd; subst hd
    cases vs with
    | nil => exact ⟨trivial, rfl, by simp⟩
    | cons _ _ => exact h.elim
  | c :: cs, vs, ds, hd, ho, h => by
    simp only [cellsR] at hd
    split at hd
    · rename_i x l hx hl
      injection hd with hd; subst hd
      cases vs with
      | nil => exact h.elim
      | cons v vs =>
        obtain ⟨a1, a2, a3⟩ := cell_res h1 hx (ho c (by simp)) h.1
        obtain ⟨b1, b2, b3⟩ := cells_res h1 hl (fun c hc => ho c (by simp [hc])) h.2
        refine ⟨⟨a1, b1⟩, ?_, ?_⟩
        · rcases a3 with a3 | ⟨r, sz, y, a3, _⟩
          · rw [a3] at a2
            simp only at a2
            simp [List.filterMap_cons, a2, a3, b2]
          · rw [a3] at a2
            simp only at a2
            simp [List.filterMap_cons, a2, a3, b2]
        · intro r hr
          rw [List.flatMap_cons, List.mem_append] at hr
          rcases hr with hr | hr
          · rcases a3 with a3 | ⟨r', sz, y, a3, hm⟩
            · rw [a3] at hr; cases hr
            · rw [a3] at hr; simp at hr; subst hr; exact ⟨sz, y, hm⟩
          · exact b3 r hr
    · cases hd
theorem t_res {S : St} {w0 w : World} {E : Env} (h1 : Sim w0 E S.mem w) {t : T} {u : Value} {d : D} (hd : tR S.mem t = some d) (ho : ∀ c ∈ t.cells, cellObl S.mem c) (h : TRep E w t u) :
    ResV w d u ∧ blksV u = t.names.filterMap (fun r => blk (E.ι r)) ∧ ∀ r ∈ t.names, ∃ sz x, S.mem r = some (.row sz x) := by
  cases t with
  | one c =>
    obtain ⟨a1, a2, a3⟩ := cell_res h1 hd (ho c (by simp [T.cells])) h
    have hrv : ResV w d u := by cases d <;> first | exact a1 | exact a1.elim
    refine ⟨hrv, ?_, ?_⟩
    · rw [resC_notAgg a1]
      show [u].filterMap blk = c.names.filterMap _
      rcases a3 with a3 | ⟨r, sz, y, a3, _⟩
      · rw [a3] at a2 ⊢
        simp only at a2
        simp [List.filterMap_cons, a2]
      · rw [a3] at a2 ⊢
        simp only at a2
        simp [List.filterMap_cons, a2]
    · intro r hr
      have hr : r ∈ c.names := hr
      rcases a3 with a3 | ⟨r', sz, y, a3, hm⟩
      · rw [a3] at hr; cases hr
      · rw [a3] at hr; simp at hr; subst hr; exact ⟨sz, y, hm⟩
  | agg cs =>
    obtain ⟨l, hl, rfl⟩ := Option.map_eq_some_iff.1 hd
    obtain ⟨vs, rfl, h2, _⟩ := h
    obtain ⟨b1, b2, b3⟩ := cells_res h1 hl ho h2
    exact ⟨⟨vs, rfl, b1⟩, by simpa [blksV, T.names] using b2, b3⟩
theorem ts_res {S : St} {w0 w : World} {E : Env} (h1 : Sim w0 E S.mem w) : ∀ {ts : List T} {us : List Value} {ds : List D}, tsR S.mem ts = some ds → (∀ c ∈ ts.flatMap T.cells, cellObl S.mem c) → All2 (TRep E w) ts us →
    All2 (ResV w) ds us ∧ us.flatMap blksV = (ts.flatMap T.names).filterMap (fun r => blk (E.ι r)) ∧ ∀ r ∈ ts.flatMap T.names, ∃ sz x, S.mem r = some (.row sz x)
  | [], us, ds, hd, _, h => by
    simp [tsR] at hd; subst hd
    cases us with
    | nil => exact ⟨trivial, rfl, by simp⟩
    | cons _ _ => exact h.elim
  | t :: ts, us, ds, hd, ho, h => by
    simp only [tsR] at hd
    split at hd
    · rename_i x l hx hl
      injection hd with hd; subst hd
      cases us with
      | nil => exact h.elim
      | cons u us =>
        obtain ⟨a1, a2, a3⟩ := t_res h1 hx (fun c hc => ho c (by rw [List.flatMap_cons]; exact List.mem_append_left _ hc)) h.1
        obtain ⟨b1, b2, b3⟩ := ts_res h1 hl (fun c hc => ho c (by rw [List.flatMap_cons]; exact List.mem_append_right _ hc)) h.2
        refine ⟨⟨a1, b1⟩, ?_, ?_⟩
        · rw [List.flatMap_cons, List.flatMap_cons, a2, b2, List.filterMap_append]
        · intro r hr
          rw [List.flatMap_cons, List.mem_append] at hr
          exact hr.elim (a3 r) (b3 r)
    · cases hd
theorem nodup_filterMap {α β : Type} {g : α → Option β} : ∀ {l : List α}, l.Nodup → (∀ a ∈ l, ∀ b ∈ l, ∀ c, g a = some c → g b = some c → a = b) → (l.filterMap g).Nodup
  | [], _, _ => by simp
  | a :: l, hn, hi => by
    simp only [List.nodup_cons] at hn
    have ih := nodup_filterMap (l := l) hn.2 (fun a ha b hb => hi a (by simp [ha]) b (by simp [hb]))
    cases hg : g a with
    | none => simpa [List.filterMap_cons, hg] using ih
    | some c =>
      simp only [List.filterMap_cons, hg, List.nodup_cons]
      refine ⟨fun hm => ?_, ih⟩
      obtain ⟨b, hb, hgb⟩ := List.mem_filterMap.1 hm
      have := hi a (by simp) b (by simp [hb]) c hg hgb
      subst this
      exact hn.1 hb
theorem nodupB_nodup : ∀ {l : List Nat}, nodupB l = true → l.Nodup
  | [], _ => by simp
  | a :: l, h => by
    simp only [nodupB, Bool.and_eq_true, Bool.not_eq_true', List.contains_eq_mem, decide_eq_false_iff_not] at h
    simp only [List.nodup_cons]
    exact ⟨h.1, nodupB_nodup h.2⟩

theorem unmark {B : Base} {nt : Nat} {S : St} {tm : Array Value} {d : Deferred} {ds : List Deferred} {w : World} (h : Stands B nt S ⟨tm, d :: ds⟩ w) : ∃ D w', d.target = .collected D ∧ (Instr.takeDeferred D).run P w = .ok [] w' ∧ Stands B nt S ⟨tm, ds⟩ w' := by
  obtain ⟨E, h1, h2, h3, h4, h5, h6⟩ := h
  obtain ⟨hnd, hm⟩ := h5
  obtain ⟨D, rfl, k2, k3, k4, k5⟩ := hm d (by simp)
  have hn := noCell k5 rfl
  have hS := h1.but hn
  have him : ¬ (E.but D).im D := fun h => h.2 rfl
  have hst : Stable (E.but D).im w (w.putObj D (.deferred none)) := fun b hb => World.putObj_heap_other hb.2
  refine ⟨D, _, rfl, run_takeDeferred k5, E.but D, hS.turn k5 rfl k4 him _, fun t => ((h2 t).but hn).mono (Env.le.refl _) hst, h3, h4, ⟨(List.nodup_cons.1 hnd).2, fun d hd => ?_⟩, ⟨h6.nb, fun b hb => ⟨h6.im b hb, fun e => k3 (e ▸ hb)⟩, h6.st.trans (fun b hb => World.putObj_heap_other (fun e => k3 (e ▸ hb))), h6.ι, h6.od⟩⟩
  obtain ⟨D', g1, g2, g3, g4, g5⟩ := hm d (by simp [hd])
  have hne : D' ≠ D := by
    rintro rfl
    subst g1
    exact (List.nodup_cons.1 hnd).1 hd
  exact ⟨D', g1, ⟨g2, hne⟩, g3, g4, (World.putObj_heap_other hne).trans g5⟩
theorem leaves_of {B : Base} {nt : Nat} {S : St} {fn : Func} {R : Ending → World → Prop} {tm : Array Value} (hfin : ∀ w', Stands B nt S ⟨tm, []⟩ w' → ∃ v, (results fn tm).run P w' = .ok v w' ∧ R (.returned v) w') :
    ∀ (ds : List Deferred) (w : World), Stands B nt S ⟨tm, ds⟩ w → LeavesInM Fence.wide 0 P fn tm R ds .returning w
  | [], w, h => hfin w h
  | d :: ds, w, h => by
    obtain ⟨D, w', h1, h2, h3⟩ := unmark (P := P) h
    exact ⟨(by intro e; cases e), .inl ⟨D, w', h1, h2, leaves_of hfin ds w' h3⟩⟩
/-- A function's contract from its body. -/
theorem calls_of_wpR {f : FuncId} {fn : Func} {c : Code} {args : Array Value} {w : World} {R : Ending → World → Prop} {B : Base} {nt : Nat} {S0 : St} {Post : St → Prop} (hf : P.funcs[f]? = some fn) (hb : fn.body = some c) (_ : Stands B nt S0 { tmps := args ++ Array.replicate (fn.ntmps - args.size) undef, defers := [] } w)
    (h : wpR none P c (fun e a' w' => (e = .normal ∨ e = .ret) ∧ ∃ S', Post S' ∧ Stands B nt S' a' w') { tmps := args ++ Array.replicate (fn.ntmps - args.size) undef, defers := [] } w)
    (hfin : ∀ S' a' w', Post S' → Stands B nt S' a' w' → ∃ v, (results fn a'.tmps).run P w' = .ok v w' ∧ R (.returned v) w') : Calls P f args w R := by
  refine (callsIn_wide (n := 0)).1 (callsIn_of_wp_marks hf hb trivial (wpIn_mono h ?_))
  rintro e ⟨tm, ds⟩ w' ⟨he, S', hp, hst⟩
  have : LeavesInM Fence.wide 0 P fn tm R ds .returning w' := leaves_of (tm := tm) (fun w'' hs => hfin S' ⟨tm, []⟩ w'' hp hs) ds w' hst
  rcases he with rfl | rfl <;> exact this

/-- A contract out of the body. -/
theorem pure_of (hm : P.follows .mixedOrders = true) {f : FuncId} {fn : Func} (hf : P.funcs[f]? = some fn) {c : Code} (hb : fn.body = some c) {args res : List D} {Lp : Nat → Option Ann} (hnt : Nat.ble (fn.params.size + fn.nfree) fn.ntmps = true) (ha : argFits (argShapes P fn) args)
    (h : xrun P fn.ntmps Lp c (startOf P fn args) (xretK P fn res)) : PureD P f args res := by
  intro ok w vs hok hargs
  have hlen : args.length = fn.params.size + fn.nfree := by
    have : ∀ {ks : List (Option Nat)} {ds : List D}, argFits ks ds → ds.length = ks.length := by
      intro ks
      induction ks with
      | nil => intro ds h; cases ds with | nil => rfl | cons _ _ => exact h.elim
      | cons k ks ih => intro ds h; cases ds with | nil => exact h.elim | cons d ds => simp [ih h.2]
    simpa [argShapes] using this ha
  have hvl := hargs.length
  have hnt := ble1 hnt
  have hstart : Stands ⟨w, fun _ => False, w, fun _ => undef, 0, ok⟩ fn.ntmps (startOf P fn args) { tmps := vs.toArray ++ Array.replicate (fn.ntmps - vs.toArray.size) undef, defers := [] } w := by
    refine ⟨⟨fun _ => undef, fun _ => False, ok, ok⟩, ⟨Below.refl _ _, fun b hb => ⟨hok b hb, .inl hb⟩, fun r o h => (by cases h), fun r o b h => (by cases h), fun r r' o o' b h => (by cases h)⟩, fun t => ?_, fun r h => h.elim, ?_, Marks.nil _ _ _, ⟨Nat.zero_le _, fun _ h => h.elim, fun _ h => h.elim, fun _ h => absurd h (Nat.not_lt_zero _), fun _ h => h⟩⟩
    · have := argSlots_rep (E := ⟨fun _ => undef, fun _ => False, ok, ok⟩) ha hargs t
      have e : (vs.toArray ++ Array.replicate (fn.ntmps - vs.toArray.size) undef).getD t undef = vs.getD t undef := by
        simp only [Array.getD_eq_getD_getElem?, Array.getElem?_append, List.size_toArray, List.getElem?_toArray, Array.getElem?_replicate, List.getD_eq_getElem?_getD]
        by_cases ht : t < vs.length
        · simp [ht]
        · rw [if_neg ht, List.getElem?_eq_none (Nat.le_of_not_lt ht)]
          split <;> rfl
      show AVRep _ w (argSlots _ _ t) ((vs.toArray ++ Array.replicate (fn.ntmps - vs.toArray.size) undef).getD t undef)
      rw [e]; exact this
    · simp; omega
  refine calls_of_wpR hf hb hstart (Post := xret P fn res) (xrun_wp hm c _ _ _ _ _ h hstart fun e S' a' w' hk hst => ?_) (fun S' a' w' hx hst => ?_)
  · cases e with
    | normal => exact ⟨.inl rfl, S', hk, hst⟩
    | ret => exact ⟨.inr rfl, S', hk, hst⟩
    | exit i => exact hk.elim
    | goto i => exact hk.elim
    | panic i => exact hk.elim
    | outgrown => exact hk.elim
  · obtain ⟨E, h1, h2, h3, h4, h5⟩ := hst
    unfold xret at hx
    split at hx
    · rename_i ts hts
      split at hx
      · rename_i ds hds
        cases hn : nodupB (ts.flatMap T.names)
        · rw [hn] at hx; exact hx.elim
        · rw [hn] at hx
          obtain ⟨ho, rfl⟩ := hx
          obtain ⟨us, hus, hall⟩ := resTs_rep h1 h2 hts
          obtain ⟨r1, r2, r3⟩ := ts_res h1 hds (fun c hc => allP_mem ho c hc) hall
          refine ⟨_, run_results' hus, us, rfl, h1.below, r1, fun b hb => ?_, ?_⟩
          · rw [r2] at hb
            obtain ⟨r, hr, hbr⟩ := List.mem_filterMap.1 hb
            obtain ⟨sz, x, hmr⟩ := r3 r hr
            obtain ⟨p1, p2, _⟩ := h1.live r _ b hmr hbr
            exact ⟨p1, p2⟩
          · rw [r2]
            refine nodup_filterMap (nodupB_nodup hn) fun r hr r' hr' b hb hb' => ?_
            obtain ⟨sz, x, hmr⟩ := r3 r hr
            obtain ⟨sz', x', hmr'⟩ := r3 r' hr'
            exact h1.dist r r' _ _ b hmr hmr' hb hb'
      · exact hx.elim
    · exact hx.elim
def bodyOf (f : Func) : Code := f.body.getD .skip
def Cond (P : Program) (Lp : Nat → Option Ann) (fn : Func) (args res : List D) : Prop :=
  argFits (argShapes P fn) args ∧ xrun P fn.ntmps Lp (bodyOf fn) (startOf P fn args) (xretK P fn res)
theorem pure_cond (hm : P.follows .mixedOrders = true) {f : FuncId} {fn : Func} (hf : P.funcs[f]? = some fn) (hb : fn.body = some (bodyOf fn)) {args res : List D} {Lp : Nat → Option Ann} (hnt : Nat.ble (fn.params.size + fn.nfree) fn.ntmps = true) (h : Cond P Lp fn args res) : PureD P f args res :=
  pure_of hm hf hb hnt h.1 h.2
end
end Go.Proofs.Ytjdemohgegldaaa
