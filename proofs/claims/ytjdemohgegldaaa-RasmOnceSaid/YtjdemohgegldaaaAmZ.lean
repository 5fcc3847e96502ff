/-
  The small machine: a function's contract with memory, out of its body.
-/
import Derived.Test.YtjdemohgegldaaaAm17
namespace Go.Proofs.Ytjdemohgegldaaa
set_option linter.unusedSimpArgs false
set_option linter.unusedVariables false
open Go.RowKit

def slotsT : List T → Nat → AV
  | [], _ => undefAV
  | t :: _, 0 => .t t
  | _ :: l, n + 1 => slotsT l n
def startM (args : List T) (obs : List Ob) : St := ⟨slotsT args, nthO (obs.map some), obs.length⟩
def isBoxO : Option Ob → Bool
  | some (.box _) => true
  | _ => false
def boxI (obs : List Ob) (r : Nat) : Bool := isBoxO (nthO (obs.map some) r)
def newsM (obs : List Ob) (S : St) (ts : List T) (K : List Nat → Prop) : Prop :=
  forceL ((List.range obs.length).filter (boxI obs) ++ ts.flatMap T.nm) fun l0 => forceL (ddG (stepN S.mem l0) []) fun l1 => forceL (ddG (stepN S.mem l1) []) fun l2 => forceL (l2.filter fun r => !boxI obs r) K
theorem newsM_ex {obs : List Ob} {S : St} {ts : List T} {K : List Nat → Prop} (h : newsM obs S ts K) : ∃ nn, K nn := by
  unfold newsM at h
  rw [forceL_eq, forceL_eq, forceL_eq, forceL_eq] at h
  exact ⟨_, h⟩
def someB {α : Type} : Option α → Bool
  | some _ => true
  | none => false
def fcM (m : Nat) (nn : List Nat) (i : Nat) : Nat := bif Nat.ble (i + 1) m then i else nn.getD (i - m) 0
def onlyBoxes (obs : List Ob) : List (Option Ob) → Nat → Bool
  | [], _ => true
  | none :: l, i => onlyBoxes obs l (i + 1)
  | some _ :: l, i => (Nat.ble obs.length i || boxI obs i) && onlyBoxes obs l (i + 1)
def okM (obs : List Ob) (nn : List Nat) (obs' : List (Option Ob)) : Bool := nodupM nn && nn.all (fun r => !boxI obs r) && Nat.beq obs'.length (obs.length + nn.length) && onlyBoxes obs obs' 0
def obsSub (f : Nat → Nat) (mem : Nat → Option Ob) : List (Option Ob) → Nat → Prop
  | [], _ => True
  | none :: l, i => obsSub f mem l (i + 1)
  | some o :: l, i => (match mem (f i) with | some o' => obSub f o o' | none => False) ∧ obsSub f mem l (i + 1)
def cellOblM : C → Prop
  | .d x => ∃ y, x = .v y
  | .k _ => True
  | .ptr _ _ => True
  | .row _ => True
  | _ => False
def obOblM : Option Ob → Prop
  | some (.box cs) => allP cellOblM cs
  | some (.row _ x) => PlainD x
  | some (.imm _) => False
  | none => True
def obTrk (M : Nat → Option Ob) : Option Ob → Bool
  | some o => o.nm.all fun r => someB (M r)
  | none => true
def FineM (res : List T) (obs' : List (Option Ob)) : Prop :=
  bif (res.all fun t => t.nm.all fun r => someB (nthO obs' r)) && obs'.all (obTrk (nthO obs')) then allP cellOblM (res.flatMap T.cells) ∧ allP obOblM obs' else False
def xretM (P : Program) (fn : Func) (obs : List Ob) (res : List T) (obs' : List (Option Ob)) (S : St) : Prop :=
  match resTs P S fn.results.toList with
  | some ts => newsM obs S ts fun nn => bif okM obs nn obs' then tsSub (fcM obs.length nn) res ts ∧ obsSub (fcM obs.length nn) S.mem obs' 0 else False
  | none => False
def xretMK (P : Program) (fn : Func) (obs : List Ob) (res : List T) (obs' : List (Option Ob)) : Exit → St → Prop
  | .normal, S => xretM P fn obs res obs' S
  | .ret, S => xretM P fn obs res obs' S
  | _, _ => False

theorem someB_ex {α : Type} {x : Option α} (h : someB x = true) : ∃ y, x = some y := by cases x with | none => cases h | some y => exact ⟨y, rfl⟩
theorem fine_c {M : Nat → Option Ob} {c : C} (h : cellOblM c) (hn : ∀ r ∈ c.nm, someB (M r) = true) : c.fine M := by
  cases c with
  | d x => exact h
  | k x => trivial
  | ptr r o => exact someB_ex (hn r (by simp [C.nm]))
  | row r => exact someB_ex (hn r (by simp [C.nm]))
  | _ => exact h.elim
theorem FineM.out {res : List T} {obs' : List (Option Ob)} (h : FineM res obs') : (∀ t ∈ res, ∀ c ∈ t.cells, c.fine (nthO obs')) ∧ (∀ i o, nthO obs' i = some o → o.fine (nthO obs')) ∧ (∀ t ∈ res, ∀ r ∈ t.nm, ∃ o, nthO obs' r = some o) ∧ (∀ i o, nthO obs' i = some o → ∀ r ∈ o.nm, ∃ q, nthO obs' r = some q) := by
  unfold FineM at h
  cases hc : ((res.all fun t => t.nm.all fun r => someB (nthO obs' r)) && obs'.all (obTrk (nthO obs')))
  · rw [hc] at h; exact h.elim
  · rw [hc] at h
    obtain ⟨h1, h2⟩ := h
    simp only [Bool.and_eq_true, List.all_eq_true] at hc
    obtain ⟨c1, c2⟩ := hc
    refine ⟨fun t ht c hcm => ?_, fun i o ho => ?_, fun t ht r hr => someB_ex (c1 t ht r hr), fun i o ho r hr => ?_⟩
    · refine fine_c (allP_mem h1 c (List.mem_flatMap.2 ⟨t, ht, hcm⟩)) fun r hr => c1 t ht r ?_
      cases t with
      | one c' => simp [T.cells] at hcm; subst hcm; exact hr
      | agg cs => exact List.mem_flatMap.2 ⟨c, hcm, hr⟩
    · have hm : some o ∈ obs' := List.mem_of_getElem? (nthO_get.1 ho)
      have h3 := allP_mem h2 _ hm
      have h4 := c2 _ hm
      simp only [obTrk, List.all_eq_true] at h4
      cases o with
      | box cs => exact fun c hcm => fine_c (allP_mem h3 c hcm) fun r hr => h4 r (List.mem_flatMap.2 ⟨c, hcm, hr⟩)
      | row sz x => exact PlainD.out h3
      | imm x => exact h3.elim
    · have h4 := c2 _ (List.mem_of_getElem? (nthO_get.1 ho))
      simp only [obTrk, List.all_eq_true] at h4
      exact someB_ex (h4 r hr)
theorem nm_names (c : C) : c.nm = c.names := by cases c <;> rfl
theorem nmT_names (t : Go.Proofs.Ytjdemohgegldaaa.T) : t.nm = t.names := by
  cases t with
  | one c => exact nm_names c
  | agg cs => show cs.flatMap C.nm = cs.flatMap C.names; rw [show C.nm = C.names from funext nm_names]
theorem nmO_names (o : Ob) : o.nm = o.names := by
  cases o with
  | box cs => show cs.flatMap C.nm = cs.flatMap C.names; rw [show C.nm = C.names from funext nm_names]
  | _ => rfl
theorem onlyBoxes_at {obs : List Ob} : ∀ {l : List (Option Ob)} {k : Nat}, onlyBoxes obs l k = true → ∀ {i : Nat} {o : Ob}, nthO l i = some o → k + i < obs.length → boxI obs (k + i) = true
  | [], k, h, i, o, hi, _ => by simp [nthO] at hi
  | none :: l, k, h, 0, o, hi, _ => by simp [nthO] at hi
  | none :: l, k, h, i + 1, o, hi, hl => by
    have := onlyBoxes_at (l := l) (k := k + 1) h (i := i) (by simpa [nthO] using hi) (by omega)
    rwa [show k + 1 + i = k + (i + 1) by omega] at this
  | some x :: l, k, h, 0, o, hi, hl => by
    simp only [onlyBoxes, Bool.and_eq_true, Bool.or_eq_true] at h
    rcases h.1 with h | h
    · have := Nat.le_of_ble_eq_true h; omega
    · exact h
  | some x :: l, k, h, i + 1, o, hi, hl => by
    simp only [onlyBoxes, Bool.and_eq_true] at h
    have := onlyBoxes_at (l := l) (k := k + 1) h.2 (i := i) (by simpa [nthO] using hi) (by omega)
    rwa [show k + 1 + i = k + (i + 1) by omega] at this
theorem obsSub_at {f : Nat → Nat} {mem : Nat → Option Ob} : ∀ {l : List (Option Ob)} {k : Nat}, obsSub f mem l k → ∀ {i : Nat} {o : Ob}, nthO l i = some o → ∃ o', mem (f (k + i)) = some o' ∧ obSub f o o'
  | [], k, h, i, o, hi => by simp [nthO] at hi
  | none :: l, k, h, 0, o, hi => by simp [nthO] at hi
  | none :: l, k, h, i + 1, o, hi => by
    have := obsSub_at (l := l) (k := k + 1) h (i := i) (by simpa [nthO] using hi)
    rwa [show k + 1 + i = k + (i + 1) by omega] at this
  | some x :: l, k, h, 0, o, hi => by
    have hi : some x = some o := hi
    injection hi with hi; subst hi
    have h1 := h.1
    split at h1
    · rename_i o' ho; exact ⟨o', ho, h1⟩
    · exact h1.elim
  | some x :: l, k, h, i + 1, o, hi => by
    have := obsSub_at (l := l) (k := k + 1) h.2 (i := i) (by simpa [nthO] using hi)
    rwa [show k + 1 + i = k + (i + 1) by omega] at this

section
variable {P : Program}
theorem slotsT_rep {E : Env} {w : World} : ∀ {ts : List T} {vs : List Value}, All2 (TRep E w) ts vs → ∀ t, AVRep E w (slotsT ts t) (vs.getD t undef)
  | [], [], _, t => by simp [slotsT]; exact undef_rep E w
  | t :: ts, v :: vs, h, 0 => h.1
  | t :: ts, v :: vs, h, n + 1 => by simpa [slotsT] using slotsT_rep h.2 n
  | [], _ :: _, h, _ => h.elim
  | _ :: _, [], h, _ => h.elim
theorem fcM_lt {m : Nat} {nn : List Nat} {i : Nat} (h : i < m) : fcM m nn i = i := by unfold fcM; rw [Nat.ble_eq_true_of_le h]; rfl
theorem fcM_ge {m : Nat} {nn : List Nat} {i : Nat} (h : m ≤ i) : fcM m nn i = nn.getD (i - m) 0 := by
  unfold fcM
  have : Nat.ble (i + 1) m = false := by rw [Bool.eq_false_iff]; intro e; have := Nat.le_of_ble_eq_true e; omega
  rw [this]; rfl
theorem boxI_lt {obs : List Ob} {r : Nat} (h : boxI obs r = true) : r < obs.length := by
  unfold boxI isBoxO at h
  split at h
  · rename_i cs hcs
    have := nthO_lt hcs
    simpa using this
  · cases h
/-- A contract with memory out of the body. -/
theorem mem_of (hm : P.follows .mixedOrders = true) {f : FuncId} {fn : Func} (hf : P.funcs[f]? = some fn) {c : Code} (hb : fn.body = some c) {args : List T} {obs : List Ob} {res : List T} {obs' : List (Option Ob)} {Lp : Nat → Option Ann} (hnt : Nat.ble args.length fn.ntmps = true) (hfine : FineM res obs')
    (h : xrun P fn.ntmps Lp c (startM args obs) (xretMK P fn obs res obs')) : MemD P f args obs res obs' := by
  obtain ⟨hf1, hf2, hf3, hf4⟩ := hfine.out
  refine ⟨hf1, hf2, ?_⟩
  intro w0 E w vs hS hbn hargs
  have hvl := hargs.length
  have hnt := ble1 hnt
  have hstart : Stands ⟨w0, E.im, w, E.ι, obs.length, E.od⟩ fn.ntmps (startM args obs) { tmps := vs.toArray ++ Array.replicate (fn.ntmps - vs.toArray.size) undef, defers := [] } w := by
    refine ⟨E, hS, fun t => ?_, hbn, ?_, Marks.nil _ _ _, ⟨Nat.le_refl _, fun _ h => h, Stable.refl _ _, fun _ _ _ => rfl, fun _ h => h⟩⟩
    · have := slotsT_rep hargs t
      have e : (vs.toArray ++ Array.replicate (fn.ntmps - vs.toArray.size) undef).getD t undef = vs.getD t undef := by
        simp only [Array.getD_eq_getD_getElem?, Array.getElem?_append, List.size_toArray, List.getElem?_toArray, Array.getElem?_replicate, List.getD_eq_getElem?_getD]
        by_cases ht : t < vs.length
        · simp [ht]
        · rw [if_neg ht, List.getElem?_eq_none (Nat.le_of_not_lt ht)]
          split <;> rfl
      show AVRep _ w (slotsT args t) ((vs.toArray ++ Array.replicate (fn.ntmps - vs.toArray.size) undef).getD t undef)
      rw [e]; exact this
    · simp; omega
  refine calls_of_wpR hf hb hstart (Post := xretM P fn obs res obs') (xrun_wp hm c _ _ _ _ _ h hstart fun e S' a' w' hk hst => ?_) (fun S' a' w' hx hst => ?_)
  · cases e with
    | normal => exact ⟨.inl rfl, S', hk, hst⟩
    | ret => exact ⟨.inr rfl, S', hk, hst⟩
    | exit i => exact hk.elim
    | goto i => exact hk.elim
    | panic i => exact hk.elim
    | outgrown => exact hk.elim
  · obtain ⟨E1, h1, h2, h3, h4, h5, hkp⟩ := hst
    unfold xretM at hx
    split at hx
    · rename_i ts hts
      obtain ⟨nn, hx⟩ := newsM_ex hx
      cases hok : okM obs nn obs'
      · rw [hok] at hx; exact hx.elim
      · rw [hok] at hx
        simp only [cond_true] at hx
        obtain ⟨hx1, hx2⟩ := hx
        simp only [okM, Bool.and_eq_true, List.all_eq_true, Bool.not_eq_true'] at hok
        obtain ⟨⟨⟨c1, c2⟩, c3⟩, c4⟩ := hok
        have hnd := nodupM_nodup c1
        have hlen := Nat.eq_of_beq_eq_true c3
        obtain ⟨us, hus, hall⟩ := resTs_rep h1 h2 hts
        let f := fcM obs.length nn
        let H : St := ⟨fun _ => .t (.one .bot), nthO obs', obs'.length⟩
        have hgo : ∀ i o, nthO obs' i = some o → ∃ o', S'.mem (f i) = some o' ∧ obSub f o o' := fun i o hi => by
          have := obsSub_at hx2 hi
          rwa [Nat.zero_add] at this
        have hbx : ∀ i o, nthO obs' i = some o → i < obs.length → boxI obs i = true := fun i o hi hl => by
          have := onlyBoxes_at c4 hi (by omega)
          rwa [Nat.zero_add] at this
        have hinj : ∀ i j o p, nthO obs' i = some o → nthO obs' j = some p → f i = f j → i = j := fun i j o p hi hj e => by
          have li := nthO_lt hi
          have lj := nthO_lt hj
          by_cases a1 : i < obs.length <;> by_cases b1 : j < obs.length
          · rw [show f i = i from fcM_lt a1, show f j = j from fcM_lt b1] at e; exact e
          · have b2 : j - obs.length < nn.length := by omega
            rw [show f i = i from fcM_lt a1, show f j = _ from fcM_ge (by omega), List.getD_eq_getElem?_getD, List.getElem?_eq_getElem b2] at e
            simp only [Option.getD_some] at e
            have := c2 nn[j - obs.length] (List.getElem_mem _)
            rw [← e, hbx i o hi a1] at this; cases this
          · have a2 : i - obs.length < nn.length := by omega
            rw [show f j = j from fcM_lt b1, show f i = _ from fcM_ge (by omega), List.getD_eq_getElem?_getD, List.getElem?_eq_getElem a2] at e
            simp only [Option.getD_some] at e
            have := c2 nn[i - obs.length] (List.getElem_mem _)
            rw [e, hbx j p hj b1] at this; cases this
          · have a2 : i - obs.length < nn.length := by omega
            have b2 : j - obs.length < nn.length := by omega
            rw [show f i = _ from fcM_ge (by omega), show f j = _ from fcM_ge (by omega), List.getD_eq_getElem?_getD, List.getElem?_eq_getElem a2, List.getD_eq_getElem?_getD, List.getElem?_eq_getElem b2] at e
            simp only [Option.getD_some] at e
            have := (List.getElem_inj hnd).1 e
            omega
        refine ⟨_, run_results' hus, envOf f H E1, us, rfl, ⟨h1.below, h1.im, fun i o hi => ⟨⟨o, hi⟩, ?_⟩, fun i o b hi hb => ?_, fun i j o p b hi hj hb hb' => ?_⟩, ?_, hkp.st, hkp.im, fun r o hr hi => ?_⟩
        · obtain ⟨o', h6, h7⟩ := hgo i o hi
          obtain ⟨_, h8⟩ := h1.ob _ _ h6
          have hnm : ∀ r ∈ o.names, ∃ q, H.mem r = some q := fun r hr => hf4 i o hi r (by rw [nmO_names]; exact hr)
          cases o with
          | box cs =>
            cases o' with
            | box ds => obtain ⟨b, T', cur, g1, g2, g3, g4⟩ := h8; exact ⟨b, T', cur, g1, g2, csSub_rep hnm h7 g3, g4⟩
            | _ => exact h7.elim
          | row sz x =>
            cases o' with
            | row sz' y =>
              obtain ⟨g1, g2⟩ := h7
              have e1 := Nat.eq_of_beq_eq_true g1
              subst e1; subst g2
              exact h8
            | _ => exact h7.elim
          | imm x =>
            cases o' with
            | imm y => have h7 : x = y := h7; subst h7; exact h8
            | _ => exact h7.elim
        · obtain ⟨o', h6, h7⟩ := hgo i o hi
          refine h1.live (f i) o' b h6 ?_
          cases o <;> cases o' <;> first | exact h7.elim | exact hb
        · obtain ⟨q, h6, h7⟩ := hgo i o hi
          obtain ⟨q', h6', h7'⟩ := hgo j p hj
          refine hinj i j o p hi hj (h1.dist (f i) (f j) q q' b h6 h6' ?_ ?_)
          · cases o <;> cases q <;> first | exact h7.elim | exact hb
          · cases p <;> cases q' <;> first | exact h7'.elim | exact hb'
        · refine tsSub_rep (H := H) (fun r hr => ?_) hx1 hall
          obtain ⟨t, ht, hrt⟩ := List.mem_flatMap.1 hr
          exact hf3 t ht r (by rw [nmT_names]; exact hrt)
        · show E1.ι (f r) = E.ι r
          obtain ⟨o2, k1, _⟩ := hgo r o hi
          rw [show f r = r from fcM_lt hr] at k1 ⊢
          exact hkp.ι r hr (h1.ob _ _ k1).1
    · exact hx.elim
def CondM (P : Program) (Lp : Nat → Option Ann) (fn : Func) (args : List T) (obs : List Ob) (res : List T) (obs' : List (Option Ob)) : Prop :=
  FineM res obs' ∧ xrun P fn.ntmps Lp (bodyOf fn) (startM args obs) (xretMK P fn obs res obs')
theorem mem_cond (hm : P.follows .mixedOrders = true) {f : FuncId} {fn : Func} (hf : P.funcs[f]? = some fn) (hb : fn.body = some (bodyOf fn)) {args : List T} {obs : List Ob} {res : List T} {obs' : List (Option Ob)} {Lp : Nat → Option Ann} (hnt : Nat.ble args.length fn.ntmps = true) (h : CondM P Lp fn args obs res obs') : MemD P f args obs res obs' :=
  mem_of hm hf hb hnt h.1 h.2
end
end Go.Proofs.Ytjdemohgegldaaa
