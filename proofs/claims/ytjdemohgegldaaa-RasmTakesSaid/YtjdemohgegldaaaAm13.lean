/-
  The small machine: a region that draws its order.
-/
import Derived.Test.YtjdemohgegldaaaAm12
namespace Go.Proofs.Ytjdemohgegldaaa
set_option linter.unusedSimpArgs false
set_option linter.unusedVariables false
open Go.RowKit

/-- What goes ahead of an operation, in every order. -/
inductive Anc (ops : Array Oper) : Nat → Nat → Prop
  | one {j : Nat} {o : Oper} {e : Edge} (ho : ops[j]? = some o) (he : e ∈ o.after) (hb : Region.binds .any e = true) : Anc ops j e.on
  | far {j : Nat} {o : Oper} {e : Edge} {i : Nat} (ho : ops[j]? = some o) (he : e ∈ o.after) (hb : Region.binds .any e = true) (h : Anc ops e.on i) : Anc ops j i

def keys (r : Rec) : List Nat := r.wr.map (·.1)
structure Conf (ri rj : Rec) : Prop where
  or : (∃ t, ri.dst = some t ∧ (t ∈ rj.rd ∨ rj.dst = some t)) ∨ (∃ t, rj.dst = some t ∧ t ∈ ri.rd) ∨ (∃ q, q ∈ keys ri ∧ (q ∈ rj.acc ∨ q ∈ keys rj)) ∨ (∃ q, q ∈ keys rj ∧ q ∈ ri.acc)

def runD (D : Nat → Bool) (S : St) : Nat → List Rec → St
  | _, [] => S
  | i, r :: rs => runD D (if D i then r.app S else S) (i + 1) rs
theorem putO_congr {s s' : Nat → AV} {d : Option Nat} {x : AV} {t : Nat} (h : s t = s' t) : putO s d x t = putO s' d x t := by
  cases d with
  | none => exact h
  | some d =>
    by_cases e : t = d
    · subst e; simp [putO, upd_same]
    · simp only [putO, upd_ne _ _ e]; exact h
theorem putO_ne {s : Nat → AV} {d : Option Nat} {x : AV} {t : Nat} (h : d ≠ some t) : putO s d x t = s t := by
  cases d with
  | none => rfl
  | some d => exact upd_ne _ _ (fun e => h (by rw [e]))
theorem updL_congr {α : Type} : ∀ {l : List (Nat × Option α)} {f g : Nat → Option α} {q : Nat}, f q = g q → updL f l q = updL g l q
  | [], _, _, _, h => h
  | (i, x) :: l, f, g, q, h => updL_congr (l := l) (by
      by_cases e : q = i
      · subst e; rw [upd_same, upd_same]
      · rw [upd_ne _ _ e, upd_ne _ _ e]; exact h)
theorem updL_ne {α : Type} : ∀ {l : List (Nat × Option α)} {f : Nat → Option α} {q : Nat}, q ∉ l.map (·.1) → updL f l q = f q
  | [], _, _, _ => rfl
  | (i, x) :: l, f, q, h => by
    simp only [List.map_cons, List.mem_cons, not_or] at h
    exact (updL_ne (l := l) h.2).trans (upd_ne _ _ h.1)
theorem updL_mem {α : Type} : ∀ {l : List (Nat × Option α)} {f g : Nat → Option α} {q : Nat}, q ∈ l.map (·.1) → updL f l q = updL g l q
  | [], _, _, _, h => by simp at h
  | (i, x) :: l, f, g, q, h => by
    by_cases e : q ∈ l.map (·.1)
    · exact updL_mem (l := l) e
    · simp only [List.map_cons, List.mem_cons] at h
      rcases h with h | h
      · subst h
        show updL (upd f q x) l q = updL (upd g q x) l q
        rw [updL_ne e, updL_ne e, upd_same, upd_same]
      · exact absurd h e
theorem runD_slot {D D' : Nat → Bool} {t : Nat} : ∀ {rs : List Rec} {i : Nat} {S S' : St}, S.s t = S'.s t → (∀ k r, rs[k]? = some r → r.dst = some t → D (i + k) = D' (i + k)) → (runD D S i rs).s t = (runD D' S' i rs).s t
  | [], _, _, _, h, _ => h
  | r :: rs, i, S, S', h, hk => by
    refine runD_slot (rs := rs) ?_ (fun k r' hr hd => by have := hk (k + 1) r' (by simpa using hr) hd; rwa [show i + (k + 1) = i + 1 + k by omega] at this)
    by_cases e : r.dst = some t
    · have := hk 0 r rfl e
      rw [Nat.add_zero] at this
      rw [this]
      cases D' i
      · exact h
      · simp only [if_true]; exact putO_congr h
    · have h1 : ∀ (b : Bool) (S : St), (if b = true then r.app S else S).s t = S.s t := fun b S => by
        cases b
        · rfl
        · simp only [if_true]; exact putO_ne e
      rw [h1, h1]; exact h
theorem runD_mem {D D' : Nat → Bool} {q : Nat} : ∀ {rs : List Rec} {i : Nat} {S S' : St}, S.mem q = S'.mem q → (∀ k r, rs[k]? = some r → q ∈ keys r → D (i + k) = D' (i + k)) → (runD D S i rs).mem q = (runD D' S' i rs).mem q
  | [], _, _, _, h, _ => h
  | r :: rs, i, S, S', h, hk => by
    refine runD_mem (rs := rs) ?_ (fun k r' hr hd => by have := hk (k + 1) r' (by simpa using hr) hd; rwa [show i + (k + 1) = i + 1 + k by omega] at this)
    by_cases e : q ∈ keys r
    · have := hk 0 r rfl e
      rw [Nat.add_zero] at this
      rw [this]
      cases D' i
      · exact h
      · simp only [if_true]; exact updL_congr h
    · have h1 : ∀ (b : Bool) (S : St), (if b = true then r.app S else S).mem q = S.mem q := fun b S => by
        cases b
        · rfl
        · simp only [if_true]; exact updL_ne e
      rw [h1, h1]; exact h
theorem runD_lt : ∀ {rs : List Rec} {i j : Nat} {S : St}, runD (fun k => decide (k < i)) S j rs = run S (rs.take (i - j))
  | [], i, j, S => by simp [runD, run]
  | r :: rs, i, j, S => by
    by_cases h : j < i
    · have : i - j = (i - (j + 1)) + 1 := by omega
      rw [this, List.take_succ_cons]
      simp only [runD, h, decide_true, if_true]
      exact runD_lt
    · have : i - j = 0 := by omega
      rw [this, List.take_zero]
      simp only [runD, h, decide_false, Bool.false_eq_true, if_false]
      rw [runD_lt, show i - (j + 1) = 0 by omega, List.take_zero]
theorem runD_all {D : Nat → Bool} : ∀ {rs : List Rec} {j : Nat} {S : St}, (∀ k, j ≤ k → k < j + rs.length → D k = true) → runD D S j rs = run S rs
  | [], _, _, _ => rfl
  | r :: rs, j, S, h => by
    have := h j (Nat.le_refl _) (by simp)
    simp only [runD, this, if_true]
    exact runD_all fun k hk hl => h k (by omega) (by simp; omega)
theorem Tr.at {P : Program} {nt : Nat} {ops : Array Oper} : ∀ {i : Nat} {S : St} {rs : List Rec}, Tr P nt ops i S rs → ∀ {k : Nat} {r : Rec}, rs[k]? = some r → StepOk P nt ops (i + k) (run S (rs.take k)) r
  | _, _, _, .nil _ _, k, r, h => by simp at h
  | i, S, _, .cons h t, 0, r, hr => by simp at hr; subst hr; exact h
  | i, S, _, .cons (r := r0) h t, k + 1, r, hr => by
    have := t.at (k := k) (r := r) (by simpa using hr)
    rw [show i + (k + 1) = i + 1 + k by omega]
    exact this
theorem run_succ {S : St} {rs : List Rec} {k : Nat} {r : Rec} (h : rs[k]? = some r) : run S (rs.take (k + 1)) = r.app (run S (rs.take k)) := by
  rw [List.take_add_one, h]; simp [run, List.foldl_append]
theorem run_mono {P : Program} {nt : Nat} {ops : Array Oper} {S : St} {rs : List Rec} (ht : Tr P nt ops 0 S rs) : ∀ (d k : Nat), (run S (rs.take k)).n ≤ (run S (rs.take (k + d))).n
  | 0, k => Nat.le_refl _
  | d + 1, k => by
    refine Nat.le_trans (run_mono ht d k) ?_
    rw [← Nat.add_assoc]
    cases hr : rs[k + d]? with
    | none =>
      have hlen := List.getElem?_eq_none_iff.1 hr
      rw [List.take_of_length_le (i := k + d) hlen, List.take_of_length_le (i := k + d + 1) (by omega)]; exact Nat.le_refl _
    | some r =>
      rw [run_succ hr]
      obtain ⟨o, _, _, hn, _⟩ := (ht.at hr).ex
      exact hn
theorem countP_one {p q : Nat → Bool} {i : Nat} (hp : p i = true) (hq : q i = false) (he : ∀ k, k ≠ i → q k = p k) : ∀ {l : List Nat}, l.Nodup → i ∈ l → l.countP q + 1 = l.countP p
  | [], _, h => by simp at h
  | k :: l, hn, h => by
    simp only [List.nodup_cons] at hn
    by_cases e : k = i
    · subst e
      have : l.countP q = l.countP p := List.countP_congr fun x hx => by rw [he x (fun h => hn.1 (h ▸ hx))]
      simp [List.countP_cons, hp, hq, this]
    · have hm : i ∈ l := by simpa [Ne.symm e] using h
      have ih := countP_one hp hq he hn.2 hm
      simp only [List.countP_cons, he k e]
      omega

section
variable {ro : Option Nat} {P : Program} {nt : Nat} {ops : Array Oper} {w0 : Base} {Q : Exit → Act → World → Prop} {rs : List Rec} {S : St}
structure Drawn (P : Program) (nt : Nat) (ops : Array Oper) (S : St) (rs : List Rec) : Prop where
  tr : Tr P nt ops 0 S rs
  len : rs.length = ops.size
  conf : ∀ i j ri rj, i < j → rs[i]? = some ri → rs[j]? = some rj → Conf ri rj → Anc ops j i
  back : ∀ i o e, ops[i]? = some o → e ∈ o.after → Region.binds .any e = true → e.on < i
def lst (listed : Array Bool) (k : Nat) : Bool := listed.getD k false
theorem anc_listed {listed : Array Bool} (hc : ∀ j o e, lst listed j = true → ops[j]? = some o → e ∈ o.after → Region.binds .any e = true → lst listed e.on = true) {j i : Nat} (h : Anc ops j i) : (∀ o e, ops[j]? = some o → e ∈ o.after → Region.binds .any e = true → lst listed e.on = true) → lst listed i = true := by
  induction h with
  | one ho he hb => exact fun hj => hj _ _ ho he hb
  | far ho he hb _ ih => exact fun hj => ih fun o' e' ho' he' hb' => hc _ o' e' (hj _ _ ho he hb) ho' he' hb'
theorem wpAny_drawn (hD : Drawn P nt ops S rs) (hQ : ∀ a w, Stands w0 nt (run S rs) a w → Q .normal a w) : ∀ (fuel : Nat) (listed : Array Bool) (a : Act) (w : World), listed.size = ops.size → (List.range ops.size).countP (fun k => !listed.getD k true) = fuel →
    (∀ j o e, lst listed j = true → ops[j]? = some o → e ∈ o.after → Region.binds .any e = true → lst listed e.on = true) →
    (∃ E, Sim w0.w0 E (runD (lst listed) S 0 rs).mem w ∧ Slots E w (runD (lst listed) S 0 rs).s a ∧ (∀ q, E.bn q → q < S.n ∨ ∃ k r, lst listed k = true ∧ rs[k]? = some r ∧ q ∈ fresh (run S (rs.take k)).n r.m) ∧ a.tmps.size = nt ∧ Marks w0 E w a.defers ∧ Kept w0 S.n E w) →
    wpAnyIn (Fr ro) 0 P .any ops Q fuel listed a w := by
  have htl : ∀ {listed : Array Bool} {k : Nat}, listed.size = ops.size → k < ops.size → listed.getD k true = listed.getD k false := fun hs hk => by simp [hs, hk]
  -- all listed: the end
  have fin : ∀ (listed : Array Bool) (a : Act) (w : World), (∀ k, k < ops.size → lst listed k = true) →
      (∃ E, Sim w0.w0 E (runD (lst listed) S 0 rs).mem w ∧ Slots E w (runD (lst listed) S 0 rs).s a ∧ (∀ q, E.bn q → q < S.n ∨ ∃ k r, lst listed k = true ∧ rs[k]? = some r ∧ q ∈ fresh (run S (rs.take k)).n r.m) ∧ a.tmps.size = nt ∧ Marks w0 E w a.defers ∧ Kept w0 S.n E w) → Q .normal a w := by
    rintro listed a w hall ⟨E, h1, h2, h3, h4, h5⟩
    have e : runD (lst listed) S 0 rs = run S rs := runD_all fun k _ hk => hall k (by rw [← hD.len]; omega)
    rw [e] at h1 h2
    have hn0 : S.n ≤ (run S rs).n := by
      have := run_mono hD.tr rs.length 0
      simpa [run] using this
    refine hQ a w ⟨E, h1, h2, fun q hq => ?_, h4, h5.1, h5.2.more hn0⟩
    have hend : ∀ k, (run S (rs.take k)).n ≤ (run S rs).n := fun k => by
      have := run_mono hD.tr (rs.length - k) k
      by_cases hk : k ≤ rs.length
      · rw [show k + (rs.length - k) = rs.length by omega, List.take_length] at this; exact this
      · rw [List.take_of_length_le (by omega)]; exact Nat.le_refl _
    rcases h3 q hq with h | ⟨k, r, _, hr, hf⟩
    · have := hend 0; simp only [List.take_zero] at this; exact Nat.lt_of_lt_of_le h this
    · have := hend (k + 1)
      rw [run_succ hr] at this
      exact Nat.lt_of_lt_of_le (fresh_lt hf).2 this
  -- nothing ready: all listed
  have rdy : ∀ (listed : Array Bool), listed.size = ops.size → Region.ready .any ops listed = [] → ∀ k, k < ops.size → lst listed k = true := by
    intro listed hs hr k
    induction k using Nat.strongRecOn with
    | _ k ih =>
      intro hk
      cases hl : lst listed k with
      | true => rfl
      | false =>
        exfalso
        have : k ∈ Region.ready .any ops listed := by
          rw [mem_ready]
          refine ⟨by rw [htl hs hk]; exact hl, ops[k], by simp [hk], fun e he hb => ?_⟩
          have := hD.back k ops[k] e (by simp [hk]) he hb
          exact ih e.on this (by omega)
        rw [hr] at this; cases this
  intro fuel
  induction fuel with
  | zero =>
    intro listed a w hs hc hcl hinv
    have hall : ∀ k, k < ops.size → lst listed k = true := fun k hk => by
      have := List.countP_eq_zero.1 hc k (List.mem_range.2 hk)
      rw [htl hs hk] at this
      simpa [lst] using this
    refine ⟨?_, fin listed a w hall hinv⟩
    cases hr : Region.ready .any ops listed with
    | nil => rfl
    | cons i l =>
      exfalso
      have hi : i ∈ Region.ready .any ops listed := by rw [hr]; simp
      obtain ⟨h0, o, ho, _⟩ := mem_ready.1 hi
      have hlt := (Array.getElem?_eq_some_iff.1 ho).1
      rw [htl hs hlt] at h0
      have := hall i hlt
      simp only [lst] at this
      rw [h0] at this; cases this
  | succ fuel ih =>
    intro listed a w hs hc hcl hinv
    refine ⟨fun hr => fin listed a w (rdy listed hs hr) hinv, fun i hi => ?_⟩
    obtain ⟨h0, o, ho, hafter⟩ := mem_ready.1 hi
    have hlt := (Array.getElem?_eq_some_iff.1 ho).1
    have h0' : lst listed i = false := by rw [htl hs hlt] at h0; exact h0
    obtain ⟨r, hr⟩ : ∃ r, rs[i]? = some r := ⟨_, List.getElem?_eq_getElem (by rw [hD.len]; exact hlt)⟩
    have hstep := hD.tr.at hr
    rw [Nat.zero_add] at hstep
    obtain ⟨E, h1, h2, h3, h4, h5⟩ := hinv
    -- what conflicts: before it is listed, behind it is not
    have conf_lt : ∀ k rk, rs[k]? = some rk → k < i → Conf rk r → lst listed k = true := fun k rk hk hki hcf => 
      anc_listed hcl (hD.conf k i rk r hki hk hr hcf) (fun o' e' ho' he' hb' => by rw [ho] at ho'; injection ho' with ho'; subst ho'; exact hafter e' he' hb')
    have conf_gt : ∀ k rk, rs[k]? = some rk → i < k → Conf r rk → lst listed k = false := fun k rk hk hik hcf => by
      cases hl : lst listed k with
      | false => rfl
      | true =>
        have := anc_listed hcl (hD.conf i k r rk hik hr hk hcf) (fun o' e' ho' he' hb' => hcl k o' e' hl ho' he' hb')
        rw [h0'] at this; cases this
    have agreeS : ∀ t, (t ∈ r.rd ∨ r.dst = some t) → ∀ k rk, rs[k]? = some rk → rk.dst = some t → k ≠ i → lst listed k = decide (k < i) := fun t ht k rk hk hd hne => by
      by_cases hki : k < i
      · rw [conf_lt k rk hk hki ⟨.inl ⟨t, hd, ht⟩⟩]; simp [hki]
      · have hik : i < k := by omega
        rw [conf_gt k rk hk hik ⟨by
          rcases ht with ht | ht
          · exact .inr (.inl ⟨t, hd, ht⟩)
          · exact .inl ⟨t, ht, .inr hd⟩⟩]; simp [hki]
    have agreeM : ∀ q, (q ∈ r.acc ∨ q ∈ keys r) → ∀ k rk, rs[k]? = some rk → q ∈ keys rk → k ≠ i → lst listed k = decide (k < i) := fun q hq k rk hk hd hne => by
      by_cases hki : k < i
      · rw [conf_lt k rk hk hki ⟨.inr (.inr (.inl ⟨q, hd, hq⟩))⟩]; simp [hki]
      · have hik : i < k := by omega
        rw [conf_gt k rk hk hik ⟨by
          rcases hq with hq | hq
          · exact .inr (.inr (.inr ⟨q, hd, hq⟩))
          · exact .inr (.inr (.inl ⟨q, hq, .inr hd⟩))⟩]; simp [hki]
    have slotEq : ∀ t, t ∈ r.rd → (runD (lst listed) S 0 rs).s t = (run S (rs.take i)).s t := fun t ht => by
      have := runD_slot (D := lst listed) (D' := fun k => decide (k < i)) (t := t) (rs := rs) (i := 0) (S := S) (S' := S) rfl (fun k rk hk hd => by
        simp only [Nat.zero_add]
        by_cases e : k = i
        · subst e; simp [h0']
        · exact agreeS t (.inl ht) k rk hk hd e)
      rw [this, runD_lt, Nat.sub_zero]
    have memEq : ∀ q, q ∈ r.acc → (runD (lst listed) S 0 rs).mem q = (run S (rs.take i)).mem q := fun q hq => by
      have := runD_mem (D := lst listed) (D' := fun k => decide (k < i)) (q := q) (rs := rs) (i := 0) (S := S) (S' := S) rfl (fun k rk hk hd => by
        simp only [Nat.zero_add]
        by_cases e : k = i
        · subst e; simp [h0']
        · exact agreeM q (.inl hq) k rk hk hd e)
      rw [this, runD_lt, Nat.sub_zero]
    -- the state behind it
    have hl' : ∀ k, lst (listed.setIfInBounds i true) k = if k = i then true else lst listed k := fun k => by
      by_cases e : k = i
      · subst e; simp [lst, hs, hlt]
      · simp [lst, if_neg e, Array.getElem?_setIfInBounds_ne (Ne.symm e)]
    have slotNew : ∀ t, (runD (lst (listed.setIfInBounds i true)) S 0 rs).s t = putO (runD (lst listed) S 0 rs).s r.dst r.av t := fun t => by
      by_cases hd : r.dst = some t
      · have e1 := runD_slot (D := lst (listed.setIfInBounds i true)) (D' := fun k => decide (k < i + 1)) (t := t) (rs := rs) (i := 0) (S := S) (S' := S) rfl (fun k rk hk hdk => by
          simp only [Nat.zero_add]
          rw [hl']
          by_cases e : k = i
          · subst e; simp
          · rw [if_neg e, agreeS t (.inr hd) k rk hk hdk e]
            by_cases hki : k < i
            · simp [hki, show k < i + 1 by omega]
            · simp [hki, show ¬ k < i + 1 by omega])
        rw [e1, runD_lt, Nat.sub_zero, run_succ hr, hd]
        simp [Rec.app, putO, hd, upd_same]
      · rw [putO_ne hd]
        exact runD_slot rfl (fun k rk hk hdk => by
          simp only [Nat.zero_add]
          rw [hl']
          by_cases e : k = i
          · subst e; rw [hr] at hk; injection hk with hk; subst hk; exact absurd hdk hd
          · rw [if_neg e])
    have memNew : ∀ q, (runD (lst (listed.setIfInBounds i true)) S 0 rs).mem q = updL (runD (lst listed) S 0 rs).mem r.wr q := fun q => by
      by_cases hd : q ∈ keys r
      · have e1 := runD_mem (D := lst (listed.setIfInBounds i true)) (D' := fun k => decide (k < i + 1)) (q := q) (rs := rs) (i := 0) (S := S) (S' := S) rfl (fun k rk hk hdk => by
          simp only [Nat.zero_add]
          rw [hl']
          by_cases e : k = i
          · subst e; simp
          · rw [if_neg e, agreeM q (.inr hd) k rk hk hdk e]
            by_cases hki : k < i
            · simp [hki, show k < i + 1 by omega]
            · simp [hki, show ¬ k < i + 1 by omega])
        rw [e1, runD_lt, Nat.sub_zero, run_succ hr]
        exact updL_mem hd
      · rw [updL_ne hd]
        exact runD_mem rfl (fun k rk hk hdk => by
          simp only [Nat.zero_add]
          rw [hl']
          by_cases e : k = i
          · subst e; rw [hr] at hk; injection hk with hk; subst hk; exact absurd hdk hd
          · rw [if_neg e])
    refine step_wp hstep h1 h2 h4 memEq slotEq (fun q hq hb => ?_) (fun E' w' a' hE hbn hst hS' hsl hsz hdef => ?_)
    · have hq' := fresh_lt hq
      rcases h3 q hb with h | ⟨k, rk, hlk, hk, hf⟩
      · have := run_mono hD.tr i 0
        rw [Nat.zero_add] at this
        simp only [List.take_zero] at this
        have e : (run S []).n = S.n := rfl
        omega
      · have hf' := fresh_lt hf
        by_cases e : k = i
        · subst e; rw [h0'] at hlk; cases hlk
        · by_cases hki : k < i
          · have := run_mono hD.tr (i - (k + 1)) (k + 1)
            rw [show k + 1 + (i - (k + 1)) = i by omega, run_succ hk] at this
            have e : (rk.app (run S (rs.take k))).n = rk.m := rfl
            omega
          · have := run_mono hD.tr (k - (i + 1)) (i + 1)
            rw [show i + 1 + (k - (i + 1)) = k by omega, run_succ hr] at this
            have e : (r.app (run S (rs.take i))).n = r.m := rfl
            omega
    · refine ih (listed.setIfInBounds i true) a' w' (by simpa using hs) ?_ (fun j o' e' hj ho' he' hb' => ?_) ⟨E', ?_, ?_, fun q hq => ?_, hsz, hdef ▸ h5.1.step hE.im hst, h5.2.step hE (fun q hq => (hbn q hq).imp_right fun hb => by have h6 := (fresh_lt hb).1; have h7 := run_mono hD.tr i 0; rw [Nat.zero_add] at h7; have h8 : (run S (rs.take 0)).n = S.n := rfl; omega) hst⟩
      · have := countP_one (p := fun k => !listed.getD k true) (q := fun k => !(listed.setIfInBounds i true).getD k true) (i := i) (by simp only [h0]; rfl) (by simp [hs, hlt]) (fun k hk => by show (!(listed.setIfInBounds i true).getD k true) = _; rw [getD_set_ne true (Ne.symm hk)]) List.nodup_range (List.mem_range.2 hlt)
        omega
      · rw [hl'] at hj ⊢
        by_cases e : e'.on = i
        · rw [if_pos e]
        · rw [if_neg e]
          by_cases ej : j = i
          · subst ej
            rw [ho] at ho'; injection ho' with ho'; subst ho'
            exact hafter e' he' hb'
          · rw [if_neg ej] at hj
            exact hcl j o' e' hj ho' he' hb'
      · rw [show (runD (lst (listed.setIfInBounds i true)) S 0 rs).mem = updL (runD (lst listed) S 0 rs).mem r.wr from funext memNew]; exact hS'
      · rw [show (runD (lst (listed.setIfInBounds i true)) S 0 rs).s = putO (runD (lst listed) S 0 rs).s r.dst r.av from funext slotNew]; exact hsl
      · rcases hbn q hq with hb | hb
        · rcases h3 q hb with h | ⟨k, rk, hlk, hk, hf⟩
          · exact .inl h
          · refine .inr ⟨k, rk, ?_, hk, hf⟩
            rw [hl']; split <;> first | rfl | exact hlk
        · exact .inr ⟨i, r, by rw [hl', if_pos rfl], hr, hb⟩
theorem region_drawn {id : Nat} {a : Act} {w : World} (hm : P.follows .mixedOrders = true) (hD : Drawn P nt ops S rs) (hs : Stands w0 nt S a w) (hQ : ∀ a w, Stands w0 nt (run S rs) a w → Q .normal a w) : wpR ro P (.region id ops true) Q a w := by
  refine wpR_region_any hm ?_
  obtain ⟨E, h1, h2, h3, h4, h5⟩ := hs
  have hnone : ∀ k, lst (Array.replicate ops.size false) k = false := fun k => by
    simp only [lst]
    by_cases hk : k < ops.size <;> simp [hk]
  have e : runD (lst (Array.replicate ops.size false)) S 0 rs = S := by
    have : ∀ (rs : List Rec) (i : Nat), runD (lst (Array.replicate ops.size false)) S i rs = S := by
      intro rs
      induction rs with
      | nil => intro i; rfl
      | cons r rs ih => intro i; simp only [runD, hnone, Bool.false_eq_true, if_false]; exact ih (i + 1)
    exact this rs 0
  refine wpAny_drawn hD hQ ops.size _ a _ (by simp) ?_ (fun j o e hj => by rw [hnone] at hj; cases hj) ⟨E, ?_, ?_, fun q hq => .inl (h3 q hq), h4, h5.1, ⟨h5.2.nb, h5.2.im, h5.2.st, h5.2.ι, h5.2.od⟩⟩
  · rw [List.countP_eq_length.2 (fun k hk => by have := List.mem_range.1 hk; simp [this])]; simp
  · rw [e]; exact h1.step (Below.refl _ w).drew
  · rw [e]; exact h2.mono (Env.le.refl E) (fun _ _ => rfl)
end
end Go.Proofs.Ytjdemohgegldaaa
