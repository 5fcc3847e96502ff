/-
  The small machine: states that stand for less; loops; code; functions.
-/
import Derived.Test.YtjdemohgegldaaaAm14
namespace Go.Proofs.Ytjdemohgegldaaa
set_option linter.unusedSimpArgs false
set_option linter.unusedVariables false
open Go.RowKit

-- a state that keeps less in mind, under other names
def cSub (f : Nat → Nat) : C → C → Prop
  | .bot, _ => True
  | .d x, .d y => x = y
  | .d x, .k u => x = .v u
  | .k u, .k v => u = v
  | .ptr r o, .ptr r' o' => Nat.beq (f r) r' = true ∧ Nat.beq o o' = true
  | .row r, .row r' => Nat.beq (f r) r' = true
  | .pd x j, .pd y k => x = y ∧ Nat.beq j k = true
  | .ep r i sz j, .ep r' i' sz' j' => Nat.beq (f r) r' = true ∧ i = i' ∧ Nat.beq sz sz' = true ∧ Nat.beq j j' = true
  | _, _ => False
def csSub (f : Nat → Nat) : List C → List C → Prop
  | [], [] => True
  | c :: cs, d :: ds => cSub f c d ∧ csSub f cs ds
  | _, _ => False
def tSub (f : Nat → Nat) : T → T → Prop
  | .one c, .one d => cSub f c d
  | .agg cs, .agg ds => csSub f cs ds
  | _, _ => False
def tsSub (f : Nat → Nat) : List T → List T → Prop
  | [], [] => True
  | c :: cs, d :: ds => tSub f c d ∧ tsSub f cs ds
  | _, _ => False
def avSub (f : Nat → Nat) : AV → AV → Prop
  | .t (.one .bot), _ => True
  | .t x, .t y => tSub f x y
  | .tup xs, .tup ys => tsSub f xs ys
  | _, _ => False
def obSub (f : Nat → Nat) : Ob → Ob → Prop
  | .box cs, .box ds => csSub f cs ds
  | .row sz x, .row sz' y => Nat.beq sz sz' = true ∧ x = y
  | .imm x, .imm y => x = y
  | _, _ => False
def C.names : C → List Nat
  | .ptr r _ => [r]
  | .row r => [r]
  | .ep r _ _ _ => [r]
  | .sub r _ _ _ => [r]
  | _ => []
def T.names : T → List Nat
  | .one c => c.names
  | .agg cs => cs.flatMap C.names
def AV.names : AV → List Nat
  | .t x => x.names
  | .tup xs => xs.flatMap T.names
def Ob.names : Ob → List Nat
  | .box cs => cs.flatMap C.names
  | _ => []
structure Sub (f : Nat → Nat) (H S : St) : Prop where
  slots : ∀ t, avSub f (H.s t) (S.s t)
  obs : ∀ r ob, H.mem r = some ob → ∃ ob', S.mem (f r) = some ob' ∧ obSub f ob ob'
  inj : ∀ r r' o o', H.mem r = some o → H.mem r' = some o' → f r = f r' → r = r'
  lt : ∀ r o, H.mem r = some o → r < H.n
  snames : ∀ t, ∀ r ∈ (H.s t).names, ∃ o, H.mem r = some o
  onames : ∀ q ob, H.mem q = some ob → ∀ r ∈ ob.names, ∃ o, H.mem r = some o
def envOf (f : Nat → Nat) (H : St) (E : Env) : Env := ⟨fun q => E.ι (f q), fun q => ∃ o, H.mem q = some o, E.im, E.od⟩
section
variable {f : Nat → Nat} {H : St} {E : Env} {w : World}
theorem cSub_rep {c d : C} {v : Value} (hn : ∀ r ∈ c.names, ∃ o, H.mem r = some o) (hs : cSub f c d) (h : CRep E w d v) : CRep (envOf f H E) w c v := by
  cases c with
  | bot => trivial
  | d x =>
    cases d with
    | d y => have hs : x = y := hs; subst hs; exact h
    | k u => have hs : x = .v u := hs; subst hs; obtain ⟨rfl, hsc⟩ := h; exact .v hsc
    | _ => exact hs.elim
  | k u =>
    cases d with
    | k u' => have hs : u = u' := hs; subst hs; exact h
    | _ => exact hs.elim
  | ptr r o =>
    cases d with
    | ptr r' o' =>
      obtain ⟨h1, h2⟩ := hs
      have e1 := Nat.eq_of_beq_eq_true h1
      have e2 := Nat.eq_of_beq_eq_true h2
      subst e1; subst e2
      exact ⟨hn r (by simp [C.names]), h.2⟩
    | _ => exact hs.elim
  | row r =>
    cases d with
    | row r' =>
      have e1 := Nat.eq_of_beq_eq_true hs
      subst e1
      exact ⟨hn r (by simp [C.names]), h.2⟩
    | _ => exact hs.elim
  | pd x j =>
    cases d with
    | pd y k =>
      obtain ⟨h1, h2⟩ := hs
      have e2 := Nat.eq_of_beq_eq_true h2
      subst h1; subst e2
      exact h
    | _ => exact hs.elim
  | ep r i sz j =>
    cases d with
    | ep r' i' sz' j' =>
      obtain ⟨h1, h2, h3, h4⟩ := hs
      have e1 := Nat.eq_of_beq_eq_true h1
      have e3 := Nat.eq_of_beq_eq_true h3
      have e4 := Nat.eq_of_beq_eq_true h4
      subst e1; subst h2; subst e3; subst e4
      exact ⟨hn r (by simp [C.names]), h.2⟩
    | _ => exact hs.elim
  | sub r sz lo hi => cases d <;> exact hs.elim
theorem csSub_rep : ∀ {cs ds : List C} {vs : List Value}, (∀ r ∈ cs.flatMap C.names, ∃ o, H.mem r = some o) → csSub f cs ds → All2 (CRep E w) ds vs → All2 (CRep (envOf f H E) w) cs vs
  | [], [], vs, _, _, h => by
    cases vs with
    | nil => trivial
    | cons _ _ => exact h.elim
  | c :: cs, d :: ds, vs, hn, hs, h => by
    cases vs with
    | nil => exact h.elim
    | cons v vs => exact ⟨cSub_rep (fun r hr => hn r (by simp [hr])) hs.1 h.1, csSub_rep (fun r hr => hn r (by rw [List.flatMap_cons]; exact List.mem_append_right _ hr)) hs.2 h.2⟩
  | [], _ :: _, _, _, hs, _ => hs.elim
  | _ :: _, [], _, _, hs, _ => hs.elim
theorem tSub_rep {x y : Go.Proofs.Ytjdemohgegldaaa.T} {v : Value} (hn : ∀ r ∈ x.names, ∃ o, H.mem r = some o) (hs : tSub f x y) (h : TRep E w y v) : TRep (envOf f H E) w x v := by
  cases x with
  | one c =>
    cases y with
    | one d => exact cSub_rep hn hs h
    | agg _ => exact hs.elim
  | agg cs =>
    cases y with
    | one d => exact hs.elim
    | agg ds => obtain ⟨vs, h1, h2, h3⟩ := h; exact ⟨vs, h1, csSub_rep hn hs h2, h3⟩
theorem tsSub_rep : ∀ {xs ys : List Go.Proofs.Ytjdemohgegldaaa.T} {vs : List Value}, (∀ r ∈ xs.flatMap T.names, ∃ o, H.mem r = some o) → tsSub f xs ys → All2 (TRep E w) ys vs → All2 (TRep (envOf f H E) w) xs vs
  | [], [], vs, _, _, h => by
    cases vs with
    | nil => trivial
    | cons _ _ => exact h.elim
  | c :: cs, d :: ds, vs, hn, hs, h => by
    cases vs with
    | nil => exact h.elim
    | cons v vs => exact ⟨tSub_rep (fun r hr => hn r (by simp [hr])) hs.1 h.1, tsSub_rep (fun r hr => hn r (by rw [List.flatMap_cons]; exact List.mem_append_right _ hr)) hs.2 h.2⟩
  | [], _ :: _, _, _, hs, _ => hs.elim
  | _ :: _, [], _, _, hs, _ => hs.elim
theorem avSub_rep {x y : AV} {v : Value} (hn : ∀ r ∈ x.names, ∃ o, H.mem r = some o) (hs : avSub f x y) (h : AVRep E w y v) : AVRep (envOf f H E) w x v := by
  unfold avSub at hs
  split at hs
  · trivial
  · exact tSub_rep hn hs h
  · obtain ⟨vs, h1, h2⟩ := h; exact ⟨vs, h1, tsSub_rep hn hs h2⟩
  · exact hs.elim
theorem Sub.standsE {S : St} (hS : Sub f H S) {w0 : Base} (hf : ∀ q, q < w0.nb → f q = q) (hn : w0.nb ≤ H.n) {nt : Nat} {a : Act} {w : World} {E : Env} (h : StandsE w0 nt S a w E) : StandsE w0 nt H a w (envOf f H E) := by
  obtain ⟨h1, h2, h3, h4, h5⟩ := h
  refine ⟨⟨h1.below, h1.im, fun r o hr => ⟨⟨o, hr⟩, ?_⟩, fun r o b hr hb => ?_, fun r r' o o' b hr hr' hb hb' => ?_⟩, fun t => avSub_rep (hS.snames t) (hS.slots t) (h2 t), fun r ⟨o, hr⟩ => hS.lt r o hr, h4, h5.1, ⟨hn, h5.2.im, h5.2.st, fun r hr ⟨o, ho⟩ => by
    obtain ⟨o', h6, _⟩ := hS.obs r o ho
    have h7 := (h1.ob _ _ h6).1
    rw [hf r hr] at h7
    show E.ι (f r) = _
    rw [hf r hr]
    exact h5.2.ι r hr h7, h5.2.od⟩⟩
  · obtain ⟨o', h6, h7⟩ := hS.obs r o hr
    obtain ⟨_, h8⟩ := h1.ob _ _ h6
    cases o with
    | box cs =>
      cases o' with
      | box ds => obtain ⟨b, T', cur, g1, g2, g3, g4⟩ := h8; exact ⟨b, T', cur, g1, g2, csSub_rep (hS.onames r _ hr) h7 g3, g4⟩
      | _ => exact h7.elim
    | row sz x =>
      cases o' with
      | row sz' y =>
        obtain ⟨g1, g2⟩ := h7
        have e1 := Nat.eq_of_beq_eq_true g1
        subst e1; subst g2
        exact h8
      | _ => exact h7.elim
    | imm x =>
      cases o' with
      | imm y => have h7 : x = y := h7; subst h7; exact h8
      | _ => exact h7.elim
  · obtain ⟨o', h6, h7⟩ := hS.obs r o hr
    refine h1.live (f r) o' b h6 ?_
    cases o <;> cases o' <;> first | exact h7.elim | exact hb
  · obtain ⟨q, h6, h7⟩ := hS.obs r o hr
    obtain ⟨q', h6', h7'⟩ := hS.obs r' o' hr'
    refine hS.inj r r' o o' hr hr' (h1.dist (f r) (f r') q q' b h6 h6' ?_ ?_)
    · cases o <;> cases q <;> first | exact h7.elim | exact hb
    · cases o' <;> cases q' <;> first | exact h7'.elim | exact hb'
theorem Sub.stands {S : St} (hS : Sub f H S) {w0 : Base} (hf : ∀ q, q < w0.nb → f q = q) (hn : w0.nb ≤ H.n) {nt : Nat} {a : Act} {w : World} (h : Stands w0 nt S a w) : Stands w0 nt H a w := by
  obtain ⟨E, h⟩ := h
  exact ⟨envOf f H E, hS.standsE hf hn h⟩
end

-- what a loop's head has
structure Ann where
  vs : List Nat
  rs : List Nat
  ks : List Nat
  bs : List (Nat × List Nat × List Nat)
def assoc {α : Type} : List (Nat × α) → Nat → Option α
  | [], _ => none
  | (i, x) :: l, j => bif Nat.beq i j then some x else assoc l j
theorem assoc_mem {α : Type} : ∀ {l : List (Nat × α)} {j : Nat} {x : α}, assoc l j = some x → (j, x) ∈ l
  | [], _, _, h => by cases h
  | (i, y) :: l, j, x, h => by
    simp only [assoc] at h
    cases hb : Nat.beq i j
    · rw [hb] at h; exact List.mem_cons_of_mem _ (assoc_mem h)
    · rw [hb] at h
      have := Nat.eq_of_beq_eq_true hb
      subst this
      injection h with h; subst h; simp
def boxOf (S : St) (t : Nat) : Option (Nat × List C) := match S.s t with
  | .t (.one (.ptr r _)) => match S.mem r with
    | some (.box cs) => some (r, cs)
    | _ => none
  | _ => none
def rowOf (S : St) (c : C) : Option (Nat × Nat × D) := match c with
  | .row r => match S.mem r with
    | some (.row sz x) => some (r, sz, x)
    | _ => none
  | .ep r _ _ _ => match S.mem r with
    | some (.row sz x) => some (r, sz, x)
    | _ => none
  | _ => none
/-- The head's way to a row that varies: the row, or a place in it. -/
def rowAV (c : C) (n : Nat) : C := match c with
  | .ep _ ix sz j => .ep n ix sz j
  | _ => .row n
def getAll {α β : Type} (g : α → Option β) : List α → Option (List β)
  | [] => some []
  | a :: l => match g a, getAll g l with
    | some b, some r => some (b :: r)
    | _, _ => none
def oneC : AV → C
  | .t (.one c) => c
  | _ => .bot
/-- The values that vary: plain ones, and rows with their names and widths. -/
def Ann.plain (an : Ann) (S : St) : Option (List D) :=
  match getAll (fun t => (S.s t).dat) an.vs, getAll (fun (b : Nat × List Nat × List Nat) => match boxOf S b.1 with | some (_, cs) => getAll (fun j => (cs.getD j .bot).dat) b.2.1 | none => none) an.bs with
  | some a, some b => some (a ++ b.flatten)
  | _, _ => none
def Ann.rows (an : Ann) (S : St) : Option (List (Nat × Nat × D)) :=
  match getAll (fun t => rowOf S (oneC (S.s t))) an.rs, getAll (fun (b : Nat × List Nat × List Nat) => match boxOf S b.1 with | some (_, cs) => getAll (fun j => rowOf S (cs.getD j .bot)) b.2.2 | none => none) an.bs with
  | some a, some b => some (a ++ b.flatten)
  | _, _ => none
def setL {α : Type} : List α → Nat → α → List α
  | [], _, _ => []
  | _ :: l, 0, x => x :: l
  | y :: l, n + 1, x => y :: setL l n x
def setCells (cs : List C) : List Nat → List C → List C
  | [], _ => cs
  | j :: js, x :: xs => setCells (setL cs j x) js xs
  | _, [] => cs
/-- The boxes at the head: 'xs' are the plain values that are left, 'n' the next row's name. -/
def boxesAt (S : St) : List (Nat × List Nat × List Nat) → List D → Nat → List (Nat × Ob)
  | [], _, _ => []
  | (t, pcs, rcs) :: bs, xs, n => match boxOf S t with
    | some (r, cs) => (r, .box (setCells (setCells cs pcs ((xs.take pcs.length).map C.d)) rcs ((List.range rcs.length).map fun k => .row (n + k)))) :: boxesAt S bs (xs.drop pcs.length) (n + rcs.length)
    | none => []
def keptObs (S : St) (skip : List Nat) (ks : List Nat) : List (Nat × Ob) :=
  (ks.flatMap fun t => (S.s t).names).filterMap fun r => bif skip.contains r then none else (S.mem r).map fun o => (r, o)
def Ann.slotMap (an : Ann) (S : St) (xs : List D) : List (Nat × AV) :=
  (an.vs.zip xs).map (fun p => (p.1, .t (.one (.d p.2)))) ++ (an.rs.zip (List.range an.rs.length)).map (fun p => (p.1, .t (.one (rowAV (oneC (S.s p.1)) (S.n + p.2))))) ++ an.ks.map fun t => (t, S.s t)
def Ann.memMap (an : Ann) (S : St) (xs : List D) (szs : List Nat) (ys : List D) : List (Nat × Ob) :=
  let bx := boxesAt S an.bs (xs.drop an.vs.length) (S.n + an.rs.length)
  let kept := keptObs S (bx.map (·.1)) an.ks
  ((List.range ys.length).zip (szs.zip ys)).map (fun p => (S.n + p.1, .row p.2.1 p.2.2)) ++ bx ++ kept ++ ((bx ++ kept).flatMap fun p => p.2.names).filterMap fun r => (bif Nat.ble S.n r then none else (S.mem r).map fun o => (r, o))
def Ann.head (an : Ann) (S : St) (xs : List D) (szs : List Nat) (ys : List D) : St :=
  ⟨fun t => (assoc (an.slotMap S xs) t).getD (.t (.one .bot)), assoc (an.memMap S xs szs ys), S.n + ys.length⟩
def allP {α : Type} (p : α → Prop) : List α → Prop
  | [] => True
  | a :: l => p a ∧ allP p l
theorem allP_mem {α : Type} {p : α → Prop} : ∀ {l : List α}, allP p l → ∀ a ∈ l, p a
  | b :: l, h, a, ha => by
    rcases List.mem_cons.1 ha with rfl | ha
    · exact h.1
    · exact allP_mem h.2 a ha
def nodupB : List Nat → Bool
  | [] => true
  | a :: l => !l.contains a && nodupB l
theorem nodupB_inj {f : Nat → Nat} : ∀ {l : List Nat}, nodupB (l.map f) = true → ∀ a ∈ l, ∀ b ∈ l, f a = f b → a = b
  | c :: l, h, a, ha, b, hb, e => by
    simp only [List.map_cons, nodupB, Bool.and_eq_true, Bool.not_eq_true', List.contains_eq_mem, decide_eq_false_iff_not] at h
    rcases List.mem_cons.1 ha with e1 | ha' <;> rcases List.mem_cons.1 hb with e2 | hb'
    · rw [e1, e2]
    · rw [e1] at e; exact absurd (List.mem_map.2 ⟨b, hb', e.symm⟩) h.1
    · rw [e2] at e; exact absurd (List.mem_map.2 ⟨a, ha', e⟩) h.1
    · exact nodupB_inj h.2 a ha' b hb' e
def dedup (l : List Nat) : List Nat := l.foldr (fun a acc => bif acc.contains a then acc else a :: acc) []
theorem dedup_mem {l : List Nat} {a : Nat} : a ∈ dedup l ↔ a ∈ l := by
  induction l with
  | nil => simp [dedup]
  | cons b l ih =>
    simp only [dedup, List.foldr_cons] at ih ⊢
    cases hc : (List.foldr (fun a acc => bif acc.contains a then acc else a :: acc) [] l).contains b
    · simp only [cond_false, ih, List.mem_cons]
    · simp only [cond_true, ih, List.mem_cons]
      refine ⟨Or.inr, fun h => ?_⟩
      rcases h with rfl | h
      · rw [← ih]; simpa using hc
      · exact h
def renOf (n : Nat) (names : List Nat) (q : Nat) : Nat := bif Nat.ble n q then names.getD (q - n) q else q
/-- A state fits a loop's head: the values that vary are such, and all else is as it was. -/
def Ann.fit (an : Ann) (S : St) (szs : List Nat) (S' : St) (K : List D → Prop) : Prop :=
  match an.plain S', an.rows S' with
  | some xs, some rw =>
    bif nodupB ((dedup ((an.memMap S xs szs (rw.map (·.2.2))).map (·.1))).map (renOf S.n (rw.map (·.1)))) &&
      (an.memMap S xs szs (rw.map (·.2.2))).all (fun p => Nat.ble (p.1 + 1) (S.n + rw.length) && p.2.names.all fun r => ((an.memMap S xs szs (rw.map (·.2.2))).map (·.1)).contains r) &&
      (an.slotMap S xs).all (fun p => p.2.names.all fun r => ((an.memMap S xs szs (rw.map (·.2.2))).map (·.1)).contains r) &&
      Nat.beq xs.length (an.vs.length + (an.bs.flatMap (·.2.1)).length) && Nat.beq rw.length (an.rs.length + (an.bs.flatMap (·.2.2)).length) then
      allP (fun p => avSub (renOf S.n (rw.map (·.1))) p.2 (S'.s p.1)) (an.slotMap S xs) ∧
      allP (fun p => match S'.mem (renOf S.n (rw.map (·.1)) p.1) with | some o => obSub (renOf S.n (rw.map (·.1))) p.2 o | none => False) (an.memMap S xs szs (rw.map (·.2.2))) ∧
      K (xs ++ rw.map (·.2.2))
    else False
  | _, _ => False
def Ann.headN (an : Ann) (S : St) (szs : List Nat) (zs : List D) : St := an.head S (zs.take (an.vs.length + (an.bs.flatMap (·.2.1)).length)) szs (zs.drop (an.vs.length + (an.bs.flatMap (·.2.1)).length))
def Ann.headF (an : Ann) (S : St) (szs : List Nat) (zs : List D) (K : St → Prop) : Prop :=
  forceSl (an.slotMap S (zs.take (an.vs.length + (an.bs.flatMap (·.2.1)).length))) fun sl =>
    forceMm (an.memMap S (zs.take (an.vs.length + (an.bs.flatMap (·.2.1)).length)) szs (zs.drop (an.vs.length + (an.bs.flatMap (·.2.1)).length))) fun mm =>
      forceM (S.n + (zs.drop (an.vs.length + (an.bs.flatMap (·.2.1)).length)).length) fun n => K ⟨fun t => (assoc sl t).getD (.t (.one .bot)), assoc mm, n⟩
theorem Ann.headF_eq (an : Ann) (S : St) (szs : List Nat) (zs : List D) (K : St → Prop) : an.headF S szs zs K = K (an.headN S szs zs) := by
  unfold Ann.headF
  rw [forceSl_eq, forceMm_eq, forceM_eq]; rfl
theorem contains_assoc {α : Type} : ∀ {l : List (Nat × α)} {r : Nat}, (l.map (·.1)).contains r = true → ∃ x, assoc l r = some x
  | [], r, h => by simp at h
  | (i, x) :: l, r, h => by
    simp only [assoc]
    cases hb : Nat.beq i r
    · have hne : i ≠ r := fun e => by subst e; simp at hb
      simp only [List.map_cons, List.contains_eq_mem, List.mem_cons, decide_eq_true_eq] at h
      rcases h with h | h
      · exact absurd h.symm hne
      · exact contains_assoc (l := l) (by simpa using h)
    · exact ⟨x, rfl⟩
def Ann.nv (an : Ann) : Nat := an.vs.length + (an.bs.flatMap (·.2.1)).length + (an.rs.length + (an.bs.flatMap (·.2.2)).length)
theorem Ann.fit_sub {an : Ann} {S S' : St} {szs : List Nat} {K : List D → Prop} (h : an.fit S szs S' K) : ∃ zs f, zs.length = an.nv ∧ K zs ∧ Sub f (an.headN S szs zs) S' ∧ (∀ q, q < S.n → f q = q) ∧ S.n ≤ (an.headN S szs zs).n := by
  unfold Ann.fit at h
  split at h
  · rename_i xs rw hxs hrw
    revert h
    generalize hM : an.memMap S xs szs (rw.map (·.2.2)) = M
    generalize hF : renOf S.n (rw.map (·.1)) = f
    intro h
    cases hc : (nodupB ((dedup (M.map (·.1))).map f) && M.all (fun p => Nat.ble (p.1 + 1) (S.n + rw.length) && p.2.names.all fun r => (M.map (·.1)).contains r) &&
      (an.slotMap S xs).all (fun p => p.2.names.all fun r => (M.map (·.1)).contains r) && Nat.beq xs.length (an.vs.length + (an.bs.flatMap (·.2.1)).length) && Nat.beq rw.length (an.rs.length + (an.bs.flatMap (·.2.2)).length))
    · rw [hc] at h; exact h.elim
    · rw [hc] at h
      simp only [cond_true] at h
      simp only [Bool.and_eq_true] at hc
      obtain ⟨⟨⟨⟨c1, c2⟩, c3⟩, c4⟩, c5⟩ := hc
      have c5 := Nat.eq_of_beq_eq_true c5
      have c4 := Nat.eq_of_beq_eq_true c4
      obtain ⟨h1, h2, h3⟩ := h
      have hd : an.headN S szs (xs ++ rw.map (·.2.2)) = an.head S xs szs (rw.map (·.2.2)) := by
        unfold Ann.headN
        rw [← c4, List.take_left, List.drop_left]
      refine ⟨_, f, by rw [List.length_append, List.length_map, c4, c5]; rfl, h3, ?_, fun q hq => by rw [← hF]; unfold renOf; rw [show Nat.ble S.n q = false by rw [Bool.eq_false_iff]; intro e; have := Nat.le_of_ble_eq_true e; omega]; rfl, Nat.le_add_right _ _⟩
      rw [hd]
      have hmem : ∀ r, (an.head S xs szs (rw.map (·.2.2))).mem r = assoc M r := fun r => by rw [← hM]; rfl
      have hslot : ∀ t, (an.head S xs szs (rw.map (·.2.2))).s t = (assoc (an.slotMap S xs) t).getD (.t (.one .bot)) := fun t => rfl
      refine ⟨fun t => ?_, fun r ob hr => ?_, fun r r' o o' hr hr' e => ?_, fun r o hr => ?_, fun t r hr => ?_, fun q ob hq r hr => ?_⟩
      · rw [hslot]
        cases ha : assoc (an.slotMap S xs) t with
        | none => trivial
        | some x => exact allP_mem h1 _ (assoc_mem ha)
      · rw [hmem] at hr
        have := allP_mem h2 _ (assoc_mem hr)
        simp only at this
        split at this
        · rename_i o ho; exact ⟨o, ho, this⟩
        · exact this.elim
      · rw [hmem] at hr hr'
        exact nodupB_inj c1 r (dedup_mem.2 (List.mem_map.2 ⟨_, assoc_mem hr, rfl⟩)) r' (dedup_mem.2 (List.mem_map.2 ⟨_, assoc_mem hr', rfl⟩)) e
      · rw [hmem] at hr
        have := (List.all_eq_true.1 c2) _ (assoc_mem hr)
        simp only [Bool.and_eq_true] at this
        have := ble1 this.1
        show r < S.n + (rw.map (·.2.2)).length
        rw [List.length_map]; omega
      · rw [hslot] at hr
        cases ha : assoc (an.slotMap S xs) t with
        | none => rw [ha] at hr; simp [AV.names, T.names, C.names] at hr
        | some x =>
          rw [ha] at hr
          have := (List.all_eq_true.1 c3) _ (assoc_mem ha)
          have := (List.all_eq_true.1 this) r hr
          rw [hmem]; exact contains_assoc this
      · rw [hmem] at hq
        have := (List.all_eq_true.1 c2) _ (assoc_mem hq)
        simp only [Bool.and_eq_true] at this
        have := (List.all_eq_true.1 this.2) r hr
        rw [hmem]; exact contains_assoc this
  · exact h.elim
end Go.Proofs.Ytjdemohgegldaaa
