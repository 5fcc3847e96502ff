/-
  Layer 12: what is put leaves, by places.
-/
import Derived.Test.YtjdemohgegldaaaT11
import Derived.Test.YtjdemohgegldaaaT10
namespace Go.Proofs.Ytjdemohgegldaaa
set_option linter.unusedSimpArgs false
set_option linter.unusedVariables false

def at1 (q : Pt) (p : Int) : Option Int := if q.1 ≤ p then q.2[(p - q.1).toNat]? else none
def atL (l : List Pt) (p : Int) : Option Int := l.findSome? (at1 · p)
theorem atL_nil (p : Int) : atL [] p = none := rfl
theorem atL_cons (q : Pt) (l : List Pt) (p : Int) : atL (q :: l) p = (at1 q p).or (atL l p) := by
  simp only [atL, List.findSome?_cons]; cases at1 q p <;> rfl
theorem atL_append (l m : List Pt) (p : Int) : atL (l ++ m) p = (atL l p).or (atL m p) := by
  induction l with
  | nil => simp [atL_nil]
  | cons q l ih => rw [List.cons_append, atL_cons, atL_cons, ih, Option.or_assoc]
theorem at1_none {q : Pt} {p : Int} (h : p < q.1 ∨ endP q ≤ p) : at1 q p = none := by
  unfold at1
  split
  · rename_i h1
    rw [List.getElem?_eq_none]
    simp only [endP] at h; omega
  · rfl
theorem at1_some {q : Pt} {p : Int} (h1 : q.1 ≤ p) (h2 : p < endP q) : ∃ c, at1 q p = some c := by
  unfold at1
  rw [if_pos h1]
  have : (p - q.1).toNat < q.2.length := by simp only [endP] at h2; omega
  exact ⟨_, List.getElem?_eq_getElem this⟩
theorem at1_or {q : Pt} {p : Int} : (q.1 ≤ p ∧ p < endP q) ∨ at1 q p = none := by
  rcases Int.lt_or_le p q.1 with h | h
  · exact .inr (at1_none (.inl h))
  · rcases Int.lt_or_le p (endP q) with h2 | h2
    · exact .inl ⟨h, h2⟩
    · exact .inr (at1_none (.inr h2))
/-- Two that touch, as one. -/
theorem at1_app (a : Int) (s t : List Int) (p : Int) : at1 (a, s ++ t) p = (at1 (a, s) p).or (at1 (a + s.length, t) p) := by
  unfold at1
  simp only
  by_cases h : a ≤ p
  · rw [if_pos h, if_pos h]
    by_cases h2 : (p - a).toNat < s.length
    · rw [List.getElem?_append_left h2, List.getElem?_eq_getElem h2]; rfl
    · rw [List.getElem?_append_right (by omega), List.getElem?_eq_none (by omega : s.length ≤ (p - a).toNat), if_pos (by omega)]
      rw [show (p - a).toNat - s.length = (p - (a + s.length)).toNat by omega]; rfl
  · rw [if_neg h, if_neg h, if_neg (by omega)]; rfl

def W (lim : Int) : Int → List Pt → Prop
  | _, [] => True
  | last, p :: l => p.2 ≠ [] ∧ last < p.1 ∧ endP p ≤ lim ∧ W lim (endP p) l
theorem ne_len {l : List Int} : l ≠ [] ↔ 0 < l.length := by cases l <;> simp
theorem walk_W {lim : Int} : ∀ {ps : List Pt} {last : Int}, walkF lim ps last = true ↔ W lim last ps
  | [], _ => by simp [walkF, W]
  | p :: l, last => by
    simp only [walkF, W]
    have ih := walk_W (lim := lim) (ps := l) (last := p.1 + p.2.length)
    have e : endP p = p.1 + p.2.length := rfl
    rw [e, ne_len]
    constructor
    · intro h
      split at h
      · rename_i hc; exact ⟨by omega, hc.2.1, hc.2.2.2, ih.1 h⟩
      · cases h
    · rintro ⟨h1, h2, h3, h4⟩
      rw [if_pos ⟨by omega, h2, by omega, h3⟩]; exact ih.2 h4
theorem W.mono {lim : Int} {a b : Int} {l : List Pt} (h : W lim b l) (hab : a ≤ b) : W lim a l := by
  cases l with
  | nil => trivial
  | cons p l => exact ⟨h.1, by have := h.2.1; omega, h.2.2⟩
theorem W.off {lim : Int} : ∀ {l : List Pt} {last p : Int}, W lim last l → p ≤ last → atL l p = none
  | [], _, _, _, _ => rfl
  | q :: l, last, p, h, hp => by
    obtain ⟨h1, h2, h3, h4⟩ := h
    have he : q.1 ≤ endP q := by simp only [endP]; omega
    rw [atL_cons, at1_none (.inl (by omega)), W.off h4 (by omega)]; rfl
theorem W.far {lim : Int} : ∀ {l : List Pt} {last p : Int}, W lim last l → lim ≤ p → atL l p = none
  | [], _, _, _, _ => rfl
  | q :: l, last, p, h, hp => by
    obtain ⟨h1, h2, h3, h4⟩ := h
    rw [atL_cons, at1_none (.inr (by omega)), W.far h4 hp]; rfl
theorem W_uniq {lim lim' : Int} : ∀ {a b : List Pt} {u v : Int}, W lim u a → W lim' v b → (∀ p, atL a p = atL b p) → a = b
  | [], [], _, _, _, _, _ => rfl
  | [], q :: t, u, v, _, hb, h => by
    obtain ⟨h1, h2, h3, h4⟩ := hb
    obtain ⟨c, hc⟩ := at1_some (q := q) (p := q.1) (Int.le_refl _) (by rw [ne_len] at h1; simp only [endP]; omega)
    have := h q.1
    rw [atL_cons, hc] at this; cases this
  | q :: t, [], u, v, ha, _, h => by
    obtain ⟨h1, h2, h3, h4⟩ := ha
    obtain ⟨c, hc⟩ := at1_some (q := q) (p := q.1) (Int.le_refl _) (by rw [ne_len] at h1; simp only [endP]; omega)
    have := h q.1
    rw [atL_cons, hc] at this; cases this
  | p :: l, q :: t, u, v, ha, hb, h => by
    obtain ⟨a1, a2, a3, a4⟩ := ha
    obtain ⟨b1, b2, b3, b4⟩ := hb
    rw [ne_len] at a1 b1
    have ep : endP p = p.1 + p.2.length := rfl
    have eq : endP q = q.1 + q.2.length := rfl
    have k1 : p.1 = q.1 := by
      rcases Int.lt_trichotomy p.1 q.1 with hl | hl | hl
      · obtain ⟨c, hc⟩ := at1_some (q := p) (p := p.1) (Int.le_refl _) (by omega)
        have := h p.1
        rw [atL_cons, hc, atL_cons, at1_none (.inl hl), W.off b4 (by omega)] at this; cases this
      · exact hl
      · obtain ⟨c, hc⟩ := at1_some (q := q) (p := q.1) (Int.le_refl _) (by omega)
        have := h q.1
        rw [atL_cons, atL_cons, hc, at1_none (.inl hl), W.off a4 (by omega)] at this; cases this
    have k2 : p.2.length = q.2.length := by
      rcases Nat.lt_trichotomy p.2.length q.2.length with hl | hl | hl
      · obtain ⟨c, hc⟩ := at1_some (q := q) (p := endP p) (by omega) (by omega)
        have := h (endP p)
        rw [atL_cons, atL_cons, hc, at1_none (.inr (Int.le_refl _)), W.off a4 (Int.le_refl _)] at this; cases this
      · exact hl
      · obtain ⟨c, hc⟩ := at1_some (q := p) (p := endP q) (by omega) (by omega)
        have := h (endP q)
        rw [atL_cons, hc, atL_cons, at1_none (.inr (Int.le_refl _)), W.off b4 (Int.le_refl _)] at this; cases this
    have k3 : p.2 = q.2 := by
      refine List.ext_getElem k2 fun i h1 h2 => ?_
      have := h (p.1 + i)
      rw [atL_cons, atL_cons] at this
      have e1 : at1 p (p.1 + i) = some p.2[i] := by unfold at1; rw [if_pos (by omega), show (p.1 + i - p.1).toNat = i by omega, List.getElem?_eq_getElem h1]
      have e2 : at1 q (p.1 + i) = some q.2[i] := by unfold at1; rw [if_pos (by omega), show (p.1 + i - q.1).toNat = i by omega, List.getElem?_eq_getElem h2]
      rw [e1, e2] at this
      simpa using this
    have k4 : p = q := Prod.ext k1 k3
    subst k4
    congr 1
    refine W_uniq a4 b4 fun x => ?_
    have := h x
    rw [atL_cons, atL_cons] at this
    rcases at1_or (q := p) (p := x) with hx | hx
    · rw [W.off a4 (by omega), W.off b4 (by omega)]
    · rw [hx] at this; simpa using this

/-- A state's bytes, by their places. -/
def mapS (b : Int) (r : List Int) (ps : List Pt) (p : Int) : Option Int := (at1 (b - r.length, r) p).or (atL ps p)
theorem S_uniq {lim lim' b b' : Int} {r r' : List Int} {ps ps' : List Pt} (h : W lim b ps) (h' : W lim' b' ps') (ho : b - r.length = b' - r'.length) (hm : ∀ p, mapS b r ps p = mapS b' r' ps' p) : b = b' ∧ r = r' ∧ ps = ps' := by
  have eo : endP (b - r.length, r) = b := by simp only [endP]; omega
  have eo' : endP (b' - r'.length, r') = b' := by simp only [endP]; omega
  have hb : b = b' := by
    rcases Int.lt_trichotomy b b' with hl | hl | hl
    · obtain ⟨c, hc⟩ := at1_some (q := (b' - r'.length, r')) (p := b) (by simp only; omega) (by omega)
      have := hm b
      simp only [mapS] at this
      rw [hc, at1_none (.inr (by omega)), W.off h (Int.le_refl _)] at this; cases this
    · exact hl
    · obtain ⟨c, hc⟩ := at1_some (q := (b - r.length, r)) (p := b') (by simp only; omega) (by omega)
      have := hm b'
      simp only [mapS] at this
      rw [hc, at1_none (q := (b' - r'.length, r')) (.inr (by omega)), W.off h' (Int.le_refl _)] at this; cases this
  subst hb
  have hl : r.length = r'.length := by omega
  have hr : r = r' := by
    refine List.ext_getElem hl fun i h1 h2 => ?_
    have := hm (b - r.length + i)
    simp only [mapS] at this
    have e1 : at1 (b - r.length, r) (b - r.length + i) = some r[i] := by unfold at1; simp only; rw [if_pos (by omega), show (b - r.length + i - (b - r.length)).toNat = i by omega, List.getElem?_eq_getElem h1]
    have e2 : at1 (b - r'.length, r') (b - r.length + i) = some r'[i] := by unfold at1; simp only; rw [if_pos (by omega), show (b - r.length + i - (b - r'.length)).toNat = i by omega, List.getElem?_eq_getElem h2]
    rw [e1, e2] at this
    simpa using this
  subst hr
  refine ⟨rfl, rfl, W_uniq h h' fun p => ?_⟩
  have := hm p
  simp only [mapS] at this
  rcases at1_or (q := (b - r.length, r)) (p := p) with hx | hx
  · rw [W.off h (by omega), W.off h' (by omega)]
  · rw [hx] at this; simpa using this

-- two parts as one
def touch (o f : Pt) : Prop := o.1 ≤ endP f ∧ f.1 ≤ endP o
theorem join_spec {o f : Pt} (h : touch o f) : (joinF o f).1 = min o.1 f.1 ∧ endP (joinF o f) = max (endP o) (endP f) ∧ ∀ p, at1 (joinF o f) p = (at1 o p).or (at1 f p) := by
  obtain ⟨a, s⟩ := o
  obtain ⟨c, t⟩ := f
  obtain ⟨h1, h2⟩ := h
  have e1 : endP (a, s) = a + s.length := rfl
  have e2 : endP (c, t) = c + t.length := rfl
  simp only at h1 h2
  -- the lower end
  have lo : (lowJ (a, s) (c, t)).1 = min a c ∧ endP (lowJ (a, s) (c, t)) = endP (a, s) ∧ ∀ p, p < endP (a, s) → at1 (lowJ (a, s) (c, t)) p = (at1 (a, s) p).or (at1 (c, t) p) := by
    unfold lowJ
    simp only
    split
    · rename_i hc
      have hlt : (t.take (a - c).toNat).length = (a - c).toNat := by rw [List.length_take]; omega
      refine ⟨by simp only; omega, by simp only [endP, List.length_append, hlt]; omega, fun p hp => ?_⟩
      rw [at1_app, hlt, show c + ((a - c).toNat : Int) = a by omega]
      have et : at1 (c, t) p = (at1 (c, t.take (a - c).toNat) p).or (at1 (a, t.drop (a - c).toNat) p) := by
        conv => lhs; rw [← List.take_append_drop (a - c).toNat t]
        rw [at1_app, hlt, show c + ((a - c).toNat : Int) = a by omega]
      rw [et]
      rcases Int.lt_or_le p a with hpa | hpa
      · rw [at1_none (q := (a, s)) (.inl hpa), at1_none (q := (a, t.drop (a - c).toNat)) (.inl hpa)]; simp
      · have e3 : at1 (c, t.take (a - c).toNat) p = none := at1_none (.inr (by simp only [endP, hlt]; omega))
        obtain ⟨x, hx⟩ := at1_some (q := (a, s)) (p := p) hpa hp
        rw [e3, hx]; rfl
    · rename_i hc
      refine ⟨by simp only; omega, rfl, fun p hp => ?_⟩
      rcases Int.lt_or_le p a with hpa | hpa
      · rw [at1_none (q := (a, s)) (.inl hpa), at1_none (q := (c, t)) (.inl (by simp only; omega))]; rfl
      · obtain ⟨x, hx⟩ := at1_some (q := (a, s)) (p := p) hpa hp
        rw [hx]; rfl
  obtain ⟨l1, l2, l3⟩ := lo
  have ep : endP (lowJ (a, s) (c, t)) = (lowJ (a, s) (c, t)).1 + (lowJ (a, s) (c, t)).2.length := rfl
  unfold joinF
  split
  · rename_i hc
    have hle : (t.drop (endP (a, s) - c).toNat).length = t.length - (endP (a, s) - c).toNat := List.length_drop
    refine ⟨l1, ?_, fun p => ?_⟩
    · show (lowJ (a, s) (c, t)).1 + ((((lowJ (a, s) (c, t)).2 ++ t.drop (endP (a, s) - c).toNat).length : Nat) : Int) = _
      rw [List.length_append, hle]
      omega
    · show at1 ((lowJ (a, s) (c, t)).1, (lowJ (a, s) (c, t)).2 ++ t.drop (endP (a, s) - c).toNat) p = _
      rw [at1_app, ← ep, l2]
      have et : at1 (c, t) p = (at1 (c, t.take (endP (a, s) - c).toNat) p).or (at1 (endP (a, s), t.drop (endP (a, s) - c).toNat) p) := by
        conv => lhs; rw [← List.take_append_drop (endP (a, s) - c).toNat t]
        rw [at1_app, List.length_take, show c + ((min (endP (a, s) - c).toNat t.length : Nat) : Int) = endP (a, s) by omega]
      rcases Int.lt_or_le p (endP (a, s)) with hpa | hpa
      · have e4 := l3 p hpa
        rw [at1_none (q := (endP (a, s), t.drop (endP (a, s) - c).toNat)) (.inl hpa), Option.or_none]; exact e4
      · have e4 : at1 (lowJ (a, s) (c, t)) p = none := at1_none (.inr (by omega))
        have e5 : at1 (a, s) p = none := at1_none (.inr hpa)
        have e6 : at1 (c, t.take (endP (a, s) - c).toNat) p = none := at1_none (.inr (by simp only [endP, List.length_take] at *; omega))
        have e4' : at1 ((lowJ (a, s) (c, t)).1, (lowJ (a, s) (c, t)).2) p = none := e4
        rw [e4', e5, et, e6]; rfl
  · rename_i hc
    refine ⟨l1, by rw [l2]; omega, fun p => ?_⟩
    rcases Int.lt_or_le p (endP (a, s)) with hpa | hpa
    · exact l3 p hpa
    · rw [at1_none (q := lowJ (a, s) (c, t)) (.inr (by omega)), at1_none (q := (a, s)) (.inr hpa), at1_none (q := (c, t)) (.inr (by omega))]; rfl
theorem join_ne {o f : Pt} (h : touch o f) (ho : o.2 ≠ []) : (joinF o f).2 ≠ [] := by
  obtain ⟨h1, h2, _⟩ := join_spec h
  rw [ne_len] at ho ⊢
  simp only [endP] at h1 h2
  omega

/-- A part among others: what it meets or touches becomes one with it. -/
def putL : List Pt → Pt → List Pt
  | [], f => [f]
  | p :: l, f => if endP p < f.1 then p :: putL l f else if endP f < p.1 then f :: p :: l else putL l (joinF p f)
theorem putL_spec {lim : Int} : ∀ {l : List Pt} {f : Pt} {last last' : Int}, W lim last l → last' ≤ last → last' < f.1 → f.2 ≠ [] → endP f ≤ lim → W lim last' (putL l f) ∧ ∀ p, atL (putL l f) p = (atL l p).or (at1 f p)
  | [], f, last, last', _, _, h2, h3, h4 => ⟨⟨h3, h2, h4, trivial⟩, fun p => by simp [putL, atL_cons, atL_nil]⟩
  | q :: l, f, last, last', h, h1, h2, h3, h4 => by
    obtain ⟨a1, a2, a3, a4⟩ := h
    unfold putL
    have hq1 : endP q = q.1 + q.2.length := rfl
    have hf1 : endP f = f.1 + f.2.length := rfl
    have hq2 := ne_len.1 a1
    have hf2 := ne_len.1 h3
    split
    · rename_i hc
      obtain ⟨i1, i2⟩ := putL_spec a4 (Int.le_refl _) hc h3 h4
      refine ⟨⟨a1, by omega, a3, i1⟩, fun p => ?_⟩
      rw [atL_cons, atL_cons, i2, Option.or_assoc]
    · split
      · rename_i hc hd
        refine ⟨⟨h3, h2, h4, a1, hd, a3, a4⟩, fun p => ?_⟩
        rw [atL_cons]
        rcases at1_or (q := f) (p := p) with hp | hp
        · have : atL (q :: l) p = none := W.off (lim := lim) (last := endP f) ⟨a1, hd, a3, a4⟩ (by omega)
          rw [this]; simp
        · rw [hp]; simp
      · rename_i hc hd
        have ht : touch q f := ⟨by omega, by omega⟩
        obtain ⟨j1, j2, j3⟩ := join_spec ht
        obtain ⟨i1, i2⟩ := putL_spec (f := joinF q f) (last' := last') a4 (by omega) (by omega) (join_ne ht a1) (by omega)
        refine ⟨i1, fun p => ?_⟩
        rw [i2, j3, atL_cons]
        rcases at1_or (q := q) (p := p) with hp | hp
        · rw [W.off a4 (by omega : p ≤ endP q)]; simp
        · rw [hp]; simp
end Go.Proofs.Ytjdemohgegldaaa

namespace Go.Proofs.Ytjdemohgegldaaa
set_option linter.unusedSimpArgs false
set_option linter.unusedVariables false

def totL (l : List Pt) : Nat := (l.map lenP).sum
theorem totL_nil : totL [] = 0 := rfl
theorem totL_cons (p : Pt) (l : List Pt) : totL (p :: l) = p.2.length + totL l := by simp [totL, lenP]
theorem totL_append (a b : List Pt) : totL (a ++ b) = totL a + totL b := by simp [totL]
theorem held_tot (r : List Int) (ps : List Pt) : heldF r ps = r.length + totL ps := by simp [heldF, sumL, totL]

structure SS where
  b : Int
  r : List Int
  ps : List Pt
def SS.lim (S : SS) : Int := limF S.b S.r.length
def SS.map (S : SS) (p : Int) : Option Int := mapS S.b S.r S.ps p
def SS.o (S : SS) : Int := S.b - S.r.length
def SS.tot (S : SS) : Nat := heldF S.r S.ps
structure SS.Ok (S : SS) : Prop where
  b0 : 0 ≤ S.o
  b1 : S.b ≤ 1099511627776
  r : (S.r.length : Int) ≤ 4096
  w : W S.lim S.b S.ps
theorem SS.lim_o (S : SS) : S.lim = min (S.o + 4096) 1099511627776 := by simp only [SS.lim, SS.o, limF]; omega
theorem SS.Ok.b {S : SS} (h : SS.Ok S) : 0 ≤ S.b ∧ S.b ≤ S.lim := by
  have := h.b0; have := h.r; have := h.b1
  rw [SS.lim_o]; simp only [SS.o] at *; omega
theorem chk_ok {S : SS} : chkF S.b S.r.length S.ps = 0 ↔ S.Ok := by
  cases hb : okS S.b S.r.length
  · rw [chk_no hb]
    simp only [okS, decide_eq_false_iff_not] at hb
    constructor
    · intro h; cases h
    · intro h
      have h1 := h.b; have := h.b0; have := h.r; have := h.b1
      simp only [SS.o] at *
      exact absurd ⟨h1.1, by omega, by omega, by omega⟩ hb
  · rw [chk_yes hb]
    simp only [okS, decide_eq_true_eq] at hb
    constructor
    · intro h
      split at h
      · rename_i hw; exact ⟨by simp only [SS.o]; omega, by omega, by omega, walk_W.1 hw⟩
      · cases h
    · intro h; exact if_pos (walk_W.2 h.w)
theorem SS.uniq {S T : SS} (h : S.Ok) (k : T.Ok) (ho : S.o = T.o) (hm : ∀ p, S.map p = T.map p) : S = T := by
  obtain ⟨b, r, ps⟩ := S
  obtain ⟨b', r', ps'⟩ := T
  obtain ⟨rfl, rfl, rfl⟩ := S_uniq h.w k.w ho hm
  rfl

/-- The first part becomes ready, if nothing is lacking ahead of it. -/
def settleF (b : Int) (r : List Int) : List Pt → SS
  | [] => ⟨b, r, []⟩
  | q :: t => if q.1 = b then ⟨endP q, r ++ q.2, t⟩ else ⟨b, r, q :: t⟩
theorem settle_spec {lim b : Int} {r : List Int} {Q : List Pt} (h : W lim (b - 1) Q) : W lim (settleF b r Q).b (settleF b r Q).ps ∧ (settleF b r Q).o = b - r.length ∧ b ≤ (settleF b r Q).b ∧ (settleF b r Q).b ≤ max b lim ∧
    (∀ p, (settleF b r Q).map p = mapS b r Q p) ∧ (settleF b r Q).tot = r.length + totL Q := by
  cases Q with
  | nil => exact ⟨trivial, rfl, Int.le_refl _, by simp only [settleF]; omega, fun _ => rfl, held_tot _ _⟩
  | cons q t =>
    obtain ⟨h1, h2, h3, h4⟩ := h
    have hq1 : endP q = q.1 + q.2.length := rfl
    by_cases hc : q.1 = b
    · have e : settleF b r (q :: t) = ⟨endP q, r ++ q.2, t⟩ := if_pos hc
      rw [e]
      refine ⟨h4, by simp only [SS.o, List.length_append]; omega, by simp only; omega, by simp only; omega, fun p => ?_, by rw [SS.tot, held_tot, totL_cons]; simp only [List.length_append]; omega⟩
      simp only [SS.map, mapS, List.length_append]
      rw [show endP q - ((r.length + q.2.length : Nat) : Int) = b - r.length by omega, at1_app, atL_cons, show b - (r.length : Int) + (r.length : Int) = q.1 by omega, Option.or_assoc]
    · have e : settleF b r (q :: t) = ⟨b, r, q :: t⟩ := if_neg hc
      rw [e]
      refine ⟨⟨h1, by simp only; omega, h3, h4⟩, rfl, Int.le_refl _, by simp only; omega, fun p => rfl, held_tot _ _⟩

def clip (b lim : Int) (f : Pt) (p : Int) : Option Int := if b ≤ p ∧ p < lim then at1 f p else none
/-- What is put of a text at a place, at a state. -/
def fromF (S : SS) (v : Int) : Int := max v S.b
def toF (S : SS) (v : Int) (s : List Int) : Int := min (v + s.length) S.lim
def freshF (S : SS) (v : Int) (s : List Int) : Pt := (fromF S v, (s.drop (fromF S v - v).toNat).take (toF S v s - fromF S v).toNat)
def putF (S : SS) (v : Int) (s : List Int) : SS := if fromF S v < toF S v s then settleF S.b S.r (putL S.ps (freshF S v s)) else S
/-- What holds of a state that bytes were put to. -/
structure PutOk (S T : SS) (v : Int) (s : List Int) : Prop where
  ok : T.Ok
  o : T.o = S.o
  up : S.b ≤ T.b
  map : ∀ p, T.map p = (S.map p).or (clip S.b S.lim (v, s) p)
theorem fresh_len {S : SS} {v : Int} {s : List Int} (h : fromF S v < toF S v s) : ((freshF S v s).2.length : Int) = toF S v s - fromF S v := by
  simp only [freshF, List.length_take, List.length_drop]
  simp only [fromF, toF] at *
  omega
theorem fresh_at {S : SS} {v : Int} {s : List Int} (h : fromF S v < toF S v s) (p : Int) : at1 (freshF S v s) p = clip S.b S.lim (v, s) p := by
  have hl := fresh_len h
  have he : endP (freshF S v s) = toF S v s := by simp only [endP] at *; rw [hl]; show fromF S v + _ = _; omega
  have h1 : (freshF S v s).1 = max v S.b := rfl
  simp only [fromF, toF] at h he
  unfold clip
  split
  · rename_i hc
    rcases Int.lt_or_le p v with hv | hv
    · rw [at1_none (.inl (by omega)), at1_none (.inl hv)]
    · rcases Int.lt_or_le p (v + s.length) with hw | hw
      · unfold at1
        rw [if_pos (by omega), if_pos hv]
        simp only [freshF, fromF, toF]
        rw [List.getElem?_take, if_pos (by omega), List.getElem?_drop]
        congr 1; omega
      · rw [at1_none (.inr (by omega)), at1_none (q := (v, s)) (.inr hw)]
  · rename_i hc
    exact at1_none (by omega)
theorem ok_of {S : SS} {lim : Int} (h0 : 0 ≤ S.o) (hl : S.lim = lim) (hb : S.b ≤ lim) (hw : W lim S.b S.ps) : S.Ok := by
  have e := SS.lim_o S
  refine ⟨h0, by omega, ?_, by rw [hl]; exact hw⟩
  simp only [SS.o] at *; omega
theorem put_ok {S : SS} (h : S.Ok) (v : Int) (s : List Int) : PutOk S (putF S v s) v s := by
  unfold putF
  split
  · rename_i hc
    have hl := fresh_len hc
    have hbl := h.b
    have h1 : (freshF S v s).1 = fromF S v := rfl
    have hne : (freshF S v s).2 ≠ [] := by rw [ne_len]; omega
    have he : endP (freshF S v s) ≤ S.lim := by simp only [endP]; rw [hl, h1]; simp only [toF]; omega
    obtain ⟨w1, w2⟩ := putL_spec (last' := S.b - 1) h.w (by omega) (by rw [h1]; simp only [fromF]; omega) hne he
    obtain ⟨s1, s2, s3, s4, s5, _⟩ := settle_spec (r := S.r) w1
    have hlim : (settleF S.b S.r (putL S.ps (freshF S v s))).lim = S.lim := by rw [SS.lim_o, SS.lim_o, s2]; rfl
    refine ⟨ok_of (by rw [s2]; exact h.b0) hlim (by omega) s1, s2, s3, fun p => ?_⟩
    rw [s5]
    simp only [SS.map, mapS]
    rw [w2, fresh_at hc, Option.or_assoc]
  · rename_i hc
    refine ⟨h, rfl, Int.le_refl _, fun p => ?_⟩
    have : clip S.b S.lim (v, s) p = none := by
      unfold clip
      split
      · refine at1_none ?_
        simp only [endP, fromF, toF] at *; omega
      · rfl
    rw [this, Option.or_none]

-- the reference, byte by byte
theorem have_at {ps : List Pt} {v : Int} : haveF ps v = false ↔ atL ps v = none := by
  induction ps with
  | nil => simp [haveF, atL_nil]
  | cons q l ih =>
    simp only [haveF, List.any_cons, Bool.or_eq_false_iff] at ih ⊢
    rw [atL_cons, ih]
    have : inP v q = false ↔ at1 q v = none := by
      simp only [inP, Bool.and_eq_false_iff, decide_eq_false_iff_not]
      constructor
      · intro h; exact at1_none (by simp only [endP]; omega)
      · intro h
        rcases Int.lt_or_le v q.1 with h1 | h1
        · exact .inl (by omega)
        · rcases Int.lt_or_le v (endP q) with h2 | h2
          · obtain ⟨c, hc⟩ := at1_some h1 h2
            rw [hc] at h; cases h
          · exact .inr (by simp only [endP] at h2; omega)
    rw [this]
    cases at1 q v <;> simp
def endL : Int → List Pt → Int
  | b, [] => b
  | _, p :: l => endL (endP p) l
theorem endL_append (b : Int) (l m : List Pt) : endL b (l ++ m) = endL (endL b l) m := by
  induction l generalizing b with
  | nil => rfl
  | cons p l ih => exact ih _
theorem W_append {lim : Int} {l m : List Pt} {b : Int} : W lim b (l ++ m) ↔ W lim b l ∧ W lim (endL b l) m := by
  induction l generalizing b with
  | nil => simp [W, endL]
  | cons p l ih => simp only [List.cons_append, W, endL, ih, and_assoc]
/-- As W, but parts may touch. -/
def A (lim : Int) : Int → List Pt → Prop
  | _, [] => True
  | last, p :: l => p.2 ≠ [] ∧ last ≤ p.1 ∧ endP p ≤ lim ∧ A lim (endP p) l
theorem A_append {lim : Int} {l m : List Pt} {b : Int} : A lim b (l ++ m) ↔ A lim b l ∧ A lim (endL b l) m := by
  induction l generalizing b with
  | nil => simp [A, endL]
  | cons p l ih => simp only [List.cons_append, A, endL, ih, and_assoc]
theorem W.a {lim : Int} : ∀ {l : List Pt} {b b' : Int}, W lim b l → b' ≤ b + 1 → A lim b' l
  | [], _, _, _, _ => trivial
  | p :: l, b, b', h, hb => ⟨h.1, by have := h.2.1; omega, h.2.2.1, W.a h.2.2.2 (by omega)⟩
theorem add_snoc (init : List Pt) (q x : Pt) : addP (init ++ [q]) x = if endP q = x.1 then init ++ [(q.1, q.2 ++ x.2)] else init ++ [q] ++ [x] := by
  unfold addP
  have e : (init ++ [q]).length - 1 = init.length := by simp
  have g : (init ++ [q]).getD init.length (0, []) = q := by simp [List.getD]
  rw [e, g]
  by_cases h : endP q = x.1
  · rw [if_pos ⟨by simp, h⟩, if_pos h]
    rw [List.set_append_right _ _ (Nat.le_refl _)]; simp
  · rw [if_neg (fun hh => h hh.2), if_neg h]
theorem add_nil (x : Pt) : addP [] x = [x] := by simp [addP]
theorem fold_spec {lim b : Int} : ∀ {l : List Pt} {init : List Pt} {q : Pt}, W lim b (init ++ [q]) → A lim (endP q) l →
    W lim b (l.foldl addP (init ++ [q])) ∧ (∀ p, atL (l.foldl addP (init ++ [q])) p = (atL (init ++ [q]) p).or (atL l p)) ∧ totL (l.foldl addP (init ++ [q])) = totL (init ++ [q]) + totL l
  | [], init, q, h, _ => ⟨h, fun p => by simp [atL_nil], by simp [totL_nil]⟩
  | x :: l, init, q, h, ha => by
    obtain ⟨a1, a2, a3, a4⟩ := ha
    have hx1 : endP x = x.1 + x.2.length := rfl
    have hq1 : endP q = q.1 + q.2.length := rfl
    rw [List.foldl_cons, add_snoc]
    obtain ⟨h1, h2⟩ := W_append.1 h
    obtain ⟨b1, b2, b3, _⟩ := h2
    split
    · rename_i hc
      have e : endP (q.1, q.2 ++ x.2) = endP x := by simp only [endP, List.length_append] at *; omega
      have hw : W lim b (init ++ [(q.1, q.2 ++ x.2)]) := W_append.2 ⟨h1, by simp [b1], b2, by rw [e]; exact a3, trivial⟩
      obtain ⟨i1, i2, i3⟩ := fold_spec hw (by rw [e]; exact a4)
      refine ⟨i1, fun p => ?_, ?_⟩
      · rw [i2, atL_append, atL_append, atL_cons, atL_cons, atL_nil, atL_cons, at1_app, Option.or_none, Option.or_none, show q.1 + (q.2.length : Int) = x.1 by omega]
        simp only [Option.or_assoc]
      · rw [i3, totL_append, totL_append, totL_cons, totL_cons, totL_cons, totL_nil, List.length_append]; omega
    · rename_i hc
      have hw : W lim b ((init ++ [q]) ++ [x]) := W_append.2 ⟨h, a1, by rw [endL_append]; show endP q < x.1; omega, a3, trivial⟩
      obtain ⟨i1, i2, i3⟩ := fold_spec (init := init ++ [q]) hw a4
      refine ⟨i1, fun p => ?_, ?_⟩
      · rw [i2, atL_append (init ++ [q]), atL_cons, atL_nil, atL_cons, Option.or_none, Option.or_assoc]
      · rw [i3, totL_append (init ++ [q]), totL_cons, totL_nil, totL_cons]; omega
theorem fold0_spec {lim b : Int} {l : List Pt} (h : A lim (b + 1) l) : W lim b (l.foldl addP []) ∧ (∀ p, atL (l.foldl addP []) p = atL l p) ∧ totL (l.foldl addP []) = totL l := by
  cases l with
  | nil => exact ⟨trivial, fun _ => rfl, rfl⟩
  | cons q l =>
    obtain ⟨h1, h2, h3, h4⟩ := h
    rw [List.foldl_cons, add_nil]
    obtain ⟨i1, i2, i3⟩ := fold_spec (init := []) (q := q) (l := l) (lim := lim) (b := b) ⟨h1, by omega, h3, trivial⟩ h4
    refine ⟨i1, fun p => ?_, ?_⟩
    · rw [show ([q] : List Pt) = [] ++ [q] from rfl, i2, List.nil_append, atL_cons, atL_nil, atL_cons, Option.or_none]
    · rw [show ([q] : List Pt) = [] ++ [q] from rfl, i3, List.nil_append, totL_cons, totL_cons, totL_nil]; omega
theorem pos_split {lim v : Int} {ps : List Pt} : ∀ (d k : Nat) {b : Int}, ps.length - k = d → k ≤ ps.length → W lim b ps → (∀ q ∈ ps.take k, endP q ≤ v) → atL ps v = none →
    k ≤ posP ps v k ∧ posP ps v k ≤ ps.length ∧ (∀ q ∈ ps.take (posP ps v k), endP q ≤ v) ∧ ∀ h : posP ps v k < ps.length, v < (ps.getD (posP ps v k) (0, [])).1 := by
  intro d
  induction d with
  | zero =>
    intro k b hd hk hw ht hv
    rw [pos_end (by omega)]
    exact ⟨Nat.le_refl _, hk, ht, fun h => by omega⟩
  | succ d ih =>
    intro k b hd hk hw ht hv
    have hk1 : k < ps.length := by omega
    have hmem : ps.getD k (0, []) ∈ ps := by simp [List.getD, hk1]
    have hnone : at1 (ps.getD k (0, [])) v = none := by
      have hsp : ps = ps.take k ++ ps.getD k (0, []) :: ps.drop (k + 1) := by
        rw [← drop_at hk1, List.take_append_drop]
      rw [hsp, atL_append, atL_cons] at hv
      cases h1 : atL (ps.take k) v with
      | some x => rw [h1] at hv; cases hv
      | none =>
        rw [h1] at hv
        cases h2 : at1 (ps.getD k (0, [])) v with
        | none => rfl
        | some x => rw [h2] at hv; cases hv
    have hne : (ps.getD k (0, [])).2 ≠ [] := by
      have : ∀ {l : List Pt} {b : Int}, W lim b l → ∀ q ∈ l, q.2 ≠ [] := by
        intro l
        induction l with
        | nil => intro b _ q hq; cases hq
        | cons p l ih => intro b h q hq; rcases List.mem_cons.1 hq with rfl | hq; exact h.1; exact ih h.2.2.2 q hq
      exact this hw _ hmem
    have hq1 : endP (ps.getD k (0, [])) = (ps.getD k (0, [])).1 + (ps.getD k (0, [])).2.length := rfl
    have hpos := ne_len.1 hne
    rcases Int.lt_or_le (ps.getD k (0, [])).1 v with hlt | hge
    · rw [← pos_go hk1 hlt]
      have hev : endP (ps.getD k (0, [])) ≤ v := by
        rcases Int.lt_or_le v (endP (ps.getD k (0, []))) with h2 | h2
        · obtain ⟨c, hc⟩ := at1_some (q := ps.getD k (0, [])) (p := v) (by omega) h2
          rw [hc] at hnone; cases hnone
        · exact h2
      obtain ⟨i1, i2, i3, i4⟩ := ih (k + 1) (by omega) (by omega) hw (fun q hq => by
        rw [take_sn (d := (0, [])) hk1] at hq
        rcases List.mem_append.1 hq with hq | hq
        · exact ht q hq
        · simp at hq; rw [hq]; simpa [List.getD, hk1] using hev) hv
      exact ⟨by omega, i2, i3, i4⟩
    · rw [pos_no hge]
      refine ⟨Nat.le_refl _, hk, ht, fun h => ?_⟩
      rcases Int.lt_or_le v (ps.getD k (0, [])).1 with h3 | h3
      · exact h3
      · obtain ⟨c, hc⟩ := at1_some (q := ps.getD k (0, [])) (p := v) (by omega) (by omega)
        rw [hc] at hnone; cases hnone
theorem endL_le {v b : Int} : ∀ {l : List Pt}, b ≤ v → (∀ q ∈ l, endP q ≤ v) → endL b l ≤ v
  | [], h, _ => h
  | p :: l, _, h => endL_le (l := l) (h p (by simp)) fun q hq => h q (by simp [hq])
theorem ins_spec {lim b v : Int} {ps : List Pt} {c : Int} (hw : W lim b ps) (hb : b < v) (hl : v < lim) (hv : atL ps v = none) :
    W lim b (insF ps v [c]) ∧ (∀ p, atL (insF ps v [c]) p = (atL ps p).or (at1 (v, [c]) p)) ∧ totL (insF ps v [c]) = totL ps + 1 := by
  obtain ⟨p1, p2, p3, p4⟩ := pos_split (lim := lim) (v := v) (ps := ps) ps.length 0 (b := b) (by omega) (Nat.zero_le _) hw (fun q hq => by simp at hq) hv
  unfold insF allI
  generalize posP ps v 0 = k at p1 p2 p3 p4
  have hsp : ps.take k ++ ps.drop k = ps := List.take_append_drop k ps
  have hw' := hw
  rw [← hsp] at hw'
  obtain ⟨w1, w2⟩ := W_append.1 hw'
  have ha : A lim (b + 1) (ps.take k ++ (v, [c]) :: ps.drop k) := by
    refine A_append.2 ⟨w1.a (Int.le_refl _), by simp, endL_le (by omega) p3, by simp only [endP, List.length_cons, List.length_nil]; omega, ?_⟩
    have : ps.drop k = [] ∨ k < ps.length := by
      rcases Nat.lt_or_ge k ps.length with h | h
      · exact .inr h
      · exact .inl (List.drop_eq_nil_of_le h)
    rcases this with h | h
    · rw [h]; trivial
    · have h4 := p4 h
      rw [drop_at (d := (0, [])) h] at w2 ⊢
      refine ⟨w2.1, ?_, w2.2.2.1, w2.2.2.2.a (by omega)⟩
      simp only [endP, List.length_cons, List.length_nil]; omega
  obtain ⟨f1, f2, f3⟩ := fold0_spec ha
  refine ⟨f1, fun p => ?_, ?_⟩
  · rw [f2, atL_append, atL_cons]
    conv => rhs; rw [← hsp]
    rw [atL_append]
    by_cases e : p = v
    · subst e
      have e1 := hv
      rw [← hsp, atL_append] at e1
      cases h1 : atL (ps.take k) p with
      | some x => rw [h1] at e1; cases e1
      | none =>
        rw [h1] at e1
        cases h2 : atL (ps.drop k) p with
        | some x => rw [h2] at e1; cases e1
        | none => simp
    · have : at1 (v, [c]) p = none := at1_none (by simp only [endP, List.length_cons, List.length_nil]; omega)
      rw [this]; simp
  · rw [f3, totL_append, totL_cons]
    conv => rhs; rw [← hsp]
    rw [totL_append]; simp only [List.length_cons, List.length_nil]; omega

def oneF (S : SS) (v : Int) (c : List Int) : SS × Bool :=
  if v < S.b ∨ S.lim ≤ v ∨ haveF S.ps v = true then (S, false)
  else if S.b < v then (⟨S.b, S.r, insF S.ps v c⟩, true)
  else (settleF (S.b + 1) (S.r ++ c) S.ps, true)
theorem one_ok {S : SS} (h : S.Ok) (v c : Int) : PutOk S (oneF S v [c]).1 v [c] ∧ (oneF S v [c]).1.tot = S.tot + (if (oneF S v [c]).2 then 1 else 0) := by
  have hbl := h.b
  have hcl : ∀ p, p ≠ v → clip S.b S.lim (v, [c]) p = none := fun p hp => by
    unfold clip
    split
    · exact at1_none (by simp only [endP, List.length_cons, List.length_nil]; omega)
    · rfl
  unfold oneF
  split
  · rename_i hc
    refine ⟨⟨h, rfl, Int.le_refl _, fun p => ?_⟩, by simp⟩
    by_cases e : p = v
    · subst e
      unfold clip
      split
      · have hh : haveF S.ps p = true := by rcases hc with hc | hc | hc; omega; omega; exact hc
        have : atL S.ps p ≠ none := fun e => by rw [← have_at] at e; rw [e] at hh; cases hh
        simp only [SS.map, mapS]
        rw [Option.or_assoc]
        congr 1
        cases h1 : atL S.ps p with
        | none => exact absurd h1 this
        | some x => rfl
      · simp
    · rw [hcl p e]; simp
  · rename_i hc
    have hv : atL S.ps v = none := have_at.1 (by cases hh : haveF S.ps v with | false => rfl | true => exact absurd (.inr (.inr hh)) hc)
    split
    · rename_i hd
      obtain ⟨i1, i2, i3⟩ := ins_spec (c := c) h.w hd (by omega) hv
      refine ⟨⟨⟨h.b0, h.b1, h.r, i1⟩, rfl, Int.le_refl _, fun p => ?_⟩, ?_⟩
      · simp only [SS.map, mapS]
        rw [i2, Option.or_assoc]
        congr 2
        by_cases e : p = v
        · subst e; unfold clip; rw [if_pos (by omega)]
        · rw [hcl p e]; exact at1_none (by simp only [endP, List.length_cons, List.length_nil]; omega)
      · simp only [SS.tot, held_tot, i3, if_true]; omega
    · rename_i hd
      have hvb : v = S.b := by omega
      subst hvb
      have hw : W S.lim ((S.b + 1) - 1) S.ps := h.w.mono (by omega)
      obtain ⟨s1, s2, s3, s4, s5, s6⟩ := settle_spec (r := S.r ++ [c]) hw
      have ho : (settleF (S.b + 1) (S.r ++ [c]) S.ps).o = S.o := by rw [s2]; simp only [SS.o, List.length_append, List.length_cons, List.length_nil]; omega
      have hlim : (settleF (S.b + 1) (S.r ++ [c]) S.ps).lim = S.lim := by rw [SS.lim_o, SS.lim_o, ho]
      refine (show PutOk S (settleF (S.b + 1) (S.r ++ [c]) S.ps) S.b [c] ∧ (settleF (S.b + 1) (S.r ++ [c]) S.ps).tot = S.tot + 1 from ?_)
      refine ⟨⟨ok_of (by rw [ho]; exact h.b0) hlim (by omega) s1, ho, by omega, fun p => ?_⟩, ?_⟩
      · rw [s5]
        simp only [SS.map, mapS, List.length_append, List.length_cons, List.length_nil]
        rw [show S.b + 1 - ((S.r.length + (0 + 1) : Nat) : Int) = S.b - S.r.length by omega, at1_app, Option.or_assoc, Option.or_assoc, show S.b - (S.r.length : Int) + (S.r.length : Int) = S.b by omega]
        congr 1
        by_cases e : p = S.b
        · subst e
          rw [hv]
          unfold clip
          rw [if_pos (by omega)]; simp
        · rw [hcl p e, at1_none (q := (S.b, [c])) (by simp only [endP, List.length_cons, List.length_nil]; omega)]; simp
      · rw [s6]
        simp only [SS.tot, held_tot, List.length_append, List.length_cons, List.length_nil]; omega
def runO : SS → Int → List Int → SS × Nat
  | S, _, [] => (S, 0)
  | S, v, c :: s => ((runO (oneF S v [c]).1 (v + 1) s).1, (runO (oneF S v [c]).1 (v + 1) s).2 + (if (oneF S v [c]).2 then 1 else 0))
theorem clip_cons (b lim v c : Int) (s : List Int) (p : Int) : clip b lim (v, c :: s) p = (clip b lim (v, [c]) p).or (clip b lim (v + 1, s) p) := by
  unfold clip
  split
  · rw [show (c :: s) = [c] ++ s from rfl, at1_app]; rfl
  · rfl
theorem run_ok : ∀ {s : List Int} {S : SS} (_ : S.Ok) (v : Int), PutOk S (runO S v s).1 v s ∧ (runO S v s).1.tot = S.tot + (runO S v s).2
  | [], S, h, v => by
    refine ⟨⟨h, rfl, Int.le_refl _, fun p => ?_⟩, rfl⟩
    have : clip S.b S.lim (v, []) p = none := by unfold clip at1; split <;> simp
    rw [this]; simp [runO]
  | c :: s, S, h, v => by
    obtain ⟨⟨o1, o2, o3, o4⟩, o5⟩ := one_ok h v c
    obtain ⟨⟨r1, r2, r3, r4⟩, r5⟩ := run_ok (s := s) o1 (v + 1)
    simp only [runO]
    refine ⟨⟨r1, by rw [r2, o2], by omega, fun p => ?_⟩, by rw [r5, o5]; omega⟩
    have hlim : (oneF S v [c]).1.lim = S.lim := by rw [SS.lim_o, SS.lim_o, o2]
    rw [r4, o4, clip_cons S.b S.lim v c s p, ← Option.or_assoc]
    rcases Int.lt_or_le p (oneF S v [c]).1.b with hp | hp
    · -- it is there already
      by_cases hq : S.b ≤ p
      · have : ∃ x, (oneF S v [c]).1.map p = some x := by
          simp only [SS.map, mapS]
          have ho : S.o ≤ p := by simp only [SS.o]; omega
          obtain ⟨x, hx⟩ := at1_some (q := ((oneF S v [c]).1.b - (oneF S v [c]).1.r.length, (oneF S v [c]).1.r)) (p := p) (by have := o2; simp only [SS.o] at *; omega) (by simp only [endP]; omega)
          exact ⟨x, by rw [hx]; rfl⟩
        obtain ⟨x, hx⟩ := this
        rw [o4] at hx
        rw [hx]; rfl
      · have e1 : ∀ f, clip S.b S.lim f p = none := fun f => by unfold clip; rw [if_neg (by omega)]
        have e2 : ∀ f, clip (oneF S v [c]).1.b (oneF S v [c]).1.lim f p = none := fun f => by unfold clip; rw [if_neg (by omega)]
        rw [e2, e1 (v + 1, s)]
    · congr 1
      unfold clip
      rw [hlim]
      by_cases hq : p < S.lim
      · rw [if_pos ⟨hp, hq⟩, if_pos ⟨by omega, hq⟩]
      · rw [if_neg (by omega), if_neg (by omega)]
theorem run_put {S : SS} (h : S.Ok) (v : Int) (s : List Int) : (runO S v s).1 = putF S v s ∧ (putF S v s).tot = S.tot + (runO S v s).2 := by
  obtain ⟨⟨r1, r2, _, r4⟩, r5⟩ := run_ok (s := s) h v
  obtain ⟨p1, p2, _, p4⟩ := put_ok h v s
  have e := SS.uniq r1 p1 (by rw [r2, p2]) (fun p => by rw [r4, p4])
  exact ⟨e, by rw [← e]; exact r5⟩
end Go.Proofs.Ytjdemohgegldaaa
