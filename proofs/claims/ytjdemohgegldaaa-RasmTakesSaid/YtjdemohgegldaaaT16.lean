/-
  Layer 12: what is put.
-/
import Derived.Test.YtjdemohgegldaaaT1
import Derived.Test.YtjdemohgegldaaaT2
import Derived.Test.YtjdemohgegldaaaT3
import Derived.Test.YtjdemohgegldaaaT4
import Derived.Test.YtjdemohgegldaaaT6
import Derived.Test.YtjdemohgegldaaaT7
import Derived.Test.YtjdemohgegldaaaT8
import Derived.Test.YtjdemohgegldaaaT10
import Derived.Test.YtjdemohgegldaaaT11
import Derived.Test.YtjdemohgegldaaaT13
import Derived.Test.YtjdemohgegldaaaT15
namespace Go.Proofs.Ytjdemohgegldaaa
open Go.RowKit
set_option linter.unusedSimpArgs false
set_option linter.unusedVariables false


theorem W_at {lim : Int} : ∀ {l : List Pt} {b : Int} {k : Nat}, W lim b l → k < l.length → (l.getD k (0, [])).2 ≠ [] ∧ b < (l.getD k (0, [])).1 ∧ endP (l.getD k (0, [])) ≤ lim
  | [], _, _, _, hk => by simp at hk
  | p :: l, b, 0, h, _ => ⟨h.1, h.2.1, h.2.2.1⟩
  | p :: l, b, k + 1, h, hk => by
    have h1 := W_at (k := k) h.2.2.2 (by simpa using hk)
    have hp : endP p = p.1 + p.2.length := rfl
    have := h.2.1
    exact ⟨h1.1, by have := h1.2.1; simp only [List.getD_cons_succ]; omega, h1.2.2⟩
theorem W_up {lim : Int} : ∀ {l : List Pt} {b : Int} {j k : Nat}, W lim b l → j < k → k < l.length → endP (l.getD j (0, [])) < (l.getD k (0, [])).1
  | [], _, _, _, _, _, hk => by simp at hk
  | p :: l, b, 0, k + 1, h, _, hk => by
    have h1 := W_at (k := k) h.2.2.2 (by simpa using hk)
    exact h1.2.1
  | p :: l, b, j + 1, k + 1, h, hj, hk => by
    simpa using W_up (j := j) (k := k) h.2.2.2 (by omega) (by simpa using hk)
structure PInv (lim b : Int) (ps Q : List Pt) (i first : Nat) (f : Pt) : Prop where
  ii : i ≤ ps.length
  fi : first ≤ i
  ah : first = i ∨ ∀ k, i ≤ k → k < ps.length → f.1 < (ps.getD k (0, [])).1
  bb : b ≤ f.1
  ne : f.2 ≠ []
  li : endP f ≤ lim
  qq : ps.take first ++ putL (ps.drop i) f = Q
def addN (ps : List Pt) (i first : Nat) (f : Pt) : Int := (totL (ps.take first) : Int) + f.2.length - totL (ps.take i)
theorem tot_take {ps : List Pt} {i : Nat} (h : i < ps.length) : totL (ps.take (i + 1)) = totL (ps.take i) + (ps.getD i (0, [])).2.length := by
  rw [take_sn (d := (0, [])) h, totL_append, totL_cons, totL_nil]; omega
theorem tot_split (ps : List Pt) (i : Nat) : totL ps = totL (ps.take i) + totL (ps.drop i) := by
  conv => lhs; rw [← List.take_append_drop i ps]
  rw [totL_append]
section
variable {lim b : Int} {ps Q : List Pt} {i first : Nat} {f : Pt}
theorem PInv.skip (h : PInv lim b ps Q i first f) (hi : i < ps.length) (hlt : endP (ps.getD i (0, [])) < f.1) : PInv lim b ps Q (i + 1) (i + 1) f ∧ addN ps (i + 1) (i + 1) f = addN ps i first f := by
  have hp : endP (ps.getD i (0, [])) = (ps.getD i (0, [])).1 + (ps.getD i (0, [])).2.length := rfl
  have hfi : first = i := by
    rcases h.ah with h1 | h1
    · exact h1
    · have := h1 i (Nat.le_refl _) hi; omega
  subst hfi
  refine ⟨⟨hi, Nat.le_refl _, .inl rfl, h.bb, h.ne, h.li, ?_⟩, ?_⟩
  · have hq := h.qq
    rw [drop_at (d := (0, [])) hi] at hq
    simp only [putL] at hq
    rw [if_pos hlt] at hq
    rw [take_sn (d := (0, [])) hi, List.append_assoc]; exact hq
  · simp only [addN]; omega
theorem PInv.stop (h : PInv lim b ps Q i first f) (hi : i < ps.length) (h1 : ¬ endP (ps.getD i (0, [])) < f.1) (h2 : endP f < (ps.getD i (0, [])).1) : ps.take first ++ f :: ps.drop i = Q ∧ addN ps i first f = totL Q - totL ps := by
  have hq := h.qq
  have hd := drop_at (d := (0, [])) hi
  rw [hd] at hq
  simp only [putL] at hq
  rw [if_neg h1, if_pos h2, ← hd] at hq
  refine ⟨hq, ?_⟩
  rw [← hq, tot_split ps i, totL_append, totL_cons]
  simp only [addN]; omega
theorem PInv.last (h : PInv lim b ps Q i first f) (hi : i = ps.length) : ps.take first ++ f :: ps.drop i = Q ∧ addN ps i first f = totL Q - totL ps := by
  have hq := h.qq
  have hd : ps.drop i = [] := List.drop_eq_nil_of_le (by omega)
  rw [hd] at hq
  simp only [putL] at hq
  rw [← hd] at hq
  have hq2 : ps.take first ++ f :: ps.drop i = Q := by rw [← hq, hd]
  refine ⟨hq2, ?_⟩
  rw [← hq2, tot_split ps i, totL_append, totL_cons]
  simp only [addN]; omega
theorem PInv.touch (h1 : ¬ endP (ps.getD i (0, [])) < f.1) (h2 : ¬ endP f < (ps.getD i (0, [])).1) : touch (ps.getD i (0, [])) f := ⟨by omega, by omega⟩
theorem PInv.join (h : PInv lim b ps Q i first f) (hW : W lim b ps) (hi : i < ps.length) (h1 : ¬ endP (ps.getD i (0, [])) < f.1) (h2 : ¬ endP f < (ps.getD i (0, [])).1) :
    PInv lim b ps Q (i + 1) first (joinF (ps.getD i (0, [])) f) ∧ addN ps (i + 1) first (joinF (ps.getD i (0, [])) f) = addN ps i first f + ((joinF (ps.getD i (0, [])) f).2.length - (ps.getD i (0, [])).2.length - f.2.length) := by
  obtain ⟨j1, j2, j3⟩ := join_spec (PInv.touch (f := f) h1 h2)
  have ha := W_at hW hi
  have hl := h.li
  have hb := h.bb
  refine ⟨⟨hi, by have := h.fi; omega, .inr fun k hk hk2 => ?_, by omega, join_ne (PInv.touch h1 h2) ha.1, by omega, ?_⟩, ?_⟩
  · have hu := W_up (j := i) (k := k) hW (by omega) hk2
    have hp : endP (ps.getD i (0, [])) = (ps.getD i (0, [])).1 + (ps.getD i (0, [])).2.length := rfl
    omega
  · have hq := h.qq
    rw [drop_at (d := (0, [])) hi] at hq
    simp only [putL] at hq
    rw [if_neg h1, if_neg h2] at hq
    exact hq
  · simp only [addN, tot_take hi]; omega
end
theorem cut1_sl (q : Pt) (t : List Pt) : D.cutL 2 (.sl 2 ((q :: t).map ptD)) (some (.v (.int .i64 1))) none none = some (.sl 2 (t.map ptD)) := by
  simp only [D.cutL, optI, List.map_cons, List.length_cons, List.length_map]
  rw [if_pos ⟨trivial, by omega, by omega, by omega, by omega⟩]
  show some (D.sl 2 ((List.map ptD t).take _)) = _
  rw [List.take_of_length_le (by rw [List.length_map]; omega)]
theorem tot_le {c : Nat} : ∀ {l : List Pt}, (∀ p ∈ l, p.2.length ≤ c) → totL l ≤ c * l.length
  | [], _ => by simp [totL]
  | p :: l, h => by
    have h1 := tot_le (l := l) fun q hq => h q (by simp [hq])
    have h2 := h p (by simp)
    rw [totL_cons, List.length_cons, Nat.mul_add]; omega
theorem add0 (ps : List Pt) (F : Pt) : addN ps 0 0 F = (F.2.length : Nat) := by simp [addN, totL]
theorem settle_c {Q : List Pt} {b : Int} {r : List Int} (hn : Q ≠ []) (b0 : 0 ≤ b) (b1 : b ≤ 1099511627776) (hr : r.length ≤ 100000) (hl : ∀ p ∈ Q, p.2.length ≤ 100000) :
    ReadD Try.prog 42 [.agg [.v (.int .i64 b), str r, .sl 2 (Q.map ptD)]] [.agg [.v (.int .i64 (settleF b r Q).b), str (settleF b r Q).r, .sl 2 ((settleF b r Q).ps.map ptD)]] := by
  cases Q with
  | nil => exact absurd rfl hn
  | cons q t =>
    by_cases h : q.1 = b
    · have e : settleF b r (q :: t) = ⟨endP q, r ++ q.2, t⟩ := if_pos h
      rw [e]
      have := settled1 (.sl 2 ((q :: t).map ptD)) (q :: t) b r (.sl 2 (t.map ptD)) (.inl rfl) (by simp) b0 b1 hr (hl q (by simp)) h (cut1_sl q t) (.inl rfl)
      have e2 : endP q = b + q.2.length := by rw [← h]; rfl
      rw [e2]; exact this
    · have e : settleF b r (q :: t) = ⟨b, r, q :: t⟩ := if_neg h
      rw [e]
      exact settled0 (.sl 2 ((q :: t).map ptD)) (q :: t) b r (.inl rfl) (by simp) b0 b1 hr (hl q (by simp)) h
theorem cat_c {ps R : List Pt} {c1 c2 : D} {first i : Nat} {f : Pt} (h1 : IsL 2 ((ps.take first).map ptD) c1) (h2 : IsL 2 ((ps.drop i).map ptD) c2) (hR : ps.take first ++ f :: ps.drop i = R) (hf : f.2 ≠ []) (hl : R.length ≤ 100000) :
    PureD Try.prog 43 [D.sl 1 (chunks false 1 3 [c1, D.sl 2 (chunks true 2 1 [.v (.int .i64 f.1), str f.2]), c2])] [.sl 2 (R.map ptD)] := by
  have hs : sumT [ps.take first, [f], ps.drop i] 3 = R.length := by
    rw [← hR]; simp only [sumT, List.take_succ_cons, List.take_zero, List.map_cons, List.map_nil, List.sum_cons, List.sum_nil, List.length_append, List.length_cons, List.length_nil]; omega
  have hR1 : 1 ≤ R.length := by rw [← hR]; simp only [List.length_append, List.length_cons]; omega
  have e : [ps.take first, [f], ps.drop i].flatten = R := by rw [← hR]; simp
  have := concat [c1, .sl 2 [ptD f], c2] [ps.take first, [f], ps.drop i] rfl (fun k hk => by
    match k, hk with
    | 0, _ => exact h1
    | 1, _ => exact .inl rfl
    | 2, _ => exact h2) (by show 1 ≤ sumT _ 3; omega) (by show sumT _ 3 ≤ _; omega) (by simp)
  rw [e] at this
  exact this
theorem cutLo {ps : List Pt} {x : D} (h : IsL 2 (ps.map ptD) x) {k : Nat} (hk : k ≤ ps.length) : ∃ c, D.cutL 2 x none (some (.v (.int .i64 (k : Nat)))) none = some c ∧ IsL 2 ((ps.take k).map ptD) c := by
  obtain ⟨c, eC, hC⟩ := h.cut (dl := none) (dh := some (.v (.int .i64 (k : Nat)))) (dm := none) (l := 0) (hh := (k : Nat)) (m := (ps.length : Nat)) rfl rfl (by rw [List.length_map]; rfl) (by omega) (by omega) (by omega) (by rw [List.length_map]; omega)
  refine ⟨c, eC, ?_⟩
  simpa [List.map_take] using hC
theorem cutHi {ps : List Pt} {x : D} (h : IsL 2 (ps.map ptD) x) {k : Nat} (hk : k ≤ ps.length) : ∃ c, D.cutL 2 x (some (.v (.int .i64 (k : Nat)))) none none = some c ∧ IsL 2 ((ps.drop k).map ptD) c := by
  obtain ⟨c, eC, hC⟩ := h.cut (dl := some (.v (.int .i64 (k : Nat)))) (dh := none) (dm := none) (l := (k : Nat)) (hh := (ps.length : Nat)) (m := (ps.length : Nat)) rfl (by rw [List.length_map]; rfl) (by rw [List.length_map]; rfl) (by omega) (by omega) (by omega) (by rw [List.length_map]; omega)
  refine ⟨c, eC, ?_⟩
  rw [Int.toNat_natCast, List.take_of_length_le (by rw [List.length_drop, List.length_map]; omega), ← List.map_drop] at hC
  exact hC
theorem putL_len : ∀ (l : List Pt) (f : Pt), (putL l f).length ≤ l.length + 1
  | [], f => by simp [putL]
  | p :: l, f => by
    have h1 := putL_len l f
    have h2 := putL_len l (joinF p f)
    unfold putL
    split
    · simp only [List.length_cons]; omega
    · split <;> simp only [List.length_cons] <;> omega

theorem vc_put_no (x : D) (ps : List Pt) (b : Int) (r s : List Int) (v b2 n2 : Int) (r2 : List Int) (y : D) : CondR Try.prog (fun k => if k = 11 then some ⟨[67, 10, 14], [], [3, 6, 13, 65, 66, 12], [(13, [0, 1], [])]⟩ else none) Try.f26 [.agg [.v (.int .i64 b), str r, x], .v (.int .i64 v), str s] [.agg [.v (.int .i64 b2), str r2, y], .v (.int .i64 n2)] = (((∃ (cs : List D), D.agg [D.v (Value.int IntKind.i64 b), str r, x] = D.agg cs ∧ cs.length = 3) ∧ NotAgg (D.v (Value.int IntKind.i64 v)) ∧ NotAgg (str s) ∧ True) ∧ ∃ (r_1 : D), PureD Try.prog 30 [D.agg [D.v (Value.int IntKind.i64 b), str r, x]] [r_1] ∧ fits [(false, [none])] [r_1] ∧ ∃ (r_2 : D), D.bin BinOp.neq r_1 (D.v (Value.int IntKind.i64 0)) = some r_2 ∧ ∃ (b_1 : Bool), r_2 = D.v (Value.bool b_1) ∧ (b_1 = false → ∃ (r_3 : D), D.bin BinOp.lss (D.v (Value.int IntKind.i64 v)) (D.v (Value.int IntKind.i64 0)) = some r_3 ∧ ∃ (b_2 : Bool), r_3 = D.v (Value.bool b_2) ∧ (b_2 = false → ∃ (r_4 : D), D.bin BinOp.gtr (D.v (Value.int IntKind.i64 v)) (D.v (Value.int IntKind.i64 1099511627776)) = some r_4 ∧ ∃ (b_3 : Bool), r_4 = D.v (Value.bool b_3) ∧ (b_3 = true → ∃ (r_5 : D), PureD Try.prog 38 [D.agg [D.v (Value.int IntKind.i64 b), str r, x]] [r_5] ∧ fits [(true, [none, none, some 2])] [r_5] ∧ [D.agg [r_5.cell 0, r_5.cell 1, r_5.cell 2], D.v (Value.int IntKind.i64 0)] = [D.agg [D.v (Value.int IntKind.i64 b2), str r2, y], D.v (Value.int IntKind.i64 n2)]) ∧ (b_3 = false → ∃ (r_5 : D), (D.v (Value.int IntKind.i64 v)).max2 (D.v (Value.int IntKind.i64 b)) = some r_5 ∧ ∃ (r_6 : D), D.lenT TypeDesc.string (str s) = some r_6 ∧ ∃ (r_7 : D), D.bin BinOp.add (D.v (Value.int IntKind.i64 v)) r_6 = some r_7 ∧ ∃ (r_8 : D), PureD Try.prog 39 [D.agg [D.v (Value.int IntKind.i64 b), str r, x]] [r_8] ∧ fits [(false, [none])] [r_8] ∧ ∃ (r_9 : D), r_7.min2 r_8 = some r_9 ∧ ∃ (r_10 : D), D.bin BinOp.geq r_5 r_9 = some r_10 ∧ ∃ (b_4 : Bool), r_10 = D.v (Value.bool b_4) ∧ (b_4 = true → ∃ (r_11 : D), PureD Try.prog 38 [D.agg [D.v (Value.int IntKind.i64 b), str r, x]] [r_11] ∧ fits [(true, [none, none, some 2])] [r_11] ∧ [D.agg [r_11.cell 0, r_11.cell 1, r_11.cell 2], D.v (Value.int IntKind.i64 0)] = [D.agg [D.v (Value.int IntKind.i64 b2), str r2, y], D.v (Value.int IntKind.i64 n2)]) ∧ (b_4 = false → ∃ (r_11 : D), D.lenT (TypeDesc.slice 67) x = some r_11 ∧ ∃ (r_12 : D), D.bin BinOp.sub r_5 (D.v (Value.int IntKind.i64 v)) = some r_12 ∧ ∃ (r_13 : D), D.bin BinOp.sub r_9 (D.v (Value.int IntKind.i64 v)) = some r_13 ∧ ∃ (r_14 : D), (str s).cutS (some r_12) (some r_13) = some r_14 ∧ ∃ (r_15 : D), D.lenT TypeDesc.string r_14 = some r_15 ∧ ∃ (r_16 : D), D.lenT (TypeDesc.slice 67) x = some r_16 ∧ ∃ (I : List D → Prop), ∃ (μ : List D → Nat), ((D.v (Value.int IntKind.i64 0) = D.v (Value.int IntKind.i64 0) ∧ D.v (Value.int IntKind.i64 0) = D.v (Value.int IntKind.i64 0) ∧ r_15 = r_15 ∧ (true = true ∧ true = true) ∧ (true = true ∧ true = true) ∧ (true = true ∧ true = true) ∧ x = x ∧ r_16 = r_16 ∧ r_11 = r_11 ∧ True) ∧ ((r_5 = r_5 ∧ r_14 = r_14 ∧ True) ∧ (D.v (Value.int IntKind.i64 b) = D.v (Value.int IntKind.i64 b) ∧ str r = str r ∧ x = x ∧ True) ∧ (D.v (Value.int IntKind.i64 0) = D.v (Value.int IntKind.i64 0) ∧ D.v (Value.string { data := { toList := [] } }) = D.v (Value.string { data := { toList := [] } }) ∧ true = true ∧ True) ∧ (true = true ∧ D.v (Value.slice none 0 0) = D.v (Value.slice none 0 0)) ∧ True) ∧ I [D.v (Value.int IntKind.i64 0), D.v (Value.int IntKind.i64 0), r_15, r_5, r_14]) ∧ ∀ (r_17 r_18 r_19 r_20 r_21 : D), I [r_17, r_18, r_19, r_20, r_21] → ∃ (r_22 : D), D.bin BinOp.lss r_17 r_16 = some r_22 ∧ ∃ (b_5 : Bool), r_22 = D.v (Value.bool b_5) ∧ (b_5 = true → D.inb 2 x r_17 ∧ 0 + 2 ≤ (x.at_ r_17).cells.length ∧ ∃ (r_23 : D), PureD Try.prog 40 [D.agg [(x.at_ r_17).cell (0 + 0), (x.at_ r_17).cell (0 + 1)]] [r_23] ∧ fits [(false, [none])] [r_23] ∧ ∃ (r_24 : D), D.bin BinOp.lss r_23 r_20 = some r_24 ∧ ∃ (b_6 : Bool), r_24 = D.v (Value.bool b_6) ∧ (b_6 = true → ∃ (r_25 : D), D.bin BinOp.add r_17 (D.v (Value.int IntKind.i64 1)) = some r_25 ∧ ∃ (r_26 : D), D.bin BinOp.add r_17 (D.v (Value.int IntKind.i64 1)) = some r_26 ∧ (r_26 = r_26 ∧ r_25 = r_25 ∧ r_19 = r_19 ∧ (true = true ∧ true = true) ∧ (true = true ∧ true = true) ∧ (true = true ∧ true = true) ∧ x = x ∧ r_16 = r_16 ∧ r_11 = r_11 ∧ True) ∧ ((r_20 = r_20 ∧ r_21 = r_21 ∧ True) ∧ (D.v (Value.int IntKind.i64 b) = D.v (Value.int IntKind.i64 b) ∧ str r = str r ∧ x = x ∧ True) ∧ (D.v (Value.int IntKind.i64 0) = D.v (Value.int IntKind.i64 0) ∧ D.v (Value.string { data := { toList := [] } }) = D.v (Value.string { data := { toList := [] } }) ∧ true = true ∧ True) ∧ (true = true ∧ D.v (Value.slice none 0 0) = D.v (Value.slice none 0 0)) ∧ True) ∧ I [r_26, r_25, r_19, r_20, r_21] ∧ μ [r_26, r_25, r_19, r_20, r_21] < μ [r_17, r_18, r_19, r_20, r_21]) ∧ (b_6 = false → ∃ (r_25 : D), PureD Try.prog 40 [D.agg [r_20, r_21]] [r_25] ∧ fits [(false, [none])] [r_25] ∧ ∃ (r_26 : D), D.bin BinOp.gtr ((x.at_ r_17).cell (0 + 0)) r_25 = some r_26 ∧ ∃ (b_7 : Bool), r_26 = D.v (Value.bool b_7) ∧ (b_7 = true → ∃ (r_27 : D), D.cutL 2 x none (some r_18) none = some r_27 ∧ ∃ (r_28 : D), D.cutL 2 x (some r_17) none none = some r_28 ∧ ∃ (r_29 : D), PureD Try.prog 43 [D.sl 1 (chunks false 1 3 [r_27, D.sl 2 (chunks true 2 1 [r_20, r_21]), r_28])] [r_29] ∧ fits [(false, [some 2])] [r_29] ∧ ∃ (r_30 : D), ReadD Try.prog 42 [D.agg [D.v (Value.int IntKind.i64 b), str r, r_29]] [r_30] ∧ ((∃ (cs : List D), r_30 = D.agg cs ∧ cs.length = [none, none, some 2].length) ∧ True) ∧ [D.agg [r_30.cell 0, r_30.cell 1, r_30.cell 2], r_19] = [D.agg [D.v (Value.int IntKind.i64 b2), str r2, y], D.v (Value.int IntKind.i64 n2)]) ∧ (b_7 = false → ∃ (r_27 : D), PureD Try.prog 41 [D.agg [(x.at_ r_17).cell (0 + 0), (x.at_ r_17).cell (0 + 1)], D.agg [r_20, r_21]] [r_27] ∧ fits [(true, [none, none])] [r_27] ∧ ∃ (r_28 : D), D.lenT TypeDesc.string (r_27.cell 1) = some r_28 ∧ ∃ (r_29 : D), D.lenT TypeDesc.string ((x.at_ r_17).cell (0 + 1)) = some r_29 ∧ ∃ (r_30 : D), D.bin BinOp.sub r_28 r_29 = some r_30 ∧ ∃ (r_31 : D), D.lenT TypeDesc.string r_21 = some r_31 ∧ ∃ (r_32 : D), D.bin BinOp.sub r_30 r_31 = some r_32 ∧ ∃ (r_33 : D), D.bin BinOp.add r_19 r_32 = some r_33 ∧ ∃ (r_34 : D), D.bin BinOp.add r_17 (D.v (Value.int IntKind.i64 1)) = some r_34 ∧ (r_34 = r_34 ∧ r_18 = r_18 ∧ r_33 = r_33 ∧ (true = true ∧ true = true) ∧ (true = true ∧ true = true) ∧ (true = true ∧ true = true) ∧ x = x ∧ r_16 = r_16 ∧ r_11 = r_11 ∧ True) ∧ ((r_27.cell 0 = r_27.cell 0 ∧ r_27.cell 1 = r_27.cell 1 ∧ True) ∧ (D.v (Value.int IntKind.i64 b) = D.v (Value.int IntKind.i64 b) ∧ str r = str r ∧ x = x ∧ True) ∧ (D.v (Value.int IntKind.i64 0) = D.v (Value.int IntKind.i64 0) ∧ D.v (Value.string { data := { toList := [] } }) = D.v (Value.string { data := { toList := [] } }) ∧ true = true ∧ True) ∧ (true = true ∧ D.v (Value.slice none 0 0) = D.v (Value.slice none 0 0)) ∧ True) ∧ I [r_34, r_18, r_33, r_27.cell 0, r_27.cell 1] ∧ μ [r_34, r_18, r_33, r_27.cell 0, r_27.cell 1] < μ [r_17, r_18, r_19, r_20, r_21]))) ∧ (b_5 = false → ∃ (r_23 : D), D.cutL 2 x none (some r_18) none = some r_23 ∧ ∃ (r_24 : D), D.cutL 2 x (some r_11) none none = some r_24 ∧ ∃ (r_25 : D), PureD Try.prog 43 [D.sl 1 (chunks false 1 3 [r_23, D.sl 2 (chunks true 2 1 [r_20, r_21]), r_24])] [r_25] ∧ fits [(false, [some 2])] [r_25] ∧ ∃ (r_26 : D), ReadD Try.prog 42 [D.agg [D.v (Value.int IntKind.i64 b), str r, r_25]] [r_26] ∧ ((∃ (cs : List D), r_26 = D.agg cs ∧ cs.length = [none, none, some 2].length) ∧ True) ∧ [D.agg [r_26.cell 0, r_26.cell 1, r_26.cell 2], r_19] = [D.agg [D.v (Value.int IntKind.i64 b2), str r2, y], D.v (Value.int IntKind.i64 n2)])))) ∧ (b_2 = true → ∃ (r_4 : D), PureD Try.prog 38 [D.agg [D.v (Value.int IntKind.i64 b), str r, x]] [r_4] ∧ fits [(true, [none, none, some 2])] [r_4] ∧ [D.agg [r_4.cell 0, r_4.cell 1, r_4.cell 2], D.v (Value.int IntKind.i64 0)] = [D.agg [D.v (Value.int IntKind.i64 b2), str r2, y], D.v (Value.int IntKind.i64 n2)])) ∧ (b_1 = true → ∃ (r_3 : D), PureD Try.prog 38 [D.agg [D.v (Value.int IntKind.i64 b), str r, x]] [r_3] ∧ fits [(true, [none, none, some 2])] [r_3] ∧ [D.agg [r_3.cell 0, r_3.cell 1, r_3.cell 2], D.v (Value.int IntKind.i64 0)] = [D.agg [D.v (Value.int IntKind.i64 b2), str r2, y], D.v (Value.int IntKind.i64 n2)])) := by kernel_rfl
set_option maxHeartbeats 8000000 in
theorem put_no (x : D) (ps : List Pt) (b : Int) (r s : List Int) (v b2 n2 : Int) (r2 : List Int) (y : D) (hX : IsL 2 (ps.map ptD) x) (hP : AllB ps) (hm : ps.length ≤ 100000) (hr : r.length ≤ 100000) (hs : s.length ≤ 100000) (v0 : -9223372036854775808 ≤ v) (hc : ¬ ((SS.mk b r ps).Ok ∧ 0 ≤ v ∧ v ≤ 1099511627776 ∧ fromF ⟨b, r, ps⟩ v < toF ⟨b, r, ps⟩ v s)) (e1 : b = b2) (e2 : r = r2) (e3 : x = y) (e4 : n2 = 0) : ReadD Try.prog 26 [.agg [.v (.int .i64 b), str r, x], .v (.int .i64 v), str s] [.agg [.v (.int .i64 b2), str r2, y], .v (.int .i64 n2)] := by
  refine read_cond (Lp := (fun k => if k = 11 then some ⟨[67, 10, 14], [], [3, 6, 13, 65, 66, 12], [(13, [0, 1], [])]⟩ else none)) (by kernel_rfl) Try.func26 (by kernel_rfl) (by kernel_rfl) ?_
  rw [vc_put_no x ps b r s v b2 n2 r2 y]
  subst e1; subst e2; subst e3; subst e4
  have CK := check x ps b r hX hP hm hr
  have KP := kept x ps b r hX hm
  by_cases ho : (SS.mk b r ps).Ok
  · have hz : chkF b r.length ps = 0 := chk_ok.2 ho
    rw [hz] at CK
    have h0 := ho.b
    have h1 := ho.b1
    have h2 := ho.r
    simp only at h0 h1 h2
    have LM := limit x ps b r hX h0.1 h1 (by omega)
    have hlm : limF b r.length ≤ 1099511627776 := by unfold limF; omega
    have hlm0 : 0 ≤ limF b r.length := by unfold limF; omega
    have hh : ¬ (0 ≤ v ∧ v ≤ 1099511627776 ∧ max v b < min (v + s.length) (limF b r.length)) := fun h => hc ⟨ho, h⟩
    clear hc
    repeat' (first
      | (refine ex_some (by simp (disch := omega) only [bin_shr, bin_shl, bin_and, bin_or, bin_xor, len_str, toStr_ofL, bin_add, bin_sub, bin_mul, bin_quo, bin_rem, bin_lss, bin_leq, bin_gtr, bin_geq, bin_eql, bin_neq, eqs_cn, eqs_ci, eqs_cb, eqs_cs, Option.map_some, lenT_ofL, lst_ofL, lstSz_ofL, chunk_one, lst_nil, lst_sl, lstSz_sl, lstSz_nil, Bool.and_true, Bool.true_and, Bool.and_false, Bool.false_and, beq_self_eq_true, beq_bb, bne_bb, un_not, un_neg, conv_int, min2_int, max2_int, w64, w32, wu8, wu16, wu32, wu64, tdiv_nn, tmod_nn, cell_zero, cell_succ, cell_v, cells_v, cells_agg, Bool.not_true, Bool.not_false, Int.reduceLT, Int.reduceLE, Int.reduceEq, Int.reduceNeg, Int.reduceAdd, Int.reduceSub, Int.reduceMul, intOf_v, decide_true, decide_false, hX.lenT]; rfl) ?_)
      | (refine ex_bool ?_)
      | (refine ⟨_, CK, ?_⟩)
      | (refine ⟨_, KP, ?_⟩)
      | (refine ⟨_, LM, ?_⟩)
      | (refine And.intro ?_ ?_)
      | (intro hx; have hprop := (show ∀ (p : Prop), p → True from fun _ _ => True.intro) _ hx; clear hprop; first | (cases hx; done) | (exfalso; revert hx; simp (disch := omega) only [decide_eq_true_eq, decide_eq_false_iff_not, Bool.not_eq_true', Bool.not_eq_false', Bool.and_eq_true, Bool.and_eq_false_iff, Int.not_lt, Int.not_le, ne_eq, not_false_eq_true, not_true_eq_false, reduceCtorEq, Bool.true_eq_false, Bool.false_eq_true, beq_iff_eq, bne_iff_ne, beq_eq_false_iff_ne, false_or, or_false, true_and, and_true, hX.lenT]; done) | (simp (disch := omega) only [decide_eq_true_eq, decide_eq_false_iff_not, Bool.not_eq_true', Bool.not_eq_false', Bool.and_eq_true, Bool.and_eq_false_iff, Int.not_lt, Int.not_le, ne_eq, not_false_eq_true, not_true_eq_false, reduceCtorEq, Bool.true_eq_false, Bool.false_eq_true, beq_iff_eq, bne_iff_ne, beq_eq_false_iff_ne, false_or, or_false, true_and, and_true, hX.lenT] at hx; first | (exfalso; omega) | skip) | skip)
      | trivial
      | exact fit_ofL _ _
      | (simp (disch := omega) only [notAgg_v, notAgg_sl, plain_v, fits, fitsOne, fitsCells, xsOf, cell_zero, cell_succ, List.range, List.range.loop, List.map, cond_true, cond_false, D.v.injEq, exists_eq', exists_eq, and_self, and_true, true_and, D.agg.injEq, List.length, exists_eq_left', D.sl.injEq, reduceCtorEq, false_or, true_or, or_true, or_false, cell_zero, cell_succ, cell_v, cells_v, cells_agg, List.length_cons, List.length_nil, hX.lenT]; done))
    all_goals first
      | (exfalso; omega)
      | omega
      | exact fitP hX
      | exact plainP hX
      | exact hX.notAgg
      | exact notAgg_v _
      | exact ⟨_, rfl⟩
      | rfl
      | assumption
      | exact .inr ⟨_, rfl⟩
      | (simp only [leftG]; omega)
      | (rw [h1]; exact Nat.le_refl _)
      | (simp; done)
      | fail
  · have hz : chkF b r.length ps ≠ 0 := fun h => ho (chk_ok.1 h)
    have LM : True := trivial
    repeat' (first
      | (refine ex_some (by simp (disch := omega) only [bin_shr, bin_shl, bin_and, bin_or, bin_xor, len_str, toStr_ofL, bin_add, bin_sub, bin_mul, bin_quo, bin_rem, bin_lss, bin_leq, bin_gtr, bin_geq, bin_eql, bin_neq, eqs_cn, eqs_ci, eqs_cb, eqs_cs, Option.map_some, lenT_ofL, lst_ofL, lstSz_ofL, chunk_one, lst_nil, lst_sl, lstSz_sl, lstSz_nil, Bool.and_true, Bool.true_and, Bool.and_false, Bool.false_and, beq_self_eq_true, beq_bb, bne_bb, un_not, un_neg, conv_int, min2_int, max2_int, w64, w32, wu8, wu16, wu32, wu64, tdiv_nn, tmod_nn, cell_zero, cell_succ, cell_v, cells_v, cells_agg, Bool.not_true, Bool.not_false, Int.reduceLT, Int.reduceLE, Int.reduceEq, Int.reduceNeg, Int.reduceAdd, Int.reduceSub, Int.reduceMul, intOf_v, decide_true, decide_false, hX.lenT]; rfl) ?_)
      | (refine ex_bool ?_)
      | (refine ⟨_, CK, ?_⟩)
      | (refine ⟨_, KP, ?_⟩)
      | (refine ⟨_, LM, ?_⟩)
      | (refine And.intro ?_ ?_)
      | (intro hx; have hprop := (show ∀ (p : Prop), p → True from fun _ _ => True.intro) _ hx; clear hprop; first | (cases hx; done) | (exfalso; revert hx; simp (disch := omega) only [decide_eq_true_eq, decide_eq_false_iff_not, Bool.not_eq_true', Bool.not_eq_false', Bool.and_eq_true, Bool.and_eq_false_iff, Int.not_lt, Int.not_le, ne_eq, not_false_eq_true, not_true_eq_false, reduceCtorEq, Bool.true_eq_false, Bool.false_eq_true, beq_iff_eq, bne_iff_ne, beq_eq_false_iff_ne, false_or, or_false, true_and, and_true, hX.lenT]; done) | (simp (disch := omega) only [decide_eq_true_eq, decide_eq_false_iff_not, Bool.not_eq_true', Bool.not_eq_false', Bool.and_eq_true, Bool.and_eq_false_iff, Int.not_lt, Int.not_le, ne_eq, not_false_eq_true, not_true_eq_false, reduceCtorEq, Bool.true_eq_false, Bool.false_eq_true, beq_iff_eq, bne_iff_ne, beq_eq_false_iff_ne, false_or, or_false, true_and, and_true, hX.lenT] at hx; first | (exfalso; omega) | skip) | skip)
      | trivial
      | exact fit_ofL _ _
      | (simp (disch := omega) only [notAgg_v, notAgg_sl, plain_v, fits, fitsOne, fitsCells, xsOf, cell_zero, cell_succ, List.range, List.range.loop, List.map, cond_true, cond_false, D.v.injEq, exists_eq', exists_eq, and_self, and_true, true_and, D.agg.injEq, List.length, exists_eq_left', D.sl.injEq, reduceCtorEq, false_or, true_or, or_true, or_false, cell_zero, cell_succ, cell_v, cells_v, cells_agg, List.length_cons, List.length_nil, hX.lenT]; done))
    all_goals first
      | (exfalso; omega)
      | omega
      | exact fitP hX
      | exact plainP hX
      | exact hX.notAgg
      | exact notAgg_v _
      | exact ⟨_, rfl⟩
      | rfl
      | assumption
      | exact .inr ⟨_, rfl⟩
      | (simp only [leftG]; omega)
      | (rw [h1]; exact Nat.le_refl _)
      | (simp; done)
      | fail

set_option maxHeartbeats 16000000 in
theorem put_yes (x : D) (ps : List Pt) (b : Int) (r s : List Int) (v b2 n2 : Int) (r2 : List Int) (y : D) (hX : IsL 2 (ps.map ptD) x) (hP : AllB ps) (hm : ps.length ≤ 90000) (hs : s.length ≤ 100000) (ho : (SS.mk b r ps).Ok) (v0 : 0 ≤ v) (v1 : v ≤ 1099511627776) (hc : fromF ⟨b, r, ps⟩ v < toF ⟨b, r, ps⟩ v s) (e1 : b2 = (putF ⟨b, r, ps⟩ v s).b) (e2 : r2 = (putF ⟨b, r, ps⟩ v s).r) (e3 : y = .sl 2 ((putF ⟨b, r, ps⟩ v s).ps.map ptD)) (e4 : n2 = totL (putL ps (freshF ⟨b, r, ps⟩ v s)) - totL ps) : ReadD Try.prog 26 [.agg [.v (.int .i64 b), str r, x], .v (.int .i64 v), str s] [.agg [.v (.int .i64 b2), str r2, y], .v (.int .i64 n2)] := by
  refine read_cond (Lp := (fun k => if k = 11 then some ⟨[67, 10, 14], [], [3, 6, 13, 65, 66, 12], [(13, [0, 1], [])]⟩ else none)) (by kernel_rfl) Try.func26 (by kernel_rfl) (by kernel_rfl) ?_
  rw [vc_put_no x ps b r s v b2 n2 r2 y]
  have hz : chkF b r.length ps = 0 := chk_ok.2 ho
  have h0 := ho.b
  have hb1 := ho.b1
  have hr4 := ho.r
  have hW : W (limF b r.length) b ps := ho.w
  simp only at h0 hb1 hr4
  have CK := check x ps b r hX hP (by omega) (by omega)
  rw [hz] at CK
  have LM := limit x ps b r hX h0.1 hb1 (by omega)
  have hlm : limF b r.length ≤ b + 4096 ∧ limF b r.length ≤ 1099511627776 := by unfold limF; omega
  have hfl := fresh_len hc
  have hF1 : (freshF ⟨b, r, ps⟩ v s).1 = max v b := rfl
  have hputF : putF ⟨b, r, ps⟩ v s = settleF b r (putL ps (freshF ⟨b, r, ps⟩ v s)) := if_pos hc
  have hcut : D.cutS (str s) (some (.v (.int .i64 (max v b - v)))) (some (.v (.int .i64 (min (v + s.length) (limF b r.length) - v)))) = some (str (freshF ⟨b, r, ps⟩ v s).2) := by
    have h9 : max v b < min (v + s.length) (limF b r.length) := hc
    rw [cutS_str s (a := max v b - v) (b := min (v + s.length) (limF b r.length) - v) rfl rfl (by omega) (by omega) (by omega), show (min (v + (s.length : Int)) (limF b r.length) - v).toNat - (max v b - v).toNat = (min (v + s.length) (limF b r.length) - max v b).toNat by omega]
    rfl
  have hc' : max v b < min (v + s.length) (limF b r.length) := hc
  have hfl' : (((freshF ⟨b, r, ps⟩ v s).2.length : Nat) : Int) = min (v + s.length) (limF b r.length) - max v b := hfl
  rw [hputF] at e1 e2 e3
  subst e1; subst e2; subst e3; subst e4
  clear hc hfl hputF
  generalize freshF ⟨b, r, ps⟩ v s = F at hF1 hcut hfl'
  have hef : endP F = F.1 + F.2.length := rfl
  have hne : F.2 ≠ [] := by rw [ne_len]; omega
  have hQl : (putL ps F).length ≤ 100000 := by have := putL_len ps F; omega
  have hQ := (putL_spec (lim := limF b r.length) (last' := b - 1) hW (by omega) (by omega) hne (by omega)).1
  have hQn : putL ps F ≠ [] := by
    intro e
    have := putL_len ps F
    have h2 := (putL_spec (lim := limF b r.length) (last' := b - 1) hW (by omega) (by omega) hne (by omega)).2 F.1
    obtain ⟨z, hz⟩ := at1_some (q := F) (p := F.1) (Int.le_refl _) (by omega)
    rw [e, atL_nil, hz] at h2
    cases hh : atL ps F.1 with
    | none => rw [hh] at h2; cases h2
    | some y => rw [hh] at h2; cases h2
  have hQb : ∀ p ∈ putL ps F, p.2.length ≤ 100000 := by
    intro p hp
    obtain ⟨k, hk, rfl⟩ := List.mem_iff_getElem.1 hp
    have := W_at hQ hk
    simp only [List.getD_eq_getElem?_getD, List.getElem?_eq_getElem hk, Option.getD_some, endP] at this
    omega
  have SE := settle_c hQn h0.1 hb1 (by omega) hQb (r := r)
  have hT : totL ps ≤ 100000 * ps.length := tot_le fun p hp => (hP p hp).2
  have h1 : True := trivial
  repeat' (first
    | (refine ex_some (by simp (disch := omega) only [bin_shr, bin_shl, bin_and, bin_or, bin_xor, len_str, toStr_ofL, bin_add, bin_sub, bin_mul, bin_quo, bin_rem, bin_lss, bin_leq, bin_gtr, bin_geq, bin_eql, bin_neq, eqs_cn, eqs_ci, eqs_cb, eqs_cs, Option.map_some, lenT_ofL, lst_ofL, lstSz_ofL, chunk_one, lst_nil, lst_sl, lstSz_sl, lstSz_nil, Bool.and_true, Bool.true_and, Bool.and_false, Bool.false_and, beq_self_eq_true, beq_bb, bne_bb, un_not, un_neg, conv_int, min2_int, max2_int, w64, w32, wu8, wu16, wu32, wu64, tdiv_nn, tmod_nn, cell_zero, cell_succ, cell_v, cells_v, cells_agg, Bool.not_true, Bool.not_false, Int.reduceLT, Int.reduceLE, Int.reduceEq, Int.reduceNeg, Int.reduceAdd, Int.reduceSub, Int.reduceMul, intOf_v, decide_true, decide_false, hX.lenT, List.length_map]; rfl) ?_)
    | (refine ex_bool ?_)
    | (refine ⟨_, CK, ?_⟩)
    | (refine ⟨_, LM, ?_⟩)
    | (refine ⟨_, hcut, ?_⟩)
    | (refine ⟨_, eC1, ?_⟩)
    | (refine ⟨_, eC2, ?_⟩)
    | (refine ⟨_, SE, ?_⟩)
    | (have := out1; refine ⟨_, C3, ?_⟩)
    | (have := inl1; rw [(K2 (by omega) (by omega)).2]; refine ⟨_, C3 (K2 (by omega) (by omega)).1, ?_⟩)
    | (refine ⟨_, E1, ?_⟩)
    | (refine ⟨_, E2, ?_⟩)
    | (have hj := jl (by omega) (by omega); simp only [endP] at hj; refine ⟨_, J (by omega) (by omega), ?_⟩)
    | (exact i1)
    | (refine ⟨(fun l => ∃ (i first : Nat) (f : Pt), PInv (limF b r.length) b ps (putL ps F) i first f ∧ l = [.v (.int .i64 (i : Nat)), .v (.int .i64 (first : Nat)), .v (.int .i64 (addN ps i first f)), .v (.int .i64 f.1), str f.2]), leftG ps.length, ?_⟩)
    | (refine fun (r1 r2 r3 r4 r5 : D) (hI : (fun l => ∃ (i first : Nat) (f : Pt), PInv (limF b r.length) b ps (putL ps F) i first f ∧ l = [.v (.int .i64 (i : Nat)), .v (.int .i64 (first : Nat)), .v (.int .i64 (addN ps i first f)), .v (.int .i64 f.1), str f.2]) [r1, r2, r3, r4, r5]) => ?_; obtain ⟨i, first, f, hI0, hl0⟩ := hI; simp only [List.cons.injEq, and_true] at hl0; obtain ⟨rfl, rfl, rfl, rfl, rfl⟩ := hl0; by_cases hlt : i < ps.length <;> first | (have hk1 : i < ps.length := (by omega); have h1 := pt_get hX hk1; have i1 := pt_inb hX hk1; have hb := pt_in hP hk1; have hp := W_at hW hk1; have fl := hI0.li; have fb := hI0.bb; have fr := ne_len.1 hI0.ne; have hep : endP (ps.getD i (0, [])) = (ps.getD i (0, [])).1 + (ps.getD i (0, [])).2.length := rfl; have hef : endP f = f.1 + f.2.length := rfl; have K1 := hI0.skip hk1; have K2 := hI0.stop hk1; have K3 := hI0.join hW hk1; have hN : addN ps i first f = (totL (ps.take first) : Int) + f.2.length - totL (ps.take i) := rfl; have hN1 := tot_split ps first; have hN2 := tot_split ps i; obtain ⟨c1, eC1, hC1⟩ := cutLo hX (k := first) (by have := hI0.fi; omega); obtain ⟨c2, eC2, hC2⟩ := cutHi hX (k := i) (by omega); have C3 := fun hR => cat_c (R := putL ps F) hC1 hC2 hR hI0.ne hQl; have jl := fun h1 h2 => (join_spec (PInv.touch (ps := ps) (i := i) (f := f) h1 h2)); have jf := hI0.ne; generalize addN ps i first f = N at K1 K2 K3 hN ⊢; generalize ps.getD i (0, []) = p at h1 hb hp hep K1 K2 K3 jl; obtain ⟨a, t⟩ := p; obtain ⟨c, u⟩ := f; simp only at hb hp hep hef fl fb fr hN C3 K1 K2 K3 jl; have E1 := ends1 a t (by omega) (by omega) hb.2; have E2 := ends1 c u (by omega) (by omega) (by omega); have J := fun w1 w2 => joined a c t u (by omega) (by omega) (by omega) (by omega) hb.2 (by omega) w1 w2; rw [hep, hef] at K2 K3 jl; rw [hep] at K1; simp only [h1, ptD, Nat.zero_add, cell_zero, cell_succ, cells_agg, List.length_cons, List.length_nil]; have inl1 : True := trivial) | (have hkk : i = ps.length := (by have := hI0.ii; omega); subst hkk; have K2 := hI0.last rfl; obtain ⟨c1, eC1, hC1⟩ := cutLo hX (k := first) (by have := hI0.fi; omega); obtain ⟨c2, eC2, hC2⟩ := cutHi hX (k := ps.length) (by omega); have C3 := cat_c (R := putL ps F) hC1 hC2 K2.1 hI0.ne hQl; rw [K2.2]; have h1 : True := trivial; have out1 : True := trivial))
    | (exact ⟨0, 0, F, ⟨Nat.zero_le _, Nat.le_refl _, .inl rfl, by omega, hne, by omega, rfl⟩, by rw [add0, hF1]; rfl⟩)
    | (have := inl1; refine ⟨i + 1, i + 1, (c, u), (K1 (by omega)).1, ?_⟩; rw [(K1 (by omega)).2])
    | (have := inl1; refine ⟨i + 1, first, joinF (a, t) (c, u), (K3 (by omega) (by omega)).1, ?_⟩; rw [(K3 (by omega) (by omega)).2])
    | (refine And.intro ?_ ?_)
    | (intro hx; have hprop := (show ∀ (p : Prop), p → True from fun _ _ => True.intro) _ hx; clear hprop; first | (cases hx; done) | (exfalso; revert hx; simp (disch := omega) only [decide_eq_true_eq, decide_eq_false_iff_not, Bool.not_eq_true', Bool.not_eq_false', Bool.and_eq_true, Bool.and_eq_false_iff, Int.not_lt, Int.not_le, ne_eq, not_false_eq_true, not_true_eq_false, reduceCtorEq, Bool.true_eq_false, Bool.false_eq_true, beq_iff_eq, bne_iff_ne, beq_eq_false_iff_ne, false_or, or_false, true_and, and_true, hX.lenT, List.length_map]; done) | (simp (disch := omega) only [decide_eq_true_eq, decide_eq_false_iff_not, Bool.not_eq_true', Bool.not_eq_false', Bool.and_eq_true, Bool.and_eq_false_iff, Int.not_lt, Int.not_le, ne_eq, not_false_eq_true, not_true_eq_false, reduceCtorEq, Bool.true_eq_false, Bool.false_eq_true, beq_iff_eq, bne_iff_ne, beq_eq_false_iff_ne, false_or, or_false, true_and, and_true, hX.lenT, List.length_map] at hx; first | (exfalso; omega) | skip) | skip)
    | trivial
    | exact fit_ofL _ _
    | (simp (disch := omega) only [notAgg_v, notAgg_sl, plain_v, fits, fitsOne, fitsCells, xsOf, cell_zero, cell_succ, List.range, List.range.loop, List.map, cond_true, cond_false, D.v.injEq, exists_eq', exists_eq, and_self, and_true, true_and, D.agg.injEq, List.length, exists_eq_left', D.sl.injEq, reduceCtorEq, false_or, true_or, or_true, or_false, cell_zero, cell_succ, cell_v, cells_v, cells_agg, List.length_cons, List.length_nil, hX.lenT, List.length_map]; done))
  all_goals first
    | (exfalso; omega)
    | omega
    | exact fitP hX
    | exact plainP hX
    | exact hX.notAgg
    | exact notAgg_v _
    | exact ⟨_, rfl⟩
    | rfl
    | assumption
    | exact .inr ⟨_, rfl⟩
    | (simp only [leftG]; omega)
    | (rw [h1]; exact Nat.le_refl _)
    | (simp; done)
    | fail

end Go.Proofs.Ytjdemohgegldaaa