/-
  Layer 2: numbers of a text.
-/
import Derived.Test.YtojbpgkjenghaaaT3
namespace Go.Proofs.Ytojbpgkjenghaaa
open Go.RowKit
set_option linter.unusedSimpArgs false
set_option linter.unusedVariables false


theorem getF_cases (l : List Int) : (getF l = (0, 0, 3)) ∨ (getF l = (0, 0, 4)) ∨ (l ≠ [] ∧ sz0 (l.getD 0 0) ≤ l.length ∧ szF (vF l (sz0 (l.getD 0 0))) = (sz0 (l.getD 0 0) : Nat) ∧ getF l = (vF l (sz0 (l.getD 0 0)), ((sz0 (l.getD 0 0) : Nat) : Int), (0 : Int))) := by
  unfold getF
  by_cases h : l = []
  · left; rw [if_pos h]
  · rw [if_neg h]
    by_cases h2 : l.length < sz0 (l.getD 0 0)
    · left; rw [if_pos h2]
    · rw [if_neg h2]
      by_cases h3 : szF (vF l (sz0 (l.getD 0 0))) = (sz0 (l.getD 0 0) : Nat)
      · right; right; rw [if_pos h3]; exact ⟨h, by omega, h3, rfl⟩
      · right; left; rw [if_neg h3]
def allF : Nat → List Int → List Int × Int
  | 0, _ => ([], 0)
  | f + 1, l => if l = [] then ([], 0) else if (getF l).2.2 ≠ 0 then ([], (getF l).2.2) else
    if (allF f (l.drop (getF l).2.1.toNat)).2 ≠ 0 then ([], (allF f (l.drop (getF l).2.1.toNat)).2) else ((getF l).1 :: (allF f (l.drop (getF l).2.1.toNat)).1, 0)
theorem allF_succ (f : Nat) (l : List Int) : allF (f + 1) l = if l = [] then ([], 0) else if (getF l).2.2 ≠ 0 then ([], (getF l).2.2) else
    if (allF f (l.drop (getF l).2.1.toNat)).2 ≠ 0 then ([], (allF f (l.drop (getF l).2.1.toNat)).2) else ((getF l).1 :: (allF f (l.drop (getF l).2.1.toNat)).1, 0) := rfl
def A (l : List Int) : List Int × Int := allF (l.length + 1) l
theorem getF_ok {l : List Int} (h : (getF l).2.2 = 0) : ∃ k : Nat, (getF l).2.1 = (k : Nat) ∧ 1 ≤ k ∧ k ≤ 8 ∧ k ≤ l.length := by
  rcases getF_cases l with e | e | ⟨_, h2, _, e⟩
  · rw [e] at h; cases h
  · rw [e] at h; cases h
  · exact ⟨sz0 (l.getD 0 0), by rw [e], (sz0_le _).1, (sz0_le _).2, h2⟩
theorem allF_more : ∀ (f g : Nat) (l : List Int), l.length < f → l.length < g → allF f l = allF g l
  | 0, _, l, h, _ => absurd h (Nat.not_lt_zero _)
  | _, 0, l, _, h => absurd h (Nat.not_lt_zero _)
  | f + 1, g + 1, l, h1, h2 => by
    simp only [allF]
    by_cases hl : l = []
    · rw [if_pos hl, if_pos hl]
    · rw [if_neg hl, if_neg hl]
      by_cases he : (getF l).2.2 ≠ 0
      · rw [if_pos he, if_pos he]
      · rw [if_neg he, if_neg he]
        obtain ⟨k, h3, h4, h5, h6⟩ := getF_ok (l := l) (by simpa using he)
        rw [allF_more f g (l.drop (getF l).2.1.toNat) (by rw [h3, List.length_drop]; simp; omega) (by rw [h3, List.length_drop]; simp; omega)]
theorem A_nil : A [] = ([], 0) := rfl
theorem A_bad {l : List Int} (hl : l ≠ []) (h : (getF l).2.2 ≠ 0) : A l = ([], (getF l).2.2) := by
  unfold A; rw [allF_succ l.length l, if_neg hl, if_pos h]
theorem A_ok {l : List Int} (hl : l ≠ []) (h : (getF l).2.2 = 0) : A l = if (A (l.drop (getF l).2.1.toNat)).2 ≠ 0 then ([], (A (l.drop (getF l).2.1.toNat)).2) else ((getF l).1 :: (A (l.drop (getF l).2.1.toNat)).1, 0) := by
  obtain ⟨k, h3, h4, h5, h6⟩ := getF_ok h
  unfold A
  rw [allF_succ l.length l, if_neg hl, if_neg (by simp [h])]
  rw [allF_more l.length ((l.drop (getF l).2.1.toNat).length + 1) (l.drop (getF l).2.1.toNat) (by rw [h3, List.length_drop]; simp; omega) (by omega)]
def comb (pre : List Int) (R : List Int × Int) : List Int × Int := if R.2 ≠ 0 then ([], R.2) else (pre ++ R.1, 0)
theorem comb_A {pre l : List Int} (hl : l ≠ []) (h : (getF l).2.2 = 0) : comb pre (A l) = comb (pre ++ [(getF l).1]) (A (l.drop (getF l).2.1.toNat)) := by
  rw [A_ok hl h]
  unfold comb
  by_cases h2 : (A (l.drop (getF l).2.1.toNat)).2 = 0
  · simp [h2]
  · simp [h2]
theorem A_comb (l : List Int) : A l = comb [] (A l) := by
  unfold comb
  by_cases h : (A l).2 = 0
  · rw [if_neg (by simp [h])]; simp [← h]
  · rw [if_pos h]
    by_cases hl : l = []
    · subst hl; exact absurd rfl h
    · by_cases he : (getF l).2.2 = 0
      · rw [A_ok hl he]
        by_cases h2 : (A (l.drop (getF l).2.1.toNat)).2 = 0
        · rw [A_ok hl he] at h; simp [h2] at h
        · simp [h2]
      · rw [A_bad hl he]
def sameL (a b : List Int) : Bool := decide (a = b)
theorem take_eq_step {a b : List Int} {k : Nat} (hk : k < a.length) (hl : a.length = b.length) (h : a.take k = b.take k) : a.take (k + 1) = b.take (k + 1) ↔ a.getD k 0 = b.getD k 0 := by
  rw [List.take_succ_eq_append_getElem hk, List.take_succ_eq_append_getElem (l := b) (by omega), h]
  have hk2 : k < b.length := by omega
  rw [List.append_right_inj]
  simp [List.getD, hk, hk2]
def lenS : List D → Nat
  | .v (.string s) :: _ => s.size
  | _ => 0
theorem lenS_str (l : List Int) (r : List D) : lenS (str l :: r) = l.length := size_mkStr l
theorem isE {l : List Int} (hB : Bytes l) : D.bin .neq (str l) (.v (.string ⟨#[]⟩)) = some (.v (.bool (!decide (l = [])))) := bin_sneq hB Bytes.nil

theorem vc_all (l : List Int) : Cond Try.prog (fun k => if k = 2 then some ⟨[0], [4], [], []⟩ else none) Try.f16 [str l] [ofL 1 (ints .i64 (A l).1), .v (.int .i64 (A l).2)] = ((NotAgg (str l) ∧ True) ∧ ∃ (I : List D → Prop), ∃ (μ : List D → Nat), ((str l = str l ∧ true = true ∧ True) ∧ ((true = true ∧ D.v nilS = D.v nilS) ∧ True) ∧ I [str l, D.v nilS]) ∧ ∀ (r r_1 : D), I [r, r_1] → ∃ (r_2 : D), D.bin BinOp.neq r (D.v (Value.string { data := { toList := [] } })) = some r_2 ∧ ∃ (b : Bool), r_2 = D.v (Value.bool b) ∧ (b = true → ∃ (r_3 : D), ∃ (r_4 : D), ∃ (r_5 : D), PureD Try.prog 14 [r] [r_3, r_4, r_5] ∧ fits [(false, [none]), (false, [none]), (false, [none])] [r_3, r_4, r_5] ∧ ∃ (r_6 : D), D.bin BinOp.neq r_5 (D.v (Value.int IntKind.i64 0)) = some r_6 ∧ ∃ (b : Bool), r_6 = D.v (Value.bool b) ∧ (b = true → (PlainD (D.v nilS) ∧ (∃ (y : Value), r_5 = D.v y) ∧ True) ∧ [D.v nilS, r_5] = [ofL 1 (ints IntKind.i64 (A l).1), D.v (Value.int IntKind.i64 (A l).snd)]) ∧ (b = false → ∃ (ls : List D), r_1.lst = some ls ∧ ∃ (lx : List D), D.lstSz 1 (D.sl 1 (chunks false 1 1 [r_3])) = some lx ∧ (ls.length + lx.length) * 8 ≤ 1099511627776 ∧ ∃ (r_7 : D), r.cutS (some r_4) none = some r_7 ∧ (r_7 = r_7 ∧ true = true ∧ True) ∧ ((true = true ∧ D.app 1 r_1 lx = D.app 1 r_1 lx) ∧ True) ∧ I [r_7, D.app 1 r_1 lx] ∧ μ [r_7, D.app 1 r_1 lx] < μ [r, r_1])) ∧ (b = false → (PlainD r_1 ∧ True ∧ True) ∧ [r_1, D.v (Value.int IntKind.i64 0)] = [ofL 1 (ints IntKind.i64 (A l).1), D.v (Value.int IntKind.i64 (A l).snd)])) := by kernel_rfl
set_option maxHeartbeats 4000000 in
theorem all (l : List Int) (hB : Bytes l) (hl : l.length ≤ 1000) : PureD Try.prog 16 [str l] [ofL 1 (ints .i64 (A l).1), .v (.int .i64 (A l).2)] := by
  refine pure_cond (Lp := (fun k => if k = 2 then some ⟨[0], [4], [], []⟩ else none)) (by kernel_rfl) Try.func16 (by kernel_rfl) (by kernel_rfl) ?_
  rw [vc_all l]
  have e0 : A l = comb [] (A l) := A_comb l
  repeat' (first
    | (refine ex_some (by simp (disch := omega) only [bin_shr, bin_shl, bin_and, bin_or, bin_xor, len_str, toStr_ofL, bin_add, bin_sub, bin_mul, bin_quo, bin_rem, bin_lss, bin_leq, bin_gtr, bin_geq, bin_eql, bin_neq, eqs_cn, eqs_ci, eqs_cb, eqs_cs, Option.map_some, lenT_ofL, lst_ofL, lstSz_ofL, chunk_one, lst_nil, lst_sl, lstSz_sl, lstSz_nil, Bool.and_true, Bool.true_and, Bool.and_false, Bool.false_and, beq_self_eq_true, beq_bb, bne_bb, un_not, un_neg, conv_int, min2_int, max2_int, w64, w32, wu8, wu16, wu32, wu64, tdiv_nn, tmod_nn, cell_zero, cell_succ, cell_v, cells_v, cells_agg, Bool.not_true, Bool.not_false, Int.reduceLT, Int.reduceLE, Int.reduceEq, Int.reduceNeg, Int.reduceAdd, Int.reduceSub, Int.reduceMul, intOf_v, decide_true, decide_false]; rfl) ?_)
    | (refine ex_bool ?_)
    | (exact notAgg_v _)
    | (refine ⟨(fun r => ∃ m pre : List Int, Bytes m ∧ pre.length + m.length ≤ l.length ∧ A l = comb pre (A m) ∧ r = [str m, ofL 1 (ints .i64 pre)]), lenS, ?_⟩)
    | (refine fun (r2 r3 : D) (hI : (fun r => ∃ m pre : List Int, Bytes m ∧ pre.length + m.length ≤ l.length ∧ A l = comb pre (A m) ∧ r = [str m, ofL 1 (ints .i64 pre)]) [r2, r3]) => ?_; obtain ⟨m, pre, hmB, hml, hA, hl0⟩ := hI; simp only [List.cons.injEq, and_true] at hl0; obtain ⟨rfl, rfl⟩ := hl0; by_cases hlt : 0 < m.length <;> first | (have hlt2 : 0 < m.length := (by omega); have hm0 : m ≠ [] := List.length_pos_iff.1 hlt2; have C1 := get m hmB (by omega); rcases getF_cases m with hg | hg | hg; all_goals (first | (have hbad := A_bad hm0 (by rw [hg]; decide); rw [hg] at C1 hbad; rw [hbad] at hA) | (obtain ⟨hg1, hg2, hg3, hg4⟩ := hg; have hs := sz0_le (m.getD 0 0); have hcm := comb_A (pre := pre) hm0 (by rw [hg4]); rw [hg4] at C1 hcm; generalize sz0 (m.getD 0 0) = k at C1 hcm hg2 hs)); all_goals (have inl : True := trivial)) | (have hm0 : m = [] := List.eq_nil_of_length_eq_zero (by omega); subst hm0; rw [A_nil] at hA; have hA2 : A l = (pre, 0) := (by rw [hA]; simp [comb]); have inl2 : True := trivial))
    | (refine ex_some (isE hmB) ?_)
    | (refine ⟨_, _, _, C1, ?_⟩)
    | (have := inl; refine ex_some (cutS_from m .i64 (a := k) (by omega)) ?_)
    | (have := inl; refine ⟨m.drop k, pre ++ [vF m k], hmB.drop k, ?_, ?_, ?_⟩)
    | (exact ⟨l, [], hB, by simp, e0, rfl⟩)
    | (refine And.intro ?_ ?_)
    | (intro hx; first | (cases hx; done) | (exfalso; revert hx; simp (disch := omega) only [decide_eq_true_eq, decide_eq_false_iff_not, Bool.not_eq_true', Bool.not_eq_false', Bool.and_eq_true, Bool.and_eq_false_iff, Int.not_lt, Int.not_le, ne_eq, not_false_eq_true, not_true_eq_false, reduceCtorEq, Bool.true_eq_false, Bool.false_eq_true, beq_iff_eq, bne_iff_ne, beq_eq_false_iff_ne, false_or, or_false, true_and, and_true]; done) | (simp (disch := omega) only [decide_eq_true_eq, decide_eq_false_iff_not, Bool.not_eq_true', Bool.not_eq_false', Bool.and_eq_true, Bool.and_eq_false_iff, Int.not_lt, Int.not_le, ne_eq, not_false_eq_true, not_true_eq_false, reduceCtorEq, Bool.true_eq_false, Bool.false_eq_true, beq_iff_eq, bne_iff_ne, beq_eq_false_iff_ne, false_or, or_false, true_and, and_true] at hx; first | (exfalso; omega) | skip) | skip)
    | trivial
    | exact fit_ofL _ _
    | (simp (disch := omega) only [notAgg_v, notAgg_sl, plain_v, fits, fitsOne, fitsCells, xsOf, cell_zero, cell_succ, List.range, List.range.loop, List.map, cond_true, cond_false, D.v.injEq, exists_eq', exists_eq, and_self, and_true, true_and, D.agg.injEq, List.length, exists_eq_left', D.sl.injEq, reduceCtorEq, false_or, true_or, or_true, or_false, cell_zero, cell_succ, cell_v, cells_v, cells_agg, List.length_cons, List.length_nil]; done))
  all_goals first
    | (exfalso; omega)
    | omega
    | exact fit_ofL _ _
    | exact plain_ofL (ints_plain _ _)
    | (rw [hA2]; done)
    | (rw [hA]; rfl)
    | (rw [hA]; simp [comb, ofL, ints]; done)
    | (simp only [ints_length, List.length_cons, List.length_nil]; omega)
    | (simp only [lenS_str, List.length_drop]; omega)
    | (simp only [List.length_append, List.length_drop, List.length_cons, List.length_nil]; omega)
    | (rw [hA, hcm]; simp; done)
    | (simp [app_ofL, ints]; done)
    | (simp; done)
    | fail

theorem vc_rall (l : List Int) : Cond Try.prog (fun k => if k = 3 then some ⟨[5], [4], [0], []⟩ else none) Try.f17 [str l] [ofL 1 (ints .i64 (A l).1), .v (.int .i64 (A l).2)] = ((NotAgg (str l) ∧ True) ∧ ∃ (I : List D → Prop), ∃ (μ : List D → Nat), ((D.v (Value.int IntKind.i64 0) = D.v (Value.int IntKind.i64 0) ∧ true = true ∧ str l = str l ∧ True) ∧ ((true = true ∧ D.v nilS = D.v nilS) ∧ True) ∧ I [D.v (Value.int IntKind.i64 0), D.v nilS]) ∧ ∀ (r r_1 : D), I [r, r_1] → ∃ (r_2 : D), D.lenT TypeDesc.string (str l) = some r_2 ∧ ∃ (r_3 : D), D.bin BinOp.lss r r_2 = some r_3 ∧ ∃ (b : Bool), r_3 = D.v (Value.bool b) ∧ (b = true → ∃ (r_4 : D), (str l).cutS (some r) none = some r_4 ∧ ∃ (r_5 : D), ∃ (r_6 : D), ∃ (r_7 : D), PureD Try.prog 15 [r_4] [r_5, r_6, r_7] ∧ fits [(false, [none]), (false, [none]), (false, [none])] [r_5, r_6, r_7] ∧ ∃ (r_8 : D), D.bin BinOp.neq r_7 (D.v (Value.int IntKind.i64 0)) = some r_8 ∧ ∃ (b : Bool), r_8 = D.v (Value.bool b) ∧ (b = true → (PlainD (D.v nilS) ∧ (∃ (y : Value), r_7 = D.v y) ∧ True) ∧ [D.v nilS, r_7] = [ofL 1 (ints IntKind.i64 (A l).1), D.v (Value.int IntKind.i64 (A l).snd)]) ∧ (b = false → ∃ (ls : List D), r_1.lst = some ls ∧ ∃ (lx : List D), D.lstSz 1 (D.sl 1 (chunks false 1 1 [r_5])) = some lx ∧ (ls.length + lx.length) * 8 ≤ 1099511627776 ∧ ∃ (r_9 : D), D.bin BinOp.add r r_6 = some r_9 ∧ (r_9 = r_9 ∧ true = true ∧ str l = str l ∧ True) ∧ ((true = true ∧ D.app 1 r_1 lx = D.app 1 r_1 lx) ∧ True) ∧ I [r_9, D.app 1 r_1 lx] ∧ μ [r_9, D.app 1 r_1 lx] < μ [r, r_1])) ∧ (b = false → (PlainD r_1 ∧ True ∧ True) ∧ [r_1, D.v (Value.int IntKind.i64 0)] = [ofL 1 (ints IntKind.i64 (A l).1), D.v (Value.int IntKind.i64 (A l).snd)])) := by kernel_rfl
set_option maxHeartbeats 4000000 in
theorem rall (l : List Int) (hB : Bytes l) (hl : l.length ≤ 1000) : PureD Try.prog 17 [str l] [ofL 1 (ints .i64 (A l).1), .v (.int .i64 (A l).2)] := by
  refine pure_cond (Lp := (fun k => if k = 3 then some ⟨[5], [4], [0], []⟩ else none)) (by kernel_rfl) Try.func17 (by kernel_rfl) (by kernel_rfl) ?_
  rw [vc_rall l]
  have e0 : A l = comb [] (A l) := A_comb l
  repeat' (first
    | (refine ex_some (by simp (disch := omega) only [bin_shr, bin_shl, bin_and, bin_or, bin_xor, len_str, toStr_ofL, bin_add, bin_sub, bin_mul, bin_quo, bin_rem, bin_lss, bin_leq, bin_gtr, bin_geq, bin_eql, bin_neq, eqs_cn, eqs_ci, eqs_cb, eqs_cs, Option.map_some, lenT_ofL, lst_ofL, lstSz_ofL, chunk_one, lst_nil, lst_sl, lstSz_sl, lstSz_nil, Bool.and_true, Bool.true_and, Bool.and_false, Bool.false_and, beq_self_eq_true, beq_bb, bne_bb, un_not, un_neg, conv_int, min2_int, max2_int, w64, w32, wu8, wu16, wu32, wu64, tdiv_nn, tmod_nn, cell_zero, cell_succ, cell_v, cells_v, cells_agg, Bool.not_true, Bool.not_false, Int.reduceLT, Int.reduceLE, Int.reduceEq, Int.reduceNeg, Int.reduceAdd, Int.reduceSub, Int.reduceMul, intOf_v, decide_true, decide_false]; rfl) ?_)
    | (refine ex_bool ?_)
    | (exact notAgg_v _)
    | (refine ⟨(fun r => ∃ p : Nat, ∃ pre : List Int, p ≤ l.length ∧ pre.length ≤ p ∧ A l = comb pre (A (l.drop p)) ∧ r = [.v (.int .i64 (p : Nat)), ofL 1 (ints .i64 pre)]), leftG l.length, ?_⟩)
    | (refine fun (r2 r3 : D) (hI : (fun r => ∃ p : Nat, ∃ pre : List Int, p ≤ l.length ∧ pre.length ≤ p ∧ A l = comb pre (A (l.drop p)) ∧ r = [.v (.int .i64 (p : Nat)), ofL 1 (ints .i64 pre)]) [r2, r3]) => ?_; obtain ⟨p, pre, hp, hml, hA, hl0⟩ := hI; simp only [List.cons.injEq, and_true] at hl0; obtain ⟨rfl, rfl⟩ := hl0; by_cases hlt : p < l.length <;> first | (have hp1 : p < l.length := (by omega); have hmB := hB.drop p; have hc := cutS_from l .i64 (a := p) (by omega); have hdr : (l.drop p).length = l.length - p := List.length_drop; have hm0 : l.drop p ≠ [] := List.length_pos_iff.1 (by omega); have hdd : ∀ k, (l.drop p).drop k = l.drop (p + k) := fun k => List.drop_drop; generalize l.drop p = m at hmB hc hdr hm0 hA hdd; have C1 := rget m hmB (by omega); rcases getF_cases m with hg | hg | hg; all_goals (first | (have hbad := A_bad hm0 (by rw [hg]; decide); rw [hg] at C1 hbad; rw [hbad] at hA) | (obtain ⟨hg1, hg2, hg3, hg4⟩ := hg; have hs := sz0_le (m.getD 0 0); have hcm := comb_A (pre := pre) hm0 (by rw [hg4]); rw [hg4] at C1 hcm; generalize sz0 (m.getD 0 0) = k at C1 hcm hg2 hs)); all_goals (have inl : True := trivial)) | (have hpp : p = l.length := (by omega); subst hpp; rw [List.drop_length, A_nil] at hA; have hA2 : A l = (pre, 0) := (by rw [hA]; simp [comb]); have inl2 : True := trivial))
    | (refine ex_some hc ?_)
    | (refine ⟨_, _, _, C1, ?_⟩)
    | (have := inl; refine ⟨p + k, pre ++ [vF m k], by omega, ?_, ?_, ?_⟩)
    | (refine ⟨0, [], Nat.zero_le _, Nat.zero_le _, e0, rfl⟩)
    | (refine And.intro ?_ ?_)
    | (intro hx; first | (cases hx; done) | (exfalso; revert hx; simp (disch := omega) only [decide_eq_true_eq, decide_eq_false_iff_not, Bool.not_eq_true', Bool.not_eq_false', Bool.and_eq_true, Bool.and_eq_false_iff, Int.not_lt, Int.not_le, ne_eq, not_false_eq_true, not_true_eq_false, reduceCtorEq, Bool.true_eq_false, Bool.false_eq_true, beq_iff_eq, bne_iff_ne, beq_eq_false_iff_ne, false_or, or_false, true_and, and_true]; done) | (simp (disch := omega) only [decide_eq_true_eq, decide_eq_false_iff_not, Bool.not_eq_true', Bool.not_eq_false', Bool.and_eq_true, Bool.and_eq_false_iff, Int.not_lt, Int.not_le, ne_eq, not_false_eq_true, not_true_eq_false, reduceCtorEq, Bool.true_eq_false, Bool.false_eq_true, beq_iff_eq, bne_iff_ne, beq_eq_false_iff_ne, false_or, or_false, true_and, and_true] at hx; first | (exfalso; omega) | skip) | skip)
    | trivial
    | exact fit_ofL _ _
    | (simp (disch := omega) only [notAgg_v, notAgg_sl, plain_v, fits, fitsOne, fitsCells, xsOf, cell_zero, cell_succ, List.range, List.range.loop, List.map, cond_true, cond_false, D.v.injEq, exists_eq', exists_eq, and_self, and_true, true_and, D.agg.injEq, List.length, exists_eq_left', D.sl.injEq, reduceCtorEq, false_or, true_or, or_true, or_false, cell_zero, cell_succ, cell_v, cells_v, cells_agg, List.length_cons, List.length_nil]; done))
  all_goals first
    | (exfalso; omega)
    | omega
    | exact fit_ofL _ _
    | exact plain_ofL (ints_plain _ _)
    | (rw [hA2]; done)
    | (rw [hA]; rfl)
    | (rw [hA]; simp [comb, ofL, ints]; done)
    | (simp only [ints_length, List.length_cons, List.length_nil]; omega)
    | (simp only [lenS_str, List.length_drop]; omega)
    | (simp only [List.length_append, List.length_drop, List.length_cons, List.length_nil]; omega)
    | (rw [hA, hcm, ← hdd]; simp; done)
    | (simp [app_ofL, ints]; done)
    | (simp only [leftG]; omega)
    | (simp; done)
    | fail

theorem vc_same (x y : D) (a b : List Int) : Cond Try.prog (fun k => if k = 4 then some ⟨[5], [], [0, 1], []⟩ else none) Try.f18 [x, y] [.v (.bool (sameL a b))] = ((NotAgg x ∧ NotAgg y ∧ True) ∧ ∃ (r : D), D.lenT (TypeDesc.slice 3) x = some r ∧ ∃ (r_1 : D), D.lenT (TypeDesc.slice 3) y = some r_1 ∧ ∃ (r_2 : D), D.bin BinOp.neq r r_1 = some r_2 ∧ ∃ (b_1 : Bool), r_2 = D.v (Value.bool b_1) ∧ (b_1 = true → (True ∧ True) ∧ [D.v (Value.bool false)] = [D.v (Value.bool (sameL a b))]) ∧ (b_1 = false → ∃ (I : List D → Prop), ∃ (μ : List D → Nat), ((D.v (Value.int IntKind.i64 0) = D.v (Value.int IntKind.i64 0) ∧ x = x ∧ y = y ∧ True) ∧ True ∧ I [D.v (Value.int IntKind.i64 0)]) ∧ ∀ (r : D), I [r] → ∃ (r_3 : D), D.lenT (TypeDesc.slice 3) x = some r_3 ∧ ∃ (r_4 : D), D.bin BinOp.lss r r_3 = some r_4 ∧ ∃ (b_2 : Bool), r_4 = D.v (Value.bool b_2) ∧ (b_2 = true → D.inb 1 x r ∧ 0 + 1 ≤ (x.at_ r).cells.length ∧ D.inb 1 y r ∧ 0 + 1 ≤ (y.at_ r).cells.length ∧ ∃ (r_5 : D), D.bin BinOp.neq ((x.at_ r).cell 0) ((y.at_ r).cell 0) = some r_5 ∧ ∃ (b_3 : Bool), r_5 = D.v (Value.bool b_3) ∧ (b_3 = true → (True ∧ True) ∧ [D.v (Value.bool false)] = [D.v (Value.bool (sameL a b))]) ∧ (b_3 = false → ∃ (r_6 : D), D.bin BinOp.add r (D.v (Value.int IntKind.i64 1)) = some r_6 ∧ (r_6 = r_6 ∧ x = x ∧ y = y ∧ True) ∧ True ∧ I [r_6] ∧ μ [r_6] < μ [r])) ∧ (b_2 = false → (True ∧ True) ∧ [D.v (Value.bool true)] = [D.v (Value.bool (sameL a b))]))) := by kernel_rfl
set_option maxHeartbeats 4000000 in
theorem same (x y : D) (a b : List Int) (hX : IsL 1 (ints .i64 a) x) (hY : IsL 1 (ints .i64 b) y) (ha : a.length ≤ 100000) (hb : b.length ≤ 100000) : PureD Try.prog 18 [x, y] [.v (.bool (sameL a b))] := by
  refine pure_cond (Lp := (fun k => if k = 4 then some ⟨[5], [], [0, 1], []⟩ else none)) (by kernel_rfl) Try.func18 (by kernel_rfl) (by kernel_rfl) ?_
  rw [vc_same x y a b]
  simp only [hX.notAgg, hY.notAgg, hX.lenT, hY.lenT, ints_length, Option.some.injEq, exists_eq_left']
  by_cases hab : a.length = b.length
  · repeat' (first
      | (refine ex_some (by simp (disch := omega) only [bin_shr, bin_shl, bin_and, bin_or, bin_xor, len_str, toStr_ofL, bin_add, bin_sub, bin_mul, bin_quo, bin_rem, bin_lss, bin_leq, bin_gtr, bin_geq, bin_eql, bin_neq, eqs_cn, eqs_ci, eqs_cb, eqs_cs, Option.map_some, lenT_ofL, lst_ofL, lstSz_ofL, chunk_one, lst_nil, lst_sl, lstSz_sl, lstSz_nil, Bool.and_true, Bool.true_and, Bool.and_false, Bool.false_and, beq_self_eq_true, beq_bb, bne_bb, un_not, un_neg, conv_int, min2_int, max2_int, w64, w32, wu8, wu16, wu32, wu64, tdiv_nn, tmod_nn, cell_zero, cell_succ, cell_v, cells_v, cells_agg, Bool.not_true, Bool.not_false, Int.reduceLT, Int.reduceLE, Int.reduceEq, Int.reduceNeg, Int.reduceAdd, Int.reduceSub, Int.reduceMul, intOf_v, decide_true, decide_false]; rfl) ?_)
      | (refine ex_bool ?_)
      | (refine ⟨(fun r => ∃ k : Nat, k ≤ a.length ∧ a.take k = b.take k ∧ r = [.v (.int .i64 (k : Nat))]), leftG a.length, ?_⟩)
      | (refine fun (r2 : D) (hI : (fun r => ∃ k : Nat, k ≤ a.length ∧ a.take k = b.take k ∧ r = [.v (.int .i64 (k : Nat))]) [r2]) => ?_; obtain ⟨k, hk, hek, hl0⟩ := hI; simp only [List.cons.injEq, and_true] at hl0; subst hl0; by_cases hlt : k < a.length <;> first | (have hka : k < a.length := (by omega); have h1 := hX.at_ints hka; have h2 := hY.at_ints (k := k) (by omega); have i1 := hX.inb_ints hka; have i2 := hY.inb_ints (k := k) (by omega); have hst := take_eq_step hka hab hek; generalize a.getD k 0 = u at h1 hst; generalize b.getD k 0 = v at h2 hst; simp only [h1, h2, cell_v, cells_v]; have inl : True := trivial) | (have hkk : k = a.length := (by omega); subst hkk; rw [List.take_length, hab, List.take_length] at hek; have hsm : sameL a b = true := (by simp [sameL, hek]); have inl2 : True := trivial))
      | (exact i1)
      | (exact i2)
      | (refine ⟨0, Nat.zero_le _, rfl, rfl⟩)
      | (have := inl; refine ⟨k + 1, by omega, ?_, rfl⟩)
      | (refine And.intro ?_ ?_)
      | (intro hx; first | (cases hx; done) | (exfalso; revert hx; simp (disch := omega) only [decide_eq_true_eq, decide_eq_false_iff_not, Bool.not_eq_true', Bool.not_eq_false', Bool.and_eq_true, Bool.and_eq_false_iff, Int.not_lt, Int.not_le, ne_eq, not_false_eq_true, not_true_eq_false, reduceCtorEq, Bool.true_eq_false, Bool.false_eq_true, beq_iff_eq, bne_iff_ne, beq_eq_false_iff_ne, false_or, or_false, true_and, and_true]; done) | (simp (disch := omega) only [decide_eq_true_eq, decide_eq_false_iff_not, Bool.not_eq_true', Bool.not_eq_false', Bool.and_eq_true, Bool.and_eq_false_iff, Int.not_lt, Int.not_le, ne_eq, not_false_eq_true, not_true_eq_false, reduceCtorEq, Bool.true_eq_false, Bool.false_eq_true, beq_iff_eq, bne_iff_ne, beq_eq_false_iff_ne, false_or, or_false, true_and, and_true] at hx; first | (exfalso; omega) | skip) | skip)
      | trivial
      | exact fit_ofL _ _
      | (simp (disch := omega) only [notAgg_v, notAgg_sl, plain_v, fits, fitsOne, fitsCells, xsOf, cell_zero, cell_succ, List.range, List.range.loop, List.map, cond_true, cond_false, D.v.injEq, exists_eq', exists_eq, and_self, and_true, true_and, D.agg.injEq, List.length, exists_eq_left', D.sl.injEq, reduceCtorEq, false_or, true_or, or_true, or_false, cell_zero, cell_succ, cell_v, cells_v, cells_agg, List.length_cons, List.length_nil]; done))
    all_goals first
      | (exfalso; omega)
      | omega
      | (simp only [leftG]; omega)
      | (rw [hsm]; done)
      | exact hst.2 (by omega)
      | (have hne : a ≠ b := fun h => by subst h; have := hst.1 rfl; omega
         simp [sameL, hne]; done)
      | (simp; done)
      | fail
  · have hsm : sameL a b = false := by unfold sameL; rw [decide_eq_false_iff_not]; intro h; exact hab (by rw [h])
    repeat' (first
      | (refine ex_some (by simp (disch := omega) only [bin_shr, bin_shl, bin_and, bin_or, bin_xor, len_str, toStr_ofL, bin_add, bin_sub, bin_mul, bin_quo, bin_rem, bin_lss, bin_leq, bin_gtr, bin_geq, bin_eql, bin_neq, eqs_cn, eqs_ci, eqs_cb, eqs_cs, Option.map_some, lenT_ofL, lst_ofL, lstSz_ofL, chunk_one, lst_nil, lst_sl, lstSz_sl, lstSz_nil, Bool.and_true, Bool.true_and, Bool.and_false, Bool.false_and, beq_self_eq_true, beq_bb, bne_bb, un_not, un_neg, conv_int, min2_int, max2_int, w64, w32, wu8, wu16, wu32, wu64, tdiv_nn, tmod_nn, cell_zero, cell_succ, cell_v, cells_v, cells_agg, Bool.not_true, Bool.not_false, Int.reduceLT, Int.reduceLE, Int.reduceEq, Int.reduceNeg, Int.reduceAdd, Int.reduceSub, Int.reduceMul, intOf_v, decide_true, decide_false]; rfl) ?_)
      | (refine ex_bool ?_)
      | (refine And.intro ?_ ?_)
      | (intro hx; first | (cases hx; done) | (exfalso; revert hx; simp (disch := omega) only [decide_eq_true_eq, decide_eq_false_iff_not, Bool.not_eq_true', Bool.not_eq_false', Bool.and_eq_true, Bool.and_eq_false_iff, Int.not_lt, Int.not_le, ne_eq, not_false_eq_true, not_true_eq_false, reduceCtorEq, Bool.true_eq_false, Bool.false_eq_true, beq_iff_eq, bne_iff_ne, beq_eq_false_iff_ne, false_or, or_false, true_and, and_true]; done) | (simp (disch := omega) only [decide_eq_true_eq, decide_eq_false_iff_not, Bool.not_eq_true', Bool.not_eq_false', Bool.and_eq_true, Bool.and_eq_false_iff, Int.not_lt, Int.not_le, ne_eq, not_false_eq_true, not_true_eq_false, reduceCtorEq, Bool.true_eq_false, Bool.false_eq_true, beq_iff_eq, bne_iff_ne, beq_eq_false_iff_ne, false_or, or_false, true_and, and_true] at hx; first | (exfalso; omega) | skip) | skip)
      | trivial
      | exact fit_ofL _ _
      | (simp (disch := omega) only [notAgg_v, notAgg_sl, plain_v, fits, fitsOne, fitsCells, xsOf, cell_zero, cell_succ, List.range, List.range.loop, List.map, cond_true, cond_false, D.v.injEq, exists_eq', exists_eq, and_self, and_true, true_and, D.agg.injEq, List.length, exists_eq_left', D.sl.injEq, reduceCtorEq, false_or, true_or, or_true, or_false, cell_zero, cell_succ, cell_v, cells_v, cells_agg, List.length_cons, List.length_nil]; done))
    all_goals first | (exfalso; omega) | (rw [hsm]; done) | fail

end Go.Proofs.Ytojbpgkjenghaaa