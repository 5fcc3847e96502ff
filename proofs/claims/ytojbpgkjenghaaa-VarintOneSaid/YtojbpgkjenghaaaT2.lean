/-
  Layer 2: what is put.
-/
import Derived.Test.YtojbpgkjenghaaaT1
namespace Go.Proofs.Ytojbpgkjenghaaa
open Go.RowKit
set_option linter.unusedSimpArgs false
set_option linter.unusedVariables false


def encV (n : Int) : List Int := encS n (szF n).toNat
theorem sz_cases (n : Int) : (szF n = 0 ∧ (n < 0 ∨ n > 4611686018427387903)) ∨ (szF n = 1 ∧ 0 ≤ n ∧ n < 64) ∨ (szF n = 2 ∧ 0 ≤ n ∧ n < 16384) ∨ (szF n = 4 ∧ 0 ≤ n ∧ n < 1073741824) ∨ (szF n = 8 ∧ 0 ≤ n ∧ n ≤ 4611686018427387903) := by
  unfold szF; (repeat' split) <;> omega
theorem sz_nat {n : Int} (h : szF n ≠ 0) : ∃ s : Nat, szF n = (s : Nat) ∧ (s = 1 ∨ s = 2 ∨ s = 4 ∨ s = 8) ∧ 0 ≤ n ∧ n ≤ 4611686018427387903 ∧ n < 64 * 256 ^ (s - 1) := by
  rcases sz_cases n with ⟨h1, _⟩ | ⟨h1, h2, h3⟩ | ⟨h1, h2, h3⟩ | ⟨h1, h2, h3⟩ | ⟨h1, h2, h3⟩
  · exact absurd h1 h
  · exact ⟨1, h1, by decide, h2, by omega, h3⟩
  · exact ⟨2, h1, by decide, h2, by omega, h3⟩
  · exact ⟨4, h1, by decide, h2, by omega, h3⟩
  · exact ⟨8, h1, by decide, h2, by omega, by simp; omega⟩
theorem encS_len (n : Int) (s : Nat) : (encS n s).length = s := by simp [encS, be_len]
theorem encV_len (n : Int) : (encV n).length ≤ 8 := by
  unfold encV; rw [encS_len]
  rcases sz_cases n with h | h | h | h | h <;> omega
theorem layV (bs : List Int) {n : Int} (hl : bs.length ≤ 100000) (h : szF n ≠ 0) : MemD Try.prog 22 [.one (.row 0), .one (.d (.v (.int .i64 n))), .one (.d (.v (.int .i64 (szF n))))] [.row 1 (ofL 1 (ints .u8 bs))] [.one (.row 1)] [none, some (.row 1 (ofL 1 (ints .u8 (bs ++ encV n))))] := by
  obtain ⟨s, h1, h2, h3, _, h4⟩ := sz_nat h
  unfold encV
  rw [h1]
  rcases h2 with rfl | rfl | rfl | rfl
  · exact lay1 bs n hl h3 h4
  · exact lay2 bs n hl h3 h4
  · exact lay4 bs n hl h3 h4
  · exact lay8 bs n hl h3 h4
def okF (l : List Int) : Bool := l.all fun n => decide (szF n ≠ 0)
def joinF (l : List Int) : List Int × Int := if okF l then (l.flatMap encV, 0) else ([], 8)
theorem joinF_bad {l : List Int} {k : Nat} (h : k < l.length) (hz : szF (l.getD k 0) = 0) : joinF l = ([], 8) := by
  unfold joinF
  rw [if_neg]
  simp only [okF, List.all_eq_true, decide_eq_true_eq, ne_eq]
  intro hx
  exact hx (l.getD k 0) (by simp [List.getD, h]) hz
theorem okF_take {l : List Int} {k : Nat} (h : k < l.length) : okF (l.take (k + 1)) = (okF (l.take k) && decide (szF (l.getD k 0) ≠ 0)) := by
  rw [List.take_succ_eq_append_getElem h, List.getD_eq_getElem?_getD, List.getElem?_eq_getElem h]; simp [okF, -List.take_append_getElem]
theorem flat_take' {l : List Int} {k : Nat} (h : k < l.length) : (l.take (k + 1)).flatMap encV = (l.take k).flatMap encV ++ encV (l.getD k 0) := by
  rw [List.take_succ_eq_append_getElem h, List.getD_eq_getElem?_getD, List.getElem?_eq_getElem h]; simp [-List.take_append_getElem]
theorem flat_len (l : List Int) : (l.flatMap encV).length ≤ 8 * l.length := by
  induction l with
  | nil => simp
  | cons a l ih => have := encV_len a; simp only [List.flatMap_cons, List.length_append, List.length_cons]; omega
theorem putF (n : Int) : joinF [n] = if szF n = 0 then ([], 8) else (encV n, 0) := by
  unfold joinF okF
  by_cases h : szF n = 0 <;> simp [h]
def leftOf (n : Nat) : List D → Nat
  | .v (.int _ i) :: _ => n - i.toNat
  | _ => 0
def mkR (n : Int) : Int := if n = 1 then 0 else if n = 2 then 64 else if n = 4 then 128 else 192
theorem mkR_F {s : Nat} (h : s = 1 ∨ s = 2 ∨ s = 4 ∨ s = 8) : mkR (s : Nat) = mkF s ∧ 0 ≤ mkF s ∧ mkF s ≤ 192 := by rcases h with rfl | rfl | rfl | rfl <;> decide
theorem be_drop (n : Int) {s i : Nat} (h : i < s) : (be n s).drop (s - (i + 1)) = n / 256 ^ i % 256 :: (be n s).drop (s - i) := by
  rw [List.drop_eq_getElem_cons (by rw [be_len]; omega)]
  congr 1
  · simp [be, show s - 1 - (s - (i + 1)) = i by omega]
  · congr 1; omega
theorem q_next (n : Int) (i : Nat) : n / 256 ^ i / 256 = n / 256 ^ (i + 1) := by
  rw [Int.pow_succ, Int.ediv_ediv_of_nonneg (Int.pow_nonneg (by decide))]

theorem vc_joined (x : D) (l : List Int) : Cond Try.prog (fun k => if k = 3 then some ⟨[10], [4], [0, 8, 9], []⟩ else none) Try.f19 [x] [ofL 1 (ints .u8 ((joinF l).1)), .v (.int .i64 (joinF l).2)] = ((NotAgg x ∧ True) ∧ ∃ (r : D), D.lenT (TypeDesc.slice 3) x = some r ∧ ∃ (I : List D → Prop), ∃ (μ : List D → Nat), ((D.v (Value.int IntKind.i64 0) = D.v (Value.int IntKind.i64 0) ∧ true = true ∧ x = x ∧ x = x ∧ r = r ∧ True) ∧ ((true = true ∧ D.v nilS = D.v nilS) ∧ True) ∧ I [D.v (Value.int IntKind.i64 0), D.v nilS]) ∧ ∀ (r_1 r_2 : D), I [r_1, r_2] → ∃ (r_3 : D), D.bin BinOp.lss r_1 r = some r_3 ∧ ∃ (b : Bool), r_3 = D.v (Value.bool b) ∧ (b = true → D.inb 1 x r_1 ∧ 0 + 1 ≤ (x.at_ r_1).cells.length ∧ ∃ (r_4 : D), PureD Try.prog 12 [(x.at_ r_1).cell 0] [r_4] ∧ fits [(false, [none])] [r_4] ∧ ∃ (r_5 : D), D.bin BinOp.eql r_4 (D.v (Value.int IntKind.i64 0)) = some r_5 ∧ ∃ (b : Bool), r_5 = D.v (Value.bool b) ∧ (b = true → (PlainD (D.v nilS) ∧ True ∧ True) ∧ [D.v nilS, D.v (Value.int IntKind.i64 8)] = [ofL 1 (ints IntKind.u8 (joinF l).1), D.v (Value.int IntKind.i64 (joinF l).snd)]) ∧ (b = false → ∃ (r_6 : D), MemD Try.prog 22 [T.one (C.row 0), T.one (C.d ((x.at_ r_1).cell 0)), T.one (C.d r_4)] [Ob.row 1 r_2] [T.one (C.row 1)] [none, some (Ob.row 1 r_6)] ∧ ∃ (r_7 : D), D.bin BinOp.add r_1 (D.v (Value.int IntKind.i64 1)) = some r_7 ∧ (r_7 = r_7 ∧ true = true ∧ x = x ∧ x = x ∧ r = r ∧ True) ∧ ((true = true ∧ r_6 = r_6) ∧ True) ∧ I [r_7, r_6] ∧ μ [r_7, r_6] < μ [r_1, r_2])) ∧ (b = false → (PlainD r_2 ∧ True ∧ True) ∧ [r_2, D.v (Value.int IntKind.i64 0)] = [ofL 1 (ints IntKind.u8 (joinF l).1), D.v (Value.int IntKind.i64 (joinF l).snd)])) := by kernel_rfl
set_option maxHeartbeats 4000000 in
theorem joined (x : D) (l : List Int) (hX : IsL 1 (ints .i64 l) x) (hl : l.length ≤ 1000) : PureD Try.prog 19 [x] [ofL 1 (ints .u8 ((joinF l).1)), .v (.int .i64 (joinF l).2)] := by
  refine pure_cond (Lp := (fun k => if k = 3 then some ⟨[10], [4], [0, 8, 9], []⟩ else none)) (by kernel_rfl) Try.func19 (by kernel_rfl) (by kernel_rfl) ?_
  rw [vc_joined x l]
  simp only [hX.notAgg, hX.lenT, ints_length, Option.some.injEq, exists_eq_left']
  repeat' (first
    | (refine ex_some (by simp (disch := omega) only [bin_shr, bin_shl, bin_and, bin_or, bin_xor, len_str, toStr_ofL, bin_add, bin_sub, bin_mul, bin_quo, bin_rem, bin_lss, bin_leq, bin_gtr, bin_geq, bin_eql, bin_neq, eqs_cn, eqs_ci, eqs_cb, eqs_cs, Option.map_some, lenT_ofL, lst_ofL, lstSz_ofL, chunk_one, lst_nil, lst_sl, lstSz_sl, lstSz_nil, Bool.and_true, Bool.true_and, Bool.and_false, Bool.false_and, beq_self_eq_true, beq_bb, bne_bb, un_not, un_neg, conv_int, min2_int, max2_int, w64, w32, wu8, wu16, wu32, wu64, tdiv_nn, tmod_nn, cell_zero, cell_succ, cell_v, cells_v, cells_agg, Bool.not_true, Bool.not_false, Int.reduceLT, Int.reduceLE, Int.reduceEq, Int.reduceNeg, Int.reduceAdd, Int.reduceSub, Int.reduceMul, intOf_v, decide_true, decide_false, h1]; rfl) ?_)
    | (refine ex_bool ?_)
    | (refine ⟨(fun r => ∃ k : Nat, k ≤ l.length ∧ okF (l.take k) = true ∧ r = [.v (.int .i64 (k : Nat)), ofL 1 (ints .u8 ((l.take k).flatMap encV))]), leftOf l.length, ?_⟩)
    | (refine fun (r2 r3 : D) (hI : (fun r => ∃ k : Nat, k ≤ l.length ∧ okF (l.take k) = true ∧ r = [.v (.int .i64 (k : Nat)), ofL 1 (ints .u8 ((l.take k).flatMap encV))]) [r2, r3]) => ?_; obtain ⟨k, hk, ha, hl0⟩ := hI; simp only [List.cons.injEq, and_true] at hl0; obtain ⟨rfl, rfl⟩ := hl0; by_cases hlt : k < l.length <;> first | (have hk1 : k < l.length := (by omega); have h1 := hX.at_ints hk1; have i1 := hX.inb_ints hk1; have hbad := joinF_bad hk1; have hok := okF_take hk1; have hfl := flat_take' hk1; generalize l.getD k 0 = n at h1 hbad hok hfl; have C1 := size n; have hln := flat_len (l.take k); rw [List.length_take] at hln; have C2 := layV ((l.take k).flatMap encV) (n := n) (by omega); simp only [h1, cell_v, cells_v]; have inl : True := trivial) | (have hkk : k = l.length := (by omega); subst hkk; have hj : joinF l = (l.flatMap encV, 0) := (by unfold joinF; rw [List.take_length] at ha; rw [if_pos ha]); rw [List.take_length]; have h1 : True := trivial))
    | (exact i1)
    | (refine ⟨_, C1, ?_⟩)
    | (refine ⟨_, C2 (by omega), ?_⟩)
    | (have := inl; refine ⟨k + 1, by omega, ?_, ?_⟩)
    | (refine ⟨0, Nat.zero_le _, rfl, rfl⟩)
    | (refine And.intro ?_ ?_)
    | (intro hx; first | (cases hx; done) | (exfalso; revert hx; simp (disch := omega) only [decide_eq_true_eq, decide_eq_false_iff_not, Bool.not_eq_true', Bool.not_eq_false', Bool.and_eq_true, Bool.and_eq_false_iff, Int.not_lt, Int.not_le, ne_eq, not_false_eq_true, not_true_eq_false, reduceCtorEq, Bool.true_eq_false, Bool.false_eq_true, beq_iff_eq, bne_iff_ne, beq_eq_false_iff_ne, false_or, or_false, true_and, and_true, h1]; done) | (simp (disch := omega) only [decide_eq_true_eq, decide_eq_false_iff_not, Bool.not_eq_true', Bool.not_eq_false', Bool.and_eq_true, Bool.and_eq_false_iff, Int.not_lt, Int.not_le, ne_eq, not_false_eq_true, not_true_eq_false, reduceCtorEq, Bool.true_eq_false, Bool.false_eq_true, beq_iff_eq, bne_iff_ne, beq_eq_false_iff_ne, false_or, or_false, true_and, and_true, h1] at hx; first | (exfalso; omega) | skip) | skip)
    | trivial
    | exact fit_ofL _ _
    | (simp (disch := omega) only [notAgg_v, notAgg_sl, plain_v, fits, fitsOne, fitsCells, xsOf, cell_zero, cell_succ, List.range, List.range.loop, List.map, cond_true, cond_false, D.v.injEq, exists_eq', exists_eq, and_self, and_true, true_and, D.agg.injEq, List.length, exists_eq_left', D.sl.injEq, reduceCtorEq, false_or, true_or, or_true, or_false, cell_zero, cell_succ, cell_v, cells_v, cells_agg, List.length_cons, List.length_nil, h1]; done))
  all_goals first
    | (exfalso; omega)
    | omega
    | (simp only [leftOf]; omega)
    | exact plain_ofL (ints_plain _ _)
    | (rw [hok, ha]; simp; omega)
    | (rw [hfl]; rfl)
    | (rw [hj]; done)
    | (rw [hbad (by omega)]; rfl)
    | (simp; done)
    | fail

theorem vc_join (x : D) (l : List Int) : Cond Try.prog (fun _ => none) Try.f10 [x] [ofL 1 (ints .u8 ((joinF l).1)), .v (.int .i64 (joinF l).2)] = ((NotAgg x ∧ True) ∧ ∃ (r : D), ∃ (r_1 : D), PureD Try.prog 19 [x] [r, r_1] ∧ fits [(false, [some 1]), (false, [none])] [r, r_1] ∧ (PlainD r ∧ (∃ (y : Value), r_1 = D.v y) ∧ True) ∧ [r, r_1] = [ofL 1 (ints IntKind.u8 (joinF l).1), D.v (Value.int IntKind.i64 (joinF l).snd)]) := by kernel_rfl
theorem join (x : D) (l : List Int) (hX : IsL 1 (ints .i64 l) x) (hl : l.length ≤ 1000) : PureD Try.prog 10 [x] [ofL 1 (ints .u8 ((joinF l).1)), .v (.int .i64 (joinF l).2)] := by
  refine pure_cond (Lp := (fun _ => none)) (by kernel_rfl) Try.func10 (by kernel_rfl) (by kernel_rfl) ?_
  rw [vc_join x l]
  simp only [hX.notAgg]
  repeat' (first
    | (refine ex_some (by simp (disch := omega) only [bin_shr, bin_shl, bin_and, bin_or, bin_xor, len_str, toStr_ofL, bin_add, bin_sub, bin_mul, bin_quo, bin_rem, bin_lss, bin_leq, bin_gtr, bin_geq, bin_eql, bin_neq, eqs_cn, eqs_ci, eqs_cb, eqs_cs, Option.map_some, lenT_ofL, lst_ofL, lstSz_ofL, chunk_one, lst_nil, lst_sl, lstSz_sl, lstSz_nil, Bool.and_true, Bool.true_and, Bool.and_false, Bool.false_and, beq_self_eq_true, beq_bb, bne_bb, un_not, un_neg, conv_int, min2_int, max2_int, w64, w32, wu8, wu16, wu32, wu64, tdiv_nn, tmod_nn, cell_zero, cell_succ, cell_v, cells_v, cells_agg, Bool.not_true, Bool.not_false, Int.reduceLT, Int.reduceLE, Int.reduceEq, Int.reduceNeg, Int.reduceAdd, Int.reduceSub, Int.reduceMul, intOf_v, decide_true, decide_false]; rfl) ?_)
    | (refine ex_bool ?_)
    | (refine ⟨_, _, joined x l hX hl, ?_⟩)
    | (refine And.intro ?_ ?_)
    | (intro hx; first | (cases hx; done) | (exfalso; revert hx; simp (disch := omega) only [decide_eq_true_eq, decide_eq_false_iff_not, Bool.not_eq_true', Bool.not_eq_false', Bool.and_eq_true, Bool.and_eq_false_iff, Int.not_lt, Int.not_le, ne_eq, not_false_eq_true, not_true_eq_false, reduceCtorEq, Bool.true_eq_false, Bool.false_eq_true, beq_iff_eq, bne_iff_ne, beq_eq_false_iff_ne, false_or, or_false, true_and, and_true]; done) | (simp (disch := omega) only [decide_eq_true_eq, decide_eq_false_iff_not, Bool.not_eq_true', Bool.not_eq_false', Bool.and_eq_true, Bool.and_eq_false_iff, Int.not_lt, Int.not_le, ne_eq, not_false_eq_true, not_true_eq_false, reduceCtorEq, Bool.true_eq_false, Bool.false_eq_true, beq_iff_eq, bne_iff_ne, beq_eq_false_iff_ne, false_or, or_false, true_and, and_true] at hx; first | (exfalso; omega) | skip) | skip)
    | trivial
    | exact fit_ofL _ _
    | (simp (disch := omega) only [notAgg_v, notAgg_sl, plain_v, fits, fitsOne, fitsCells, xsOf, cell_zero, cell_succ, List.range, List.range.loop, List.map, cond_true, cond_false, D.v.injEq, exists_eq', exists_eq, and_self, and_true, true_and, D.agg.injEq, List.length, exists_eq_left', D.sl.injEq, reduceCtorEq, false_or, true_or, or_true, or_false, cell_zero, cell_succ, cell_v, cells_v, cells_agg, List.length_cons, List.length_nil]; done))
  all_goals first | exact fit_ofL _ _ | exact plain_ofL (ints_plain _ _) | rfl | (simp; done) | fail

theorem vc_put (n : Int) : Cond Try.prog (fun _ => none) Try.f8 [.v (.int .i64 n)] [ofL 1 (ints .u8 ((joinF [n]).1)), .v (.int .i64 (joinF [n]).2)] = ((NotAgg (D.v (Value.int IntKind.i64 n)) ∧ True) ∧ ∃ (r : D), ∃ (r_1 : D), PureD Try.prog 19 [D.sl 1 (chunks false 1 1 [D.v (Value.int IntKind.i64 n)])] [r, r_1] ∧ fits [(false, [some 1]), (false, [none])] [r, r_1] ∧ (PlainD r ∧ (∃ (y : Value), r_1 = D.v y) ∧ True) ∧ [r, r_1] = [ofL 1 (ints IntKind.u8 (joinF [n]).1), D.v (Value.int IntKind.i64 (joinF [n]).snd)]) := by kernel_rfl
theorem put (n : Int)  : PureD Try.prog 8 [.v (.int .i64 n)] [ofL 1 (ints .u8 ((joinF [n]).1)), .v (.int .i64 (joinF [n]).2)] := by
  refine pure_cond (Lp := (fun _ => none)) (by kernel_rfl) Try.func8 (by kernel_rfl) (by kernel_rfl) ?_
  rw [vc_put n]
  repeat' (first
    | (refine ex_some (by simp (disch := omega) only [bin_shr, bin_shl, bin_and, bin_or, bin_xor, len_str, toStr_ofL, bin_add, bin_sub, bin_mul, bin_quo, bin_rem, bin_lss, bin_leq, bin_gtr, bin_geq, bin_eql, bin_neq, eqs_cn, eqs_ci, eqs_cb, eqs_cs, Option.map_some, lenT_ofL, lst_ofL, lstSz_ofL, chunk_one, lst_nil, lst_sl, lstSz_sl, lstSz_nil, Bool.and_true, Bool.true_and, Bool.and_false, Bool.false_and, beq_self_eq_true, beq_bb, bne_bb, un_not, un_neg, conv_int, min2_int, max2_int, w64, w32, wu8, wu16, wu32, wu64, tdiv_nn, tmod_nn, cell_zero, cell_succ, cell_v, cells_v, cells_agg, Bool.not_true, Bool.not_false, Int.reduceLT, Int.reduceLE, Int.reduceEq, Int.reduceNeg, Int.reduceAdd, Int.reduceSub, Int.reduceMul, intOf_v, decide_true, decide_false, chunk_one]; rfl) ?_)
    | (refine ex_bool ?_)
    | (refine ⟨_, _, joined _ [n] (isL_sl _ _) (by simp), ?_⟩)
    | (refine And.intro ?_ ?_)
    | (intro hx; first | (cases hx; done) | (exfalso; revert hx; simp (disch := omega) only [decide_eq_true_eq, decide_eq_false_iff_not, Bool.not_eq_true', Bool.not_eq_false', Bool.and_eq_true, Bool.and_eq_false_iff, Int.not_lt, Int.not_le, ne_eq, not_false_eq_true, not_true_eq_false, reduceCtorEq, Bool.true_eq_false, Bool.false_eq_true, beq_iff_eq, bne_iff_ne, beq_eq_false_iff_ne, false_or, or_false, true_and, and_true, chunk_one]; done) | (simp (disch := omega) only [decide_eq_true_eq, decide_eq_false_iff_not, Bool.not_eq_true', Bool.not_eq_false', Bool.and_eq_true, Bool.and_eq_false_iff, Int.not_lt, Int.not_le, ne_eq, not_false_eq_true, not_true_eq_false, reduceCtorEq, Bool.true_eq_false, Bool.false_eq_true, beq_iff_eq, bne_iff_ne, beq_eq_false_iff_ne, false_or, or_false, true_and, and_true, chunk_one] at hx; first | (exfalso; omega) | skip) | skip)
    | trivial
    | exact fit_ofL _ _
    | (simp (disch := omega) only [notAgg_v, notAgg_sl, plain_v, fits, fitsOne, fitsCells, xsOf, cell_zero, cell_succ, List.range, List.range.loop, List.map, cond_true, cond_false, D.v.injEq, exists_eq', exists_eq, and_self, and_true, true_and, D.agg.injEq, List.length, exists_eq_left', D.sl.injEq, reduceCtorEq, false_or, true_or, or_true, or_false, cell_zero, cell_succ, cell_v, cells_v, cells_agg, List.length_cons, List.length_nil, chunk_one]; done))
  all_goals first | exact fit_ofL _ _ | exact plain_ofL (ints_plain _ _) | rfl | (simp; done) | fail

theorem vc_mark (n : Int) : Cond Try.prog (fun _ => none) Try.f20 [.v (.int .i64 n)] [.v (.int .i64 (mkR n))] = ((NotAgg (D.v (Value.int IntKind.i64 n)) ∧ True) ∧ ∃ (r : D), D.bin BinOp.eql (D.v (Value.int IntKind.i64 n)) (D.v (Value.int IntKind.i64 1)) = some r ∧ ∃ (b : Bool), r = D.v (Value.bool b) ∧ (b = true → (True ∧ True) ∧ [D.v (Value.int IntKind.i64 0)] = [D.v (Value.int IntKind.i64 (mkR n))]) ∧ (b = false → ∃ (r : D), D.bin BinOp.eql (D.v (Value.int IntKind.i64 n)) (D.v (Value.int IntKind.i64 2)) = some r ∧ ∃ (b : Bool), r = D.v (Value.bool b) ∧ (b = true → (True ∧ True) ∧ [D.v (Value.int IntKind.i64 64)] = [D.v (Value.int IntKind.i64 (mkR n))]) ∧ (b = false → ∃ (r : D), D.bin BinOp.eql (D.v (Value.int IntKind.i64 n)) (D.v (Value.int IntKind.i64 4)) = some r ∧ ∃ (b : Bool), r = D.v (Value.bool b) ∧ (b = true → (True ∧ True) ∧ [D.v (Value.int IntKind.i64 128)] = [D.v (Value.int IntKind.i64 (mkR n))]) ∧ (b = false → (True ∧ True) ∧ [D.v (Value.int IntKind.i64 192)] = [D.v (Value.int IntKind.i64 (mkR n))])))) := by kernel_rfl
theorem mark (n : Int)  : PureD Try.prog 20 [.v (.int .i64 n)] [.v (.int .i64 (mkR n))] := by
  refine pure_cond (Lp := (fun _ => none)) (by kernel_rfl) Try.func20 (by kernel_rfl) (by kernel_rfl) ?_
  rw [vc_mark n]
  repeat' (first
    | (refine ex_some (by simp (disch := omega) only [bin_shr, bin_shl, bin_and, bin_or, bin_xor, len_str, toStr_ofL, bin_add, bin_sub, bin_mul, bin_quo, bin_rem, bin_lss, bin_leq, bin_gtr, bin_geq, bin_eql, bin_neq, eqs_cn, eqs_ci, eqs_cb, eqs_cs, Option.map_some, lenT_ofL, lst_ofL, lstSz_ofL, chunk_one, lst_nil, lst_sl, lstSz_sl, lstSz_nil, Bool.and_true, Bool.true_and, Bool.and_false, Bool.false_and, beq_self_eq_true, beq_bb, bne_bb, un_not, un_neg, conv_int, min2_int, max2_int, w64, w32, wu8, wu16, wu32, wu64, tdiv_nn, tmod_nn, cell_zero, cell_succ, cell_v, cells_v, cells_agg, Bool.not_true, Bool.not_false, Int.reduceLT, Int.reduceLE, Int.reduceEq, Int.reduceNeg, Int.reduceAdd, Int.reduceSub, Int.reduceMul, intOf_v, decide_true, decide_false]; rfl) ?_)
    | (refine ex_bool ?_)
    | (refine And.intro ?_ ?_)
    | (intro hx; first | (cases hx; done) | (exfalso; revert hx; simp (disch := omega) only [decide_eq_true_eq, decide_eq_false_iff_not, Bool.not_eq_true', Bool.not_eq_false', Bool.and_eq_true, Bool.and_eq_false_iff, Int.not_lt, Int.not_le, ne_eq, not_false_eq_true, not_true_eq_false, reduceCtorEq, Bool.true_eq_false, Bool.false_eq_true, beq_iff_eq, bne_iff_ne, beq_eq_false_iff_ne, false_or, or_false, true_and, and_true]; done) | (simp (disch := omega) only [decide_eq_true_eq, decide_eq_false_iff_not, Bool.not_eq_true', Bool.not_eq_false', Bool.and_eq_true, Bool.and_eq_false_iff, Int.not_lt, Int.not_le, ne_eq, not_false_eq_true, not_true_eq_false, reduceCtorEq, Bool.true_eq_false, Bool.false_eq_true, beq_iff_eq, bne_iff_ne, beq_eq_false_iff_ne, false_or, or_false, true_and, and_true] at hx; first | (exfalso; omega) | skip) | skip)
    | trivial
    | exact fit_ofL _ _
    | (simp (disch := omega) only [notAgg_v, notAgg_sl, plain_v, fits, fitsOne, fitsCells, xsOf, cell_zero, cell_succ, List.range, List.range.loop, List.map, cond_true, cond_false, D.v.injEq, exists_eq', exists_eq, and_self, and_true, true_and, D.agg.injEq, List.length, exists_eq_left', D.sl.injEq, reduceCtorEq, false_or, true_or, or_true, or_false, cell_zero, cell_succ, cell_v, cells_v, cells_agg, List.length_cons, List.length_nil]; done))
  all_goals (unfold mkR; (repeat' split) <;> first | (exfalso; omega) | rfl | fail)

theorem vc_rput (n : Int) : Cond Try.prog (fun k => if k = 6 then some ⟨[6, 0], [5], [4], []⟩ else none) Try.f9 [.v (.int .i64 n)] [ofL 1 (ints .u8 ((joinF [n]).1)), .v (.int .i64 (joinF [n]).2)] = ((NotAgg (D.v (Value.int IntKind.i64 n)) ∧ True) ∧ ∃ (r : D), PureD Try.prog 13 [D.v (Value.int IntKind.i64 n)] [r] ∧ fits [(false, [none])] [r] ∧ ∃ (r_1 : D), D.bin BinOp.eql r (D.v (Value.int IntKind.i64 0)) = some r_1 ∧ ∃ (b : Bool), r_1 = D.v (Value.bool b) ∧ (b = true → (PlainD (D.v nilS) ∧ True ∧ True) ∧ [D.v nilS, D.v (Value.int IntKind.i64 8)] = [ofL 1 (ints IntKind.u8 (joinF [n]).1), D.v (Value.int IntKind.i64 (joinF [n]).snd)]) ∧ (b = false → ∃ (I : List D → Prop), ∃ (μ : List D → Nat), ((D.v (Value.int IntKind.i64 0) = D.v (Value.int IntKind.i64 0) ∧ D.v (Value.int IntKind.i64 n) = D.v (Value.int IntKind.i64 n) ∧ true = true ∧ r = r ∧ True) ∧ ((true = true ∧ D.v nilS = D.v nilS) ∧ True) ∧ I [D.v (Value.int IntKind.i64 0), D.v (Value.int IntKind.i64 n), D.v nilS]) ∧ ∀ (r_2 r_3 r_4 : D), I [r_2, r_3, r_4] → ∃ (r_5 : D), D.bin BinOp.lss r_2 r = some r_5 ∧ ∃ (b : Bool), r_5 = D.v (Value.bool b) ∧ (b = true → ∃ (r_6 : D), D.bin BinOp.rem r_3 (D.v (Value.int IntKind.i64 256)) = some r_6 ∧ ∃ (r_7 : D), D.conv IntKind.u8 r_6 = some r_7 ∧ ∃ (ls : List D), (D.sl 1 (chunks false 1 1 [r_7])).lst = some ls ∧ ∃ (lx : List D), D.lstSz 1 r_4 = some lx ∧ (ls.length + lx.length) * 1 ≤ 1099511627776 ∧ ∃ (r_8 : D), D.bin BinOp.quo r_3 (D.v (Value.int IntKind.i64 256)) = some r_8 ∧ ∃ (r_9 : D), D.bin BinOp.add r_2 (D.v (Value.int IntKind.i64 1)) = some r_9 ∧ (r_9 = r_9 ∧ r_8 = r_8 ∧ true = true ∧ r = r ∧ True) ∧ ((true = true ∧ D.app 1 (D.sl 1 (chunks false 1 1 [r_7])) lx = D.app 1 (D.sl 1 (chunks false 1 1 [r_7])) lx) ∧ True) ∧ I [r_9, r_8, D.app 1 (D.sl 1 (chunks false 1 1 [r_7])) lx] ∧ μ [r_9, r_8, D.app 1 (D.sl 1 (chunks false 1 1 [r_7])) lx] < μ [r_2, r_3, r_4]) ∧ (b = false → D.inb 1 r_4 (D.v (Value.int IntKind.i64 0)) ∧ 0 + 1 ≤ (r_4.at_ (D.v (Value.int IntKind.i64 0))).cells.length ∧ ∃ (r_6 : D), PureD Try.prog 20 [r] [r_6] ∧ fits [(false, [none])] [r_6] ∧ ∃ (r : D), D.conv IntKind.u8 r_6 = some r ∧ ∃ (r_7 : D), D.bin BinOp.add ((r_4.at_ (D.v (Value.int IntKind.i64 0))).cell 0) r = some r_7 ∧ D.inb 1 r_4 (D.v (Value.int IntKind.i64 0)) ∧ 0 + [r_7].length ≤ (r_4.at_ (D.v (Value.int IntKind.i64 0))).cells.length ∧ ((r_4.at_ (D.v (Value.int IntKind.i64 0))).isAgg' = true ∨ [r_7].length = 1) ∧ (PlainD (r_4.setAt (D.v (Value.int IntKind.i64 0)) 0 [r_7]) ∧ True ∧ True) ∧ [r_4.setAt (D.v (Value.int IntKind.i64 0)) 0 [r_7], D.v (Value.int IntKind.i64 0)] = [ofL 1 (ints IntKind.u8 (joinF [n]).1), D.v (Value.int IntKind.i64 (joinF [n]).snd)]))) := by kernel_rfl
set_option maxHeartbeats 4000000 in
theorem rput (n : Int)  : PureD Try.prog 9 [.v (.int .i64 n)] [ofL 1 (ints .u8 ((joinF [n]).1)), .v (.int .i64 (joinF [n]).2)] := by
  refine pure_cond (Lp := (fun k => if k = 6 then some ⟨[6, 0], [5], [4], []⟩ else none)) (by kernel_rfl) Try.func9 (by kernel_rfl) (by kernel_rfl) ?_
  rw [vc_rput n]
  rw [putF n]
  have C1 := rsize n
  have a1 : True := trivial
  have hset : True := trivial
  have hm1 : True := trivial
  by_cases hz : szF n = 0
  · rw [hz] at C1
    rw [if_pos hz]
    repeat' (first
      | (refine ex_some (by simp (disch := omega) only [bin_shr, bin_shl, bin_and, bin_or, bin_xor, len_str, toStr_ofL, bin_add, bin_sub, bin_mul, bin_quo, bin_rem, bin_lss, bin_leq, bin_gtr, bin_geq, bin_eql, bin_neq, eqs_cn, eqs_ci, eqs_cb, eqs_cs, Option.map_some, lenT_ofL, lst_ofL, lstSz_ofL, chunk_one, lst_nil, lst_sl, lstSz_sl, lstSz_nil, Bool.and_true, Bool.true_and, Bool.and_false, Bool.false_and, beq_self_eq_true, beq_bb, bne_bb, un_not, un_neg, conv_int, min2_int, max2_int, w64, w32, wu8, wu16, wu32, wu64, tdiv_nn, tmod_nn, cell_zero, cell_succ, cell_v, cells_v, cells_agg, Bool.not_true, Bool.not_false, Int.reduceLT, Int.reduceLE, Int.reduceEq, Int.reduceNeg, Int.reduceAdd, Int.reduceSub, Int.reduceMul, intOf_v, decide_true, decide_false]; rfl) ?_)
      | (refine ex_bool ?_)
      | (refine ⟨_, C1, ?_⟩)
      | (refine And.intro ?_ ?_)
      | (intro hx; first | (cases hx; done) | (exfalso; revert hx; simp (disch := omega) only [decide_eq_true_eq, decide_eq_false_iff_not, Bool.not_eq_true', Bool.not_eq_false', Bool.and_eq_true, Bool.and_eq_false_iff, Int.not_lt, Int.not_le, ne_eq, not_false_eq_true, not_true_eq_false, reduceCtorEq, Bool.true_eq_false, Bool.false_eq_true, beq_iff_eq, bne_iff_ne, beq_eq_false_iff_ne, false_or, or_false, true_and, and_true]; done) | (simp (disch := omega) only [decide_eq_true_eq, decide_eq_false_iff_not, Bool.not_eq_true', Bool.not_eq_false', Bool.and_eq_true, Bool.and_eq_false_iff, Int.not_lt, Int.not_le, ne_eq, not_false_eq_true, not_true_eq_false, reduceCtorEq, Bool.true_eq_false, Bool.false_eq_true, beq_iff_eq, bne_iff_ne, beq_eq_false_iff_ne, false_or, or_false, true_and, and_true] at hx; first | (exfalso; omega) | skip) | skip)
      | trivial
      | exact fit_ofL _ _
      | (simp (disch := omega) only [notAgg_v, notAgg_sl, plain_v, fits, fitsOne, fitsCells, xsOf, cell_zero, cell_succ, List.range, List.range.loop, List.map, cond_true, cond_false, D.v.injEq, exists_eq', exists_eq, and_self, and_true, true_and, D.agg.injEq, List.length, exists_eq_left', D.sl.injEq, reduceCtorEq, false_or, true_or, or_true, or_false, cell_zero, cell_succ, cell_v, cells_v, cells_agg, List.length_cons, List.length_nil]; done))
    all_goals first | exact fit_ofL _ _ | exact plain_ofL (ints_plain _ _) | (exfalso; omega) | (simp; done) | fail
  · rw [if_neg hz]
    obtain ⟨s, h1, h2, n0, n1, hn4⟩ := sz_nat hz
    have hs8 : s ≤ 8 ∧ 1 ≤ s := by omega
    obtain ⟨hm1, hm2, hm3⟩ := mkR_F h2
    have C2 := mark (s : Nat)
    rw [hm1] at C2
    unfold encV
    rw [h1] at C1 ⊢
    rw [Int.toNat_natCast]
    repeat' (first
      | (refine ex_some (by simp (disch := omega) only [bin_shr, bin_shl, bin_and, bin_or, bin_xor, len_str, toStr_ofL, bin_add, bin_sub, bin_mul, bin_quo, bin_rem, bin_lss, bin_leq, bin_gtr, bin_geq, bin_eql, bin_neq, eqs_cn, eqs_ci, eqs_cb, eqs_cs, Option.map_some, lenT_ofL, lst_ofL, lstSz_ofL, chunk_one, lst_nil, lst_sl, lstSz_sl, lstSz_nil, Bool.and_true, Bool.true_and, Bool.and_false, Bool.false_and, beq_self_eq_true, beq_bb, bne_bb, un_not, un_neg, conv_int, min2_int, max2_int, w64, w32, wu8, wu16, wu32, wu64, tdiv_nn, tmod_nn, cell_zero, cell_succ, cell_v, cells_v, cells_agg, Bool.not_true, Bool.not_false, Int.reduceLT, Int.reduceLE, Int.reduceEq, Int.reduceNeg, Int.reduceAdd, Int.reduceSub, Int.reduceMul, intOf_v, decide_true, decide_false, a1, hset, ints_length, app_sl]; rfl) ?_)
      | (refine ex_bool ?_)
      | (refine ⟨_, C1, ?_⟩)
      | (refine ⟨_, C2, ?_⟩)
      | (refine ⟨(fun r => ∃ i : Nat, i ≤ s ∧ r = [.v (.int .i64 (i : Nat)), .v (.int .i64 (n / 256 ^ i)), ofL 1 (ints .u8 ((be n s).drop (s - i)))]), leftOf s, ?_⟩)
      | (refine fun (r2 r3 r4 : D) (hI : (fun r => ∃ i : Nat, i ≤ s ∧ r = [.v (.int .i64 (i : Nat)), .v (.int .i64 (n / 256 ^ i)), ofL 1 (ints .u8 ((be n s).drop (s - i)))]) [r2, r3, r4]) => ?_; obtain ⟨i, hi, hl0⟩ := hI; simp only [List.cons.injEq, and_true] at hl0; obtain ⟨rfl, rfl, rfl⟩ := hl0; by_cases hlt : i < s <;> first | (have hi1 : i < s := (by omega); have q0 : 0 ≤ n / 256 ^ i := Int.ediv_nonneg n0 (Int.pow_nonneg (by decide)); have q1 : n / 256 ^ i ≤ n := Int.ediv_le_self _ n0; have qn := q_next n i; have hd := be_drop n hi1; generalize n / 256 ^ i = q at q0 q1 qn hd; have hdl : ((be n s).drop (s - i)).length ≤ 8 := (by rw [List.length_drop, be_len]; omega); have inl : True := trivial) | (have hii : i = s := (by omega); subst hii; rw [Nat.sub_self, List.drop_zero]; have a1 : (ofL 1 (ints .u8 (be n i))).at_ (.v (.int .i64 0)) = .v (.int .u8 (b0 n i)) := (by have h9 := at_ofL_ints .u8 .i64 (zs := be n i) (n := 0) (by rw [be_len]; omega); rw [show (be n i).getD 0 0 = b0 n i from by have := be_get [] n (s := i) (by omega); simpa using this] at h9; exact h9); have i1 : D.inb 1 (ofL 1 (ints .u8 (be n i))) (.v (.int .i64 0)) := inb_ofL_ints .u8 .i64 (zs := be n i) (n := 0) (by rw [be_len]; omega); have hset : (ofL 1 (ints .u8 (be n i))).setAt (.v (.int .i64 0)) 0 [.v (.int .u8 (b0 n i + mkF i))] = ofL 1 (ints .u8 (encS n i)) := (by have h9 := setAt_ints .u8 .i64 (zs := be n i) (n := 0) (by rw [be_len]; omega) (b0 n i + mkF i); rw [show (be n i).set 0 (b0 n i + mkF i) = encS n i from by have := be_set [] n (s := i) (by omega); simpa using this] at h9; exact h9); have hb0 := b0_bd n0 hn4; have inl2 : True := trivial))
      | (exact i1)
      | (have := inl; refine ⟨i + 1, by omega, ?_⟩)
      | (refine ⟨0, Nat.zero_le _, ?_⟩)
      | (refine And.intro ?_ ?_)
      | (intro hx; first | (cases hx; done) | (exfalso; revert hx; simp (disch := omega) only [decide_eq_true_eq, decide_eq_false_iff_not, Bool.not_eq_true', Bool.not_eq_false', Bool.and_eq_true, Bool.and_eq_false_iff, Int.not_lt, Int.not_le, ne_eq, not_false_eq_true, not_true_eq_false, reduceCtorEq, Bool.true_eq_false, Bool.false_eq_true, beq_iff_eq, bne_iff_ne, beq_eq_false_iff_ne, false_or, or_false, true_and, and_true, a1, hset, ints_length, app_sl]; done) | (simp (disch := omega) only [decide_eq_true_eq, decide_eq_false_iff_not, Bool.not_eq_true', Bool.not_eq_false', Bool.and_eq_true, Bool.and_eq_false_iff, Int.not_lt, Int.not_le, ne_eq, not_false_eq_true, not_true_eq_false, reduceCtorEq, Bool.true_eq_false, Bool.false_eq_true, beq_iff_eq, bne_iff_ne, beq_eq_false_iff_ne, false_or, or_false, true_and, and_true, a1, hset, ints_length, app_sl] at hx; first | (exfalso; omega) | skip) | skip)
      | trivial
      | exact fit_ofL _ _
      | (simp (disch := omega) only [notAgg_v, notAgg_sl, plain_v, fits, fitsOne, fitsCells, xsOf, cell_zero, cell_succ, List.range, List.range.loop, List.map, cond_true, cond_false, D.v.injEq, exists_eq', exists_eq, and_self, and_true, true_and, D.agg.injEq, List.length, exists_eq_left', D.sl.injEq, reduceCtorEq, false_or, true_or, or_true, or_false, cell_zero, cell_succ, cell_v, cells_v, cells_agg, List.length_cons, List.length_nil, a1, hset, ints_length, app_sl]; done))
    all_goals first
      | (exfalso; omega)
      | omega
      | (simp only [leftOf]; omega)
      | exact plain_ofL (ints_plain _ _)
      | exact fit_ofL _ _
      | (rw [a1]; simp only [cells_v, List.length_cons, List.length_nil]; omega)
      | (rw [hd, qn]; rfl)
      | (simp only [ints_length, List.length_append, List.length_cons, List.length_nil]; omega)
      | (rw [hset]; done)
      | (rw [show (be n s).drop (s - 0) = [] from by simp [be_len]]; simp [ints, ofL]; done)
      | (rw [hset]; exact plain_ofL (ints_plain _ _))
      | (simp; done)
      | fail

theorem vc_rjoin (x : D) (l : List Int) : Cond Try.prog (fun k => if k = 3 then some ⟨[5], [4], [0], []⟩ else none) Try.f11 [x] [ofL 1 (ints .u8 ((joinF l).1)), .v (.int .i64 (joinF l).2)] = ((NotAgg x ∧ True) ∧ ∃ (I : List D → Prop), ∃ (μ : List D → Nat), ((D.v (Value.int IntKind.i64 0) = D.v (Value.int IntKind.i64 0) ∧ true = true ∧ x = x ∧ True) ∧ ((true = true ∧ D.v nilS = D.v nilS) ∧ True) ∧ I [D.v (Value.int IntKind.i64 0), D.v nilS]) ∧ ∀ (r r_1 : D), I [r, r_1] → ∃ (r_2 : D), D.lenT (TypeDesc.slice 3) x = some r_2 ∧ ∃ (r_3 : D), D.bin BinOp.lss r r_2 = some r_3 ∧ ∃ (b : Bool), r_3 = D.v (Value.bool b) ∧ (b = true → D.inb 1 x r ∧ 0 + 1 ≤ (x.at_ r).cells.length ∧ ∃ (r_4 : D), ∃ (r_5 : D), PureD Try.prog 9 [(x.at_ r).cell 0] [r_4, r_5] ∧ fits [(false, [some 1]), (false, [none])] [r_4, r_5] ∧ ∃ (r_6 : D), D.bin BinOp.neq r_5 (D.v (Value.int IntKind.i64 0)) = some r_6 ∧ ∃ (b : Bool), r_6 = D.v (Value.bool b) ∧ (b = true → (PlainD (D.v nilS) ∧ (∃ (y : Value), r_5 = D.v y) ∧ True) ∧ [D.v nilS, r_5] = [ofL 1 (ints IntKind.u8 (joinF l).1), D.v (Value.int IntKind.i64 (joinF l).snd)]) ∧ (b = false → ∃ (ls : List D), r_1.lst = some ls ∧ ∃ (lx : List D), D.lstSz 1 r_4 = some lx ∧ (ls.length + lx.length) * 1 ≤ 1099511627776 ∧ ∃ (r_7 : D), D.bin BinOp.add r (D.v (Value.int IntKind.i64 1)) = some r_7 ∧ (r_7 = r_7 ∧ true = true ∧ x = x ∧ True) ∧ ((true = true ∧ D.app 1 r_1 lx = D.app 1 r_1 lx) ∧ True) ∧ I [r_7, D.app 1 r_1 lx] ∧ μ [r_7, D.app 1 r_1 lx] < μ [r, r_1])) ∧ (b = false → (PlainD r_1 ∧ True ∧ True) ∧ [r_1, D.v (Value.int IntKind.i64 0)] = [ofL 1 (ints IntKind.u8 (joinF l).1), D.v (Value.int IntKind.i64 (joinF l).snd)])) := by kernel_rfl
set_option maxHeartbeats 4000000 in
theorem rjoin (x : D) (l : List Int) (hX : IsL 1 (ints .i64 l) x) (hl : l.length ≤ 1000) : PureD Try.prog 11 [x] [ofL 1 (ints .u8 ((joinF l).1)), .v (.int .i64 (joinF l).2)] := by
  refine pure_cond (Lp := (fun k => if k = 3 then some ⟨[5], [4], [0], []⟩ else none)) (by kernel_rfl) Try.func11 (by kernel_rfl) (by kernel_rfl) ?_
  rw [vc_rjoin x l]
  simp only [hX.notAgg, hX.lenT, ints_length, Option.some.injEq, exists_eq_left']
  repeat' (first
    | (refine ex_some (by simp (disch := omega) only [bin_shr, bin_shl, bin_and, bin_or, bin_xor, len_str, toStr_ofL, bin_add, bin_sub, bin_mul, bin_quo, bin_rem, bin_lss, bin_leq, bin_gtr, bin_geq, bin_eql, bin_neq, eqs_cn, eqs_ci, eqs_cb, eqs_cs, Option.map_some, lenT_ofL, lst_ofL, lstSz_ofL, chunk_one, lst_nil, lst_sl, lstSz_sl, lstSz_nil, Bool.and_true, Bool.true_and, Bool.and_false, Bool.false_and, beq_self_eq_true, beq_bb, bne_bb, un_not, un_neg, conv_int, min2_int, max2_int, w64, w32, wu8, wu16, wu32, wu64, tdiv_nn, tmod_nn, cell_zero, cell_succ, cell_v, cells_v, cells_agg, Bool.not_true, Bool.not_false, Int.reduceLT, Int.reduceLE, Int.reduceEq, Int.reduceNeg, Int.reduceAdd, Int.reduceSub, Int.reduceMul, intOf_v, decide_true, decide_false, h1, ints_append]; rfl) ?_)
    | (refine ex_bool ?_)
    | (refine ⟨(fun r => ∃ k : Nat, k ≤ l.length ∧ okF (l.take k) = true ∧ r = [.v (.int .i64 (k : Nat)), ofL 1 (ints .u8 ((l.take k).flatMap encV))]), leftOf l.length, ?_⟩)
    | (refine fun (r2 r3 : D) (hI : (fun r => ∃ k : Nat, k ≤ l.length ∧ okF (l.take k) = true ∧ r = [.v (.int .i64 (k : Nat)), ofL 1 (ints .u8 ((l.take k).flatMap encV))]) [r2, r3]) => ?_; obtain ⟨k, hk, ha, hl0⟩ := hI; simp only [List.cons.injEq, and_true] at hl0; obtain ⟨rfl, rfl⟩ := hl0; by_cases hlt : k < l.length <;> first | (have hk1 : k < l.length := (by omega); have h1 := hX.at_ints hk1; have i1 := hX.inb_ints hk1; have hbad := joinF_bad hk1; have hok := okF_take hk1; have hfl := flat_take' hk1; generalize l.getD k 0 = n at h1 hbad hok hfl; have C1 := rput n; rw [putF n] at C1; have hen := encV_len n; have hln := flat_len (l.take k); rw [List.length_take] at hln; simp only [h1, cell_v, cells_v]; have inl : True := trivial; by_cases hz : szF n = 0; all_goals (first | rw [if_pos hz] at C1 | rw [if_neg hz] at C1)) | (have hkk : k = l.length := (by omega); subst hkk; have hj : joinF l = (l.flatMap encV, 0) := (by unfold joinF; rw [List.take_length] at ha; rw [if_pos ha]); rw [List.take_length]; have h1 : True := trivial))
    | (exact i1)
    | (refine ⟨_, _, C1, ?_⟩)
    | (have := inl; refine ⟨k + 1, by omega, ?_, ?_⟩)
    | (refine ⟨0, Nat.zero_le _, rfl, rfl⟩)
    | (refine And.intro ?_ ?_)
    | (intro hx; first | (cases hx; done) | (exfalso; revert hx; simp (disch := omega) only [decide_eq_true_eq, decide_eq_false_iff_not, Bool.not_eq_true', Bool.not_eq_false', Bool.and_eq_true, Bool.and_eq_false_iff, Int.not_lt, Int.not_le, ne_eq, not_false_eq_true, not_true_eq_false, reduceCtorEq, Bool.true_eq_false, Bool.false_eq_true, beq_iff_eq, bne_iff_ne, beq_eq_false_iff_ne, false_or, or_false, true_and, and_true, h1, ints_append]; done) | (simp (disch := omega) only [decide_eq_true_eq, decide_eq_false_iff_not, Bool.not_eq_true', Bool.not_eq_false', Bool.and_eq_true, Bool.and_eq_false_iff, Int.not_lt, Int.not_le, ne_eq, not_false_eq_true, not_true_eq_false, reduceCtorEq, Bool.true_eq_false, Bool.false_eq_true, beq_iff_eq, bne_iff_ne, beq_eq_false_iff_ne, false_or, or_false, true_and, and_true, h1, ints_append] at hx; first | (exfalso; omega) | skip) | skip)
    | trivial
    | exact fit_ofL _ _
    | (simp (disch := omega) only [notAgg_v, notAgg_sl, plain_v, fits, fitsOne, fitsCells, xsOf, cell_zero, cell_succ, List.range, List.range.loop, List.map, cond_true, cond_false, D.v.injEq, exists_eq', exists_eq, and_self, and_true, true_and, D.agg.injEq, List.length, exists_eq_left', D.sl.injEq, reduceCtorEq, false_or, true_or, or_true, or_false, cell_zero, cell_succ, cell_v, cells_v, cells_agg, List.length_cons, List.length_nil, h1, ints_append]; done))
  all_goals first
    | (exfalso; omega)
    | omega
    | (simp only [leftOf]; omega)
    | exact plain_ofL (ints_plain _ _)
    | (rw [hok, ha]; simp; omega)
    | (rw [hfl]; rfl)
    | (rw [hj]; done)
    | (rw [hbad (by omega)]; rfl)
    | exact fit_ofL _ _
    | (rw [hfl, app_ofL, ints_append]; rfl)
    | (simp only [ints_length, List.length_append]; omega)
    | (rw [hbad hz]; rfl)
    | (simp; done)
    | fail

end Go.Proofs.Ytojbpgkjenghaaa