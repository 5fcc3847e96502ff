/-
  Layer 6: what is put in, taken out, lacking, in common.
-/
import Derived.Test.YtpbmlllffmkkdaaT1
import Derived.Test.YtpbmlllffmkkdaaT2
import Derived.Test.YtpbmlllffmkkdaaT3
import Derived.Test.YtpbmlllffmkkdaaT4
namespace Go.Proofs.Ytpbmlllffmkkdaa
open Go.RowKit
set_option linter.unusedSimpArgs false
set_option linter.unusedVariables false


abbrev Z := Int × Int
def kp (l : List Z) (z : Z) : List Z := if emp z = true then l else l ++ [z]
def cutS (a b : Int) (l : List Z) (y : Z) : List Z := kp (kp l (y.1, min y.2 a)) (max y.1 b, y.2)
def gapS (s : List Z × Z) (y : Z) : List Z × Z := (kp s.1 (s.2.1, min s.2.2 y.1), (max s.2.1 y.2, s.2.2))
def addS (s : List Z × Bool × Z) (y : Z) : List Z × Bool × Z :=
  if y.2 < s.2.2.1 then (s.1 ++ [y], s.2.1, s.2.2) else if s.2.2.2 < y.1 then ((if s.2.1 = true then s.1 else s.1 ++ [s.2.2]) ++ [y], true, s.2.2) else (s.1, s.2.1, (min s.2.2.1 y.1, max s.2.2.2 y.2))
def addF (zs : List Z) (z : Z) : List Z := let s := zs.foldl addS ([], false, z); if s.2.1 = true then s.1 else s.1 ++ [s.2.2]
def cutF (zs : List Z) (z : Z) : List Z := zs.foldl (cutS z.1 z.2) []
def gapF (zs : List Z) (z : Z) : List Z := let s := zs.foldl gapS ([], z); kp s.1 s.2
theorem kp_len (l : List Z) (z : Z) : (kp l z).length ≤ l.length + 1 := by unfold kp; split <;> simp
theorem fold_len {β : Type} (f : β → Z → β) (m : β → Nat) (c : Nat) (h : ∀ b z, m (f b z) ≤ m b + c) : ∀ (l : List Z) (b : β), m (l.foldl f b) ≤ m b + c * l.length
  | [], b => by simp
  | z :: l, b => by
    have h1 := fold_len f m c h l (f b z)
    have h2 := h b z
    simp only [List.foldl_cons, List.length_cons, Nat.mul_add, Nat.mul_one] at h1 ⊢
    omega
theorem cut_len (a b : Int) (l : List Z) : (l.foldl (cutS a b) []).length ≤ 2 * l.length := by
  have := fold_len (cutS a b) List.length 2 (fun l z => by
    have h1 := kp_len l (z.1, min z.2 a)
    have h2 := kp_len (kp l (z.1, min z.2 a)) (max z.1 b, z.2)
    unfold cutS; omega) l []
  simpa using this
theorem gap_len (z : Z) (l : List Z) : (l.foldl gapS ([], z)).1.length ≤ l.length := by
  have := fold_len gapS (fun s => s.1.length) 1 (fun s z => kp_len s.1 _) l ([], z)
  simpa using this
theorem add_len (z : Z) (l : List Z) : (l.foldl addS ([], false, z)).1.length ≤ 2 * l.length := by
  have := fold_len addS (fun s => s.1.length) 2 (fun s z => by unfold addS; (repeat' split) <;> simp <;> omega) l ([], false, z)
  simpa using this
theorem ch2 (a b : D) : chunks true 2 1 [a, b] = [.agg [a, b]] := rfl
theorem app2 (l : List Z) (p q : Int) : ofL 2 ((l ++ [(p, q)]).map iv) = D.app 2 (ofL 2 (l.map iv)) (chunks true 2 1 [.v (.int .i64 p), .v (.int .i64 q)]) := by rw [ch2, app_ofL, List.map_append]; rfl
theorem app2r (l : List Z) (p q : Int) : D.app 2 (ofL 2 (l.map iv)) (chunks true 2 1 [.v (.int .i64 p), .v (.int .i64 q)]) = ofL 2 ((l ++ [(p, q)]).map iv) := (app2 l p q).symm
theorem ivc (p q : Int) : iv (p, q) = .agg [.v (.int .i64 p), .v (.int .i64 q)] := rfl

theorem af1 (A B : D) (C : D) (u : List Z) {p q : Int} : [A, B, C, D.app 2 (ofL 2 (u.map iv)) (chunks true 2 1 [.v (.int .i64 p), .v (.int .i64 q)])] = [A, B, C, ofL 2 ((u ++ [(p, q)]).map iv)] := by rw [app2]
theorem af2 (A B : D) (C : D) (u : List Z) (p q : Int) {c d : Int} : [A, B, C, D.app 2 (D.app 2 (ofL 2 (u.map iv)) (chunks true 2 1 [.v (.int .i64 p), .v (.int .i64 q)])) (chunks true 2 1 [.v (.int .i64 c), .v (.int .i64 d)])] = [A, B, C, ofL 2 ((u ++ [(p, q)] ++ [(c, d)]).map iv)] := by rw [app2, app2]

theorem vc_keep (l : List (Int × Int)) (p q : Int) : CondM Try.prog (fun _ => none) Try.f37 [.one (.row 0), .agg [.d (.v (.int .i64 p)), .d (.v (.int .i64 q))]] [.row 2 (ofL 2 (l.map iv))] [.one (.row 1)] [none, some (.row 2 (ofL 2 ((kp l (p, q)).map iv)))] = (((True ∧ True) ∧ True ∧ PlainD (ofL 2 (List.map iv (kp l (p, q)))) ∧ True) ∧ ∃ (r : D), PureD Try.prog 31 [D.agg [D.v (Value.int IntKind.i64 p), D.v (Value.int IntKind.i64 q)]] [r] ∧ fits [(false, [none])] [r] ∧ ∃ (b : Bool), r = D.v (Value.bool b) ∧ (b = true → (true = true ∧ True) ∧ (true = true ∧ ofL 2 (List.map iv (kp l (p, q))) = ofL 2 (List.map iv l)) ∧ True) ∧ (b = false → ∃ (ls : List D), (ofL 2 (List.map iv l)).lst = some ls ∧ ∃ (lx : List D), D.lstSz 2 (D.sl 2 (chunks true 2 1 [D.v (Value.int IntKind.i64 p), D.v (Value.int IntKind.i64 q)])) = some lx ∧ (ls.length + lx.length) * 16 ≤ 1099511627776 ∧ (true = true ∧ True) ∧ (true = true ∧ ofL 2 (List.map iv (kp l (p, q))) = D.app 2 (ofL 2 (List.map iv l)) lx) ∧ True)) := by kernel_rfl
theorem keep (l : List (Int × Int)) (p q : Int) (hl : l.length ≤ 100000) : MemD Try.prog 37 [.one (.row 0), .agg [.d (.v (.int .i64 p)), .d (.v (.int .i64 q))]] [.row 2 (ofL 2 (l.map iv))] [.one (.row 1)] [none, some (.row 2 (ofL 2 ((kp l (p, q)).map iv)))] := by
  refine mem_cond (Lp := (fun _ => none)) (by kernel_rfl) Try.func37 (by kernel_rfl) (by kernel_rfl) ?_
  rw [vc_keep l p q]
  have R := empty p q
  cases he : emp (p, q)
  · have hk : kp l (p, q) = l ++ [(p, q)] := by unfold kp; rw [he]; rfl
    rw [hk]
    rw [he] at R
    repeat' (first
      | (refine ex_some (by simp (disch := omega) only [bin_shr, bin_shl, bin_and, bin_or, bin_xor, len_str, toStr_ofL, bin_add, bin_sub, bin_mul, bin_quo, bin_rem, bin_lss, bin_leq, bin_gtr, bin_geq, bin_eql, bin_neq, eqs_cn, eqs_ci, eqs_cb, eqs_cs, Option.map_some, lenT_ofL, lst_ofL, lstSz_ofL, chunk_one, lst_nil, lst_sl, lstSz_sl, lstSz_nil, Bool.and_true, Bool.true_and, Bool.and_false, Bool.false_and, beq_self_eq_true, beq_bb, bne_bb, un_not, un_neg, conv_int, min2_int, max2_int, w64, w32, wu8, wu16, wu32, wu64, tdiv_nn, tmod_nn, cell_zero, cell_succ, cell_v, cells_v, cells_agg, Bool.not_true, Bool.not_false, Int.reduceLT, Int.reduceLE, Int.reduceEq, Int.reduceNeg, Int.reduceAdd, Int.reduceSub, Int.reduceMul, intOf_v, decide_true, decide_false, List.length_map]; rfl) ?_)
      | (refine ex_bool ?_)
      | (refine ⟨_, R, ?_⟩)
      | (refine And.intro ?_ ?_)
      | (intro hx; have hprop := (show ∀ (p : Prop), p → True from fun _ _ => True.intro) _ hx; clear hprop; first | (cases hx; done) | (exfalso; revert hx; simp (disch := omega) only [decide_eq_true_eq, decide_eq_false_iff_not, Bool.not_eq_true', Bool.not_eq_false', Bool.and_eq_true, Bool.and_eq_false_iff, Int.not_lt, Int.not_le, ne_eq, not_false_eq_true, not_true_eq_false, reduceCtorEq, Bool.true_eq_false, Bool.false_eq_true, beq_iff_eq, bne_iff_ne, beq_eq_false_iff_ne, false_or, or_false, true_and, and_true, List.length_map]; done) | (simp (disch := omega) only [decide_eq_true_eq, decide_eq_false_iff_not, Bool.not_eq_true', Bool.not_eq_false', Bool.and_eq_true, Bool.and_eq_false_iff, Int.not_lt, Int.not_le, ne_eq, not_false_eq_true, not_true_eq_false, reduceCtorEq, Bool.true_eq_false, Bool.false_eq_true, beq_iff_eq, bne_iff_ne, beq_eq_false_iff_ne, false_or, or_false, true_and, and_true, List.length_map] at hx; first | (exfalso; omega) | skip) | skip)
      | trivial
      | exact fit_ofL _ _
      | (simp (disch := omega) only [notAgg_v, notAgg_sl, plain_v, fits, fitsOne, fitsCells, xsOf, cell_zero, cell_succ, List.range, List.range.loop, List.map, cond_true, cond_false, D.v.injEq, exists_eq', exists_eq, and_self, and_true, true_and, D.agg.injEq, List.length, exists_eq_left', D.sl.injEq, reduceCtorEq, false_or, true_or, or_true, or_false, cell_zero, cell_succ, cell_v, cells_v, cells_agg, List.length_cons, List.length_nil, List.length_map]; done))
    all_goals first
      | (exfalso; omega)
      | omega
      | exact notAgg_fn _ _
      | exact hX.notAgg
      | exact plain_ofL (ivs_plain _)
      | (rw [app2r]; exact plain_ofL (ivs_plain _))
      | rfl
      | exact app2 _ _ _
      | (rw [ch2]; simp only [List.length_map, List.length_append, List.length_cons, List.length_nil]; omega)
      | assumption
      | (simp only [List.length_map]; omega)
      | (simp_all [kp]; done)
      | (simp_all; done)
      | fail
  · have hk : kp l (p, q) = l := by unfold kp; rw [he]; rfl
    rw [hk]
    rw [he] at R
    repeat' (first
      | (refine ex_some (by simp (disch := omega) only [bin_shr, bin_shl, bin_and, bin_or, bin_xor, len_str, toStr_ofL, bin_add, bin_sub, bin_mul, bin_quo, bin_rem, bin_lss, bin_leq, bin_gtr, bin_geq, bin_eql, bin_neq, eqs_cn, eqs_ci, eqs_cb, eqs_cs, Option.map_some, lenT_ofL, lst_ofL, lstSz_ofL, chunk_one, lst_nil, lst_sl, lstSz_sl, lstSz_nil, Bool.and_true, Bool.true_and, Bool.and_false, Bool.false_and, beq_self_eq_true, beq_bb, bne_bb, un_not, un_neg, conv_int, min2_int, max2_int, w64, w32, wu8, wu16, wu32, wu64, tdiv_nn, tmod_nn, cell_zero, cell_succ, cell_v, cells_v, cells_agg, Bool.not_true, Bool.not_false, Int.reduceLT, Int.reduceLE, Int.reduceEq, Int.reduceNeg, Int.reduceAdd, Int.reduceSub, Int.reduceMul, intOf_v, decide_true, decide_false, List.length_map]; rfl) ?_)
      | (refine ex_bool ?_)
      | (refine ⟨_, R, ?_⟩)
      | (refine And.intro ?_ ?_)
      | (intro hx; have hprop := (show ∀ (p : Prop), p → True from fun _ _ => True.intro) _ hx; clear hprop; first | (cases hx; done) | (exfalso; revert hx; simp (disch := omega) only [decide_eq_true_eq, decide_eq_false_iff_not, Bool.not_eq_true', Bool.not_eq_false', Bool.and_eq_true, Bool.and_eq_false_iff, Int.not_lt, Int.not_le, ne_eq, not_false_eq_true, not_true_eq_false, reduceCtorEq, Bool.true_eq_false, Bool.false_eq_true, beq_iff_eq, bne_iff_ne, beq_eq_false_iff_ne, false_or, or_false, true_and, and_true, List.length_map]; done) | (simp (disch := omega) only [decide_eq_true_eq, decide_eq_false_iff_not, Bool.not_eq_true', Bool.not_eq_false', Bool.and_eq_true, Bool.and_eq_false_iff, Int.not_lt, Int.not_le, ne_eq, not_false_eq_true, not_true_eq_false, reduceCtorEq, Bool.true_eq_false, Bool.false_eq_true, beq_iff_eq, bne_iff_ne, beq_eq_false_iff_ne, false_or, or_false, true_and, and_true, List.length_map] at hx; first | (exfalso; omega) | skip) | skip)
      | trivial
      | exact fit_ofL _ _
      | (simp (disch := omega) only [notAgg_v, notAgg_sl, plain_v, fits, fitsOne, fitsCells, xsOf, cell_zero, cell_succ, List.range, List.range.loop, List.map, cond_true, cond_false, D.v.injEq, exists_eq', exists_eq, and_self, and_true, true_and, D.agg.injEq, List.length, exists_eq_left', D.sl.injEq, reduceCtorEq, false_or, true_or, or_true, or_false, cell_zero, cell_succ, cell_v, cells_v, cells_agg, List.length_cons, List.length_nil, List.length_map]; done))
    all_goals first
      | (exfalso; omega)
      | omega
      | exact notAgg_fn _ _
      | exact hX.notAgg
      | exact plain_ofL (ivs_plain _)
      | (rw [app2r]; exact plain_ofL (ivs_plain _))
      | rfl
      | exact app2 _ _ _
      | (rw [ch2]; simp only [List.length_map, List.length_append, List.length_cons, List.length_nil]; omega)
      | assumption
      | (simp only [List.length_map]; omega)
      | (simp_all [kp]; done)
      | (simp_all; done)
      | fail

theorem vc_cut1 (x : D) (zs : List (Int × Int)) (a b : Int) : Cond Try.prog (fun k => if k = 3005 then some ⟨[], [], [3, 5], [(5, [], [0])]⟩ else if k = 4005 then some ⟨[40], [], [], []⟩ else none) Try.f13 [x, .agg [.v (.int .i64 a), .v (.int .i64 b)]] [ofL 2 ((cutF zs (a, b)).map iv)] = ((NotAgg x ∧ (∃ (cs : List D), D.agg [D.v (Value.int IntKind.i64 a), D.v (Value.int IntKind.i64 b)] = D.agg cs ∧ cs.length = 2) ∧ True) ∧ ∃ (r : D), PureD Try.prog 30 [x, D.agg [D.v (Value.int IntKind.i64 a), D.v (Value.int IntKind.i64 b)]] [r] ∧ fits [(false, [none])] [r] ∧ ∃ (r_1 : D), D.un UnOp.not r = some r_1 ∧ ∃ (b_1 : Bool), r_1 = D.v (Value.bool b_1) ∧ (b_1 = false → ∃ (r : D), PureD Try.prog 31 [D.agg [D.v (Value.int IntKind.i64 a), D.v (Value.int IntKind.i64 b)]] [r] ∧ fits [(false, [none])] [r] ∧ ∃ (b_2 : Bool), r = D.v (Value.bool b_2) ∧ (b_2 = true → ∃ (r : D), PureD Try.prog 32 [x] [r] ∧ fits [(false, [some 2])] [r] ∧ (PlainD r ∧ True) ∧ [r] = [ofL 2 (List.map iv (cutF zs (a, b)))]) ∧ (b_2 = false → ∃ (r : D), ReadD Try.prog 33 [x] [r] ∧ (NotAgg r ∧ True) ∧ ∃ (caps : List D), ∃ (xs : List (List D)), ∃ (I : Nat → List D → Prop), r = D.fn 40 caps ∧ SeqD Try.prog 40 caps xs ∧ fitsX [some 2] xs ∧ (((true = true ∧ true = true) ∧ (true = true ∧ true = true) ∧ True) ∧ ((true = true ∧ D.v (Value.slice none 0 0) = D.v (Value.slice none 0 0)) ∧ (true = true ∧ True) ∧ (D.v (Value.int IntKind.i64 a) = D.v (Value.int IntKind.i64 a) ∧ D.v (Value.int IntKind.i64 b) = D.v (Value.int IntKind.i64 b) ∧ True) ∧ True) ∧ I 0 [D.v (Value.slice none 0 0)]) ∧ (∀ (k : Nat) (r : D), xs[k]? = some [r] → ∀ (r_2 : D), I k [r_2] → ∃ (r_3 : D), (r.cell 1).min2 (D.v (Value.int IntKind.i64 a)) = some r_3 ∧ ∃ (r_4 : D), MemD Try.prog 37 [T.one (C.row 0), T.agg [C.d (r.cell 0), C.d r_3]] [Ob.row (1 + 1) r_2] [T.one (C.row 1)] [none, some (Ob.row 2 r_4)] ∧ ∃ (r_5 : D), (r.cell 0).max2 (D.v (Value.int IntKind.i64 b)) = some r_5 ∧ ∃ (r_6 : D), MemD Try.prog 37 [T.one (C.row 0), T.agg [C.d r_5, C.d (r.cell 1)]] [Ob.row (1 + 1) r_4] [T.one (C.row 1)] [none, some (Ob.row 2 r_6)] ∧ ((true = true ∧ true = true) ∧ (true = true ∧ true = true) ∧ True) ∧ ((true = true ∧ r_6 = r_6) ∧ (true = true ∧ True) ∧ (D.v (Value.int IntKind.i64 a) = D.v (Value.int IntKind.i64 a) ∧ D.v (Value.int IntKind.i64 b) = D.v (Value.int IntKind.i64 b) ∧ True) ∧ True) ∧ I (k + 1) [r_6]) ∧ ∀ (r : D), I xs.length [r] → (PlainD r ∧ True) ∧ [r] = [ofL 2 (List.map iv (cutF zs (a, b)))])) ∧ (b_1 = true → ∃ (r : D), PureD Try.prog 32 [x] [r] ∧ fits [(false, [some 2])] [r] ∧ (PlainD r ∧ True) ∧ [r] = [ofL 2 (List.map iv (cutF zs (a, b)))])) := by kernel_rfl
set_option maxHeartbeats 4000000 in
theorem cut1 (x : D) (zs : List (Int × Int)) (a b : Int) (hX : IsL 2 (zs.map iv) x) (hm : zs.length ≤ 10000) (hr : rgd (a, b) = true) (hc : chkF zs = 0) (he : emp (a, b) = false) : PureD Try.prog 13 [x, .agg [.v (.int .i64 a), .v (.int .i64 b)]] [ofL 2 ((cutF zs (a, b)).map iv)] := by
  refine pure_cond (Lp := (fun k => if k = 3005 then some ⟨[], [], [3, 5], [(5, [], [0])]⟩ else if k = 4005 then some ⟨[40], [], [], []⟩ else none)) (by kernel_rfl) Try.func13 (by kernel_rfl) (by kernel_rfl) ?_
  rw [vc_cut1 x zs a b]
  have EA := each x hX.notAgg
  have T := takes x zs a b hX (by omega)
  rw [hr, hc] at T
  have R := empty a b
  simp only [Bool.true_and, decide_true] at T
  rw [he] at R
  repeat' (first
    | (refine ex_some (by simp (disch := omega) only [bin_shr, bin_shl, bin_and, bin_or, bin_xor, len_str, toStr_ofL, bin_add, bin_sub, bin_mul, bin_quo, bin_rem, bin_lss, bin_leq, bin_gtr, bin_geq, bin_eql, bin_neq, eqs_cn, eqs_ci, eqs_cb, eqs_cs, Option.map_some, lenT_ofL, lst_ofL, lstSz_ofL, chunk_one, lst_nil, lst_sl, lstSz_sl, lstSz_nil, Bool.and_true, Bool.true_and, Bool.and_false, Bool.false_and, beq_self_eq_true, beq_bb, bne_bb, un_not, un_neg, conv_int, min2_int, max2_int, w64, w32, wu8, wu16, wu32, wu64, tdiv_nn, tmod_nn, cell_zero, cell_succ, cell_v, cells_v, cells_agg, Bool.not_true, Bool.not_false, Int.reduceLT, Int.reduceLE, Int.reduceEq, Int.reduceNeg, Int.reduceAdd, Int.reduceSub, Int.reduceMul, intOf_v, decide_true, decide_false]; rfl) ?_)
    | (refine ex_bool ?_)
    | (refine ⟨_, EA, ?_⟩)
    | (refine ⟨_, T, ?_⟩)
    | (refine ⟨_, R, ?_⟩)
    | (refine ⟨_, K1, ?_⟩)
    | (refine ⟨_, K2, ?_⟩)
    | (refine ⟨_, zs.map fun z => [iv z], (fun k r => r = [ofL 2 (((zs.take k).foldl (cutS a b) []).map iv)]), rfl, seq_each hX (by omega), fits_iv zs, ?_, ?_, ?_⟩)
    | (exact rfl)
    | (refine fun (k : Nat) (r : D) (hk : (zs.map fun z => [iv z])[k]? = some [r]) => ?_; obtain ⟨hk1, rfl⟩ := iv_at hk; clear hk; refine fun (r4 : D) (hI : (fun k r => r = [ofL 2 (((zs.take k).foldl (cutS a b) []).map iv)]) k [r4]) => ?_; have hl0 := hI; simp only [List.cons.injEq, and_true] at hl0; subst hl0; have ht := foldl_succ (0, 0) hk1 (cutS a b) []; have hlen := cut_len a b (zs.take k); rw [List.length_take] at hlen; generalize zs.getD k (0, 0) = z at ht; obtain ⟨p, q⟩ := z; simp only [iv, cell_zero, cell_succ, cells_agg, List.length_cons, List.length_nil]; generalize hu : (zs.take k).foldl (cutS a b) [] = u at ht hlen; have K1 := keep u p (min q a) (by omega); have hk2 := kp_len u (p, min q a); have K2 := keep (kp u (p, min q a)) (max p b) q (by omega); have hf : (zs.take (k + 1)).foldl (cutS a b) [] = kp (kp u (p, min q a)) (max p b, q) := ht; have inl1 : True := trivial)
    | (refine fun (r4 : D) (hI : (fun k r => r = [ofL 2 (((zs.take k).foldl (cutS a b) []).map iv)]) (zs.map fun z => [iv z]).length [r4]) => ?_; rw [List.length_map] at hI; have hl0 := hI; simp only [List.cons.injEq, and_true] at hl0; subst hl0; rw [List.take_length]; have out1 : True := trivial)
    | (have := inl1; refine congrArg (fun t => [ofL 2 (List.map iv t)]) (Eq.symm ?_))
    | (refine And.intro ?_ ?_)
    | (intro hx; have hprop := (show ∀ (p : Prop), p → True from fun _ _ => True.intro) _ hx; clear hprop; first | (cases hx; done) | (exfalso; revert hx; simp (disch := omega) only [decide_eq_true_eq, decide_eq_false_iff_not, Bool.not_eq_true', Bool.not_eq_false', Bool.and_eq_true, Bool.and_eq_false_iff, Int.not_lt, Int.not_le, ne_eq, not_false_eq_true, not_true_eq_false, reduceCtorEq, Bool.true_eq_false, Bool.false_eq_true, beq_iff_eq, bne_iff_ne, beq_eq_false_iff_ne, false_or, or_false, true_and, and_true]; done) | (simp (disch := omega) only [decide_eq_true_eq, decide_eq_false_iff_not, Bool.not_eq_true', Bool.not_eq_false', Bool.and_eq_true, Bool.and_eq_false_iff, Int.not_lt, Int.not_le, ne_eq, not_false_eq_true, not_true_eq_false, reduceCtorEq, Bool.true_eq_false, Bool.false_eq_true, beq_iff_eq, bne_iff_ne, beq_eq_false_iff_ne, false_or, or_false, true_and, and_true] at hx; first | (exfalso; omega) | skip) | skip)
    | trivial
    | exact fit_ofL _ _
    | (simp (disch := omega) only [notAgg_v, notAgg_sl, plain_v, fits, fitsOne, fitsCells, xsOf, cell_zero, cell_succ, List.range, List.range.loop, List.map, cond_true, cond_false, D.v.injEq, exists_eq', exists_eq, and_self, and_true, true_and, D.agg.injEq, List.length, exists_eq_left', D.sl.injEq, reduceCtorEq, false_or, true_or, or_true, or_false, cell_zero, cell_succ, cell_v, cells_v, cells_agg, List.length_cons, List.length_nil]; done))
  all_goals first
    | (exfalso; omega)
    | omega
    | exact notAgg_fn _ _
    | exact hX.notAgg
    | exact plain_ofL (ivs_plain _)
    | (rw [app2r]; exact plain_ofL (ivs_plain _))
    | rfl
    | exact app2 _ _ _
    | (rw [ch2]; simp only [List.length_map, List.length_append, List.length_cons, List.length_nil]; omega)
    | assumption
    | (simp only [List.length_map]; omega)
    | (simp_all [kp]; done)
    | (simp_all; done)
    | fail

theorem vc_gap1 (x : D) (zs : List (Int × Int)) (a b : Int) : Cond Try.prog (fun k => if k = 3005 then some ⟨[], [], [3, 5], [(3, [0, 1], []), (5, [], [0])]⟩ else if k = 4005 then some ⟨[40], [], [], []⟩ else none) Try.f15 [x, .agg [.v (.int .i64 a), .v (.int .i64 b)]] [ofL 2 ((gapF zs (a, b)).map iv)] = ((NotAgg x ∧ (∃ (cs : List D), D.agg [D.v (Value.int IntKind.i64 a), D.v (Value.int IntKind.i64 b)] = D.agg cs ∧ cs.length = 2) ∧ True) ∧ ∃ (r : D), PureD Try.prog 30 [x, D.agg [D.v (Value.int IntKind.i64 a), D.v (Value.int IntKind.i64 b)]] [r] ∧ fits [(false, [none])] [r] ∧ ∃ (r_1 : D), D.un UnOp.not r = some r_1 ∧ ∃ (b_1 : Bool), r_1 = D.v (Value.bool b_1) ∧ (b_1 = true → (PlainD (D.v nilS) ∧ True) ∧ [D.v nilS] = [ofL 2 (List.map iv (gapF zs (a, b)))]) ∧ (b_1 = false → ∃ (r : D), ReadD Try.prog 33 [x] [r] ∧ (NotAgg r ∧ True) ∧ ∃ (caps : List D), ∃ (xs : List (List D)), ∃ (I : Nat → List D → Prop), r = D.fn 40 caps ∧ SeqD Try.prog 40 caps xs ∧ fitsX [some 2] xs ∧ (((true = true ∧ true = true) ∧ (true = true ∧ true = true) ∧ True) ∧ ((true = true ∧ D.v (Value.slice none 0 0) = D.v (Value.slice none 0 0)) ∧ (D.v (Value.int IntKind.i64 a) = D.v (Value.int IntKind.i64 a) ∧ D.v (Value.int IntKind.i64 b) = D.v (Value.int IntKind.i64 b) ∧ True) ∧ (true = true ∧ True) ∧ True) ∧ I 0 [D.v (Value.int IntKind.i64 a), D.v (Value.int IntKind.i64 b), D.v (Value.slice none 0 0)]) ∧ (∀ (k : Nat) (r : D), xs[k]? = some [r] → ∀ (r_2 r_3 r_4 : D), I k [r_2, r_3, r_4] → ∃ (r_5 : D), r_3.min2 (r.cell 0) = some r_5 ∧ ∃ (r_6 : D), MemD Try.prog 37 [T.one (C.row 0), T.agg [C.d r_2, C.d r_5]] [Ob.row (1 + 1) r_4] [T.one (C.row 1)] [none, some (Ob.row 2 r_6)] ∧ ∃ (r_7 : D), r_2.max2 (r.cell 1) = some r_7 ∧ ((true = true ∧ true = true) ∧ (true = true ∧ true = true) ∧ True) ∧ ((true = true ∧ r_6 = r_6) ∧ (r_7 = r_7 ∧ r_3 = r_3 ∧ True) ∧ (true = true ∧ True) ∧ True) ∧ I (k + 1) [r_7, r_3, r_6]) ∧ ∀ (r r_2 r_3 : D), I xs.length [r, r_2, r_3] → ∃ (r_4 : D), MemD Try.prog 37 [T.one (C.row 0), T.agg [C.d r, C.d r_2]] [Ob.row (1 + 1) r_3] [T.one (C.row 1)] [none, some (Ob.row 2 r_4)] ∧ (PlainD r_4 ∧ True) ∧ [r_4] = [ofL 2 (List.map iv (gapF zs (a, b)))])) := by kernel_rfl
set_option maxHeartbeats 4000000 in
theorem gap1 (x : D) (zs : List (Int × Int)) (a b : Int) (hX : IsL 2 (zs.map iv) x) (hm : zs.length ≤ 10000) (hr : rgd (a, b) = true) (hc : chkF zs = 0) : PureD Try.prog 15 [x, .agg [.v (.int .i64 a), .v (.int .i64 b)]] [ofL 2 ((gapF zs (a, b)).map iv)] := by
  refine pure_cond (Lp := (fun k => if k = 3005 then some ⟨[], [], [3, 5], [(3, [0, 1], []), (5, [], [0])]⟩ else if k = 4005 then some ⟨[40], [], [], []⟩ else none)) (by kernel_rfl) Try.func15 (by kernel_rfl) (by kernel_rfl) ?_
  rw [vc_gap1 x zs a b]
  have EA := each x hX.notAgg
  have T := takes x zs a b hX (by omega)
  rw [hr, hc] at T
  have R := empty a b
  simp only [Bool.true_and, decide_true] at T
  repeat' (first
    | (refine ex_some (by simp (disch := omega) only [bin_shr, bin_shl, bin_and, bin_or, bin_xor, len_str, toStr_ofL, bin_add, bin_sub, bin_mul, bin_quo, bin_rem, bin_lss, bin_leq, bin_gtr, bin_geq, bin_eql, bin_neq, eqs_cn, eqs_ci, eqs_cb, eqs_cs, Option.map_some, lenT_ofL, lst_ofL, lstSz_ofL, chunk_one, lst_nil, lst_sl, lstSz_sl, lstSz_nil, Bool.and_true, Bool.true_and, Bool.and_false, Bool.false_and, beq_self_eq_true, beq_bb, bne_bb, un_not, un_neg, conv_int, min2_int, max2_int, w64, w32, wu8, wu16, wu32, wu64, tdiv_nn, tmod_nn, cell_zero, cell_succ, cell_v, cells_v, cells_agg, Bool.not_true, Bool.not_false, Int.reduceLT, Int.reduceLE, Int.reduceEq, Int.reduceNeg, Int.reduceAdd, Int.reduceSub, Int.reduceMul, intOf_v, decide_true, decide_false]; rfl) ?_)
    | (refine ex_bool ?_)
    | (refine ⟨_, EA, ?_⟩)
    | (refine ⟨_, T, ?_⟩)
    | (refine ⟨_, R, ?_⟩)
    | (refine ⟨_, K1, ?_⟩)
    | (refine ⟨_, K2, ?_⟩)
    | (refine ⟨_, zs.map fun z => [iv z], (fun k r => r = [.v (.int .i64 ((zs.take k).foldl gapS ([], (a, b))).2.1), .v (.int .i64 ((zs.take k).foldl gapS ([], (a, b))).2.2), ofL 2 (((zs.take k).foldl gapS ([], (a, b))).1.map iv)]), rfl, seq_each hX (by omega), fits_iv zs, ?_, ?_, ?_⟩)
    | (exact rfl)
    | (refine fun (k : Nat) (r : D) (hk : (zs.map fun z => [iv z])[k]? = some [r]) => ?_; obtain ⟨hk1, rfl⟩ := iv_at hk; clear hk; refine fun (r4 r5 r6 : D) (hI : (fun k r => r = [.v (.int .i64 ((zs.take k).foldl gapS ([], (a, b))).2.1), .v (.int .i64 ((zs.take k).foldl gapS ([], (a, b))).2.2), ofL 2 (((zs.take k).foldl gapS ([], (a, b))).1.map iv)]) k [r4, r5, r6]) => ?_; have hl0 := hI; simp only [List.cons.injEq, and_true] at hl0; obtain ⟨rfl, rfl, rfl⟩ := hl0; have ht := foldl_succ (0, 0) hk1 gapS ([], (a, b)); have hlen := gap_len (a, b) (zs.take k); rw [List.length_take] at hlen; generalize zs.getD k (0, 0) = z at ht; obtain ⟨p, q⟩ := z; simp only [iv, cell_zero, cell_succ, cells_agg, List.length_cons, List.length_nil]; generalize hu : (zs.take k).foldl gapS ([], (a, b)) = s at ht hlen; obtain ⟨u, c, d⟩ := s; simp only at hlen; have K1 := keep u c (min d p) (by omega); have hf : (zs.take (k + 1)).foldl gapS ([], (a, b)) = (kp u (c, min d p), (max c q, d)) := ht; have inl1 : True := trivial)
    | (refine fun (r4 r5 r6 : D) (hI : (fun k r => r = [.v (.int .i64 ((zs.take k).foldl gapS ([], (a, b))).2.1), .v (.int .i64 ((zs.take k).foldl gapS ([], (a, b))).2.2), ofL 2 (((zs.take k).foldl gapS ([], (a, b))).1.map iv)]) (zs.map fun z => [iv z]).length [r4, r5, r6]) => ?_; rw [List.length_map] at hI; have hl0 := hI; simp only [List.cons.injEq, and_true] at hl0; obtain ⟨rfl, rfl, rfl⟩ := hl0; rw [List.take_length]; have hlen := gap_len (a, b) zs; have hg : gapF zs (a, b) = kp (zs.foldl gapS ([], (a, b))).1 (zs.foldl gapS ([], (a, b))).2 := rfl; generalize zs.foldl gapS ([], (a, b)) = s at hlen hg; obtain ⟨u, c, d⟩ := s; simp only at hlen hg; have K2 := keep u c d (by omega); rw [hg]; have out1 : True := trivial)
    | (have := inl1; rw [hf]; done)
    | (have := inl1; rw [hf]; rfl)
    | (refine And.intro ?_ ?_)
    | (intro hx; have hprop := (show ∀ (p : Prop), p → True from fun _ _ => True.intro) _ hx; clear hprop; first | (cases hx; done) | (exfalso; revert hx; simp (disch := omega) only [decide_eq_true_eq, decide_eq_false_iff_not, Bool.not_eq_true', Bool.not_eq_false', Bool.and_eq_true, Bool.and_eq_false_iff, Int.not_lt, Int.not_le, ne_eq, not_false_eq_true, not_true_eq_false, reduceCtorEq, Bool.true_eq_false, Bool.false_eq_true, beq_iff_eq, bne_iff_ne, beq_eq_false_iff_ne, false_or, or_false, true_and, and_true]; done) | (simp (disch := omega) only [decide_eq_true_eq, decide_eq_false_iff_not, Bool.not_eq_true', Bool.not_eq_false', Bool.and_eq_true, Bool.and_eq_false_iff, Int.not_lt, Int.not_le, ne_eq, not_false_eq_true, not_true_eq_false, reduceCtorEq, Bool.true_eq_false, Bool.false_eq_true, beq_iff_eq, bne_iff_ne, beq_eq_false_iff_ne, false_or, or_false, true_and, and_true] at hx; first | (exfalso; omega) | skip) | skip)
    | trivial
    | exact fit_ofL _ _
    | (simp (disch := omega) only [notAgg_v, notAgg_sl, plain_v, fits, fitsOne, fitsCells, xsOf, cell_zero, cell_succ, List.range, List.range.loop, List.map, cond_true, cond_false, D.v.injEq, exists_eq', exists_eq, and_self, and_true, true_and, D.agg.injEq, List.length, exists_eq_left', D.sl.injEq, reduceCtorEq, false_or, true_or, or_true, or_false, cell_zero, cell_succ, cell_v, cells_v, cells_agg, List.length_cons, List.length_nil]; done))
  all_goals first
    | (exfalso; omega)
    | omega
    | exact notAgg_fn _ _
    | exact hX.notAgg
    | exact plain_ofL (ivs_plain _)
    | (rw [app2r]; exact plain_ofL (ivs_plain _))
    | rfl
    | exact app2 _ _ _
    | (rw [ch2]; simp only [List.length_map, List.length_append, List.length_cons, List.length_nil]; omega)
    | assumption
    | (simp only [List.length_map]; omega)
    | (simp_all [kp]; done)
    | (simp_all; done)
    | fail

theorem vc_add1 (x : D) (zs : List (Int × Int)) (a b : Int) : Cond Try.prog (fun k => if k = 3006 then some ⟨[], [], [3, 5, 6], [(3, [0, 1], []), (5, [], [0]), (6, [0], [])]⟩ else if k = 4006 then some ⟨[40], [], [], []⟩ else none) Try.f11 [x, .agg [.v (.int .i64 a), .v (.int .i64 b)]] [ofL 2 ((addF zs (a, b)).map iv)] = ((NotAgg x ∧ (∃ (cs : List D), D.agg [D.v (Value.int IntKind.i64 a), D.v (Value.int IntKind.i64 b)] = D.agg cs ∧ cs.length = 2) ∧ True) ∧ ∃ (r : D), PureD Try.prog 30 [x, D.agg [D.v (Value.int IntKind.i64 a), D.v (Value.int IntKind.i64 b)]] [r] ∧ fits [(false, [none])] [r] ∧ ∃ (r_1 : D), D.un UnOp.not r = some r_1 ∧ ∃ (b_1 : Bool), r_1 = D.v (Value.bool b_1) ∧ (b_1 = false → ∃ (r : D), PureD Try.prog 31 [D.agg [D.v (Value.int IntKind.i64 a), D.v (Value.int IntKind.i64 b)]] [r] ∧ fits [(false, [none])] [r] ∧ ∃ (b_2 : Bool), r = D.v (Value.bool b_2) ∧ (b_2 = true → ∃ (r : D), PureD Try.prog 32 [x] [r] ∧ fits [(false, [some 2])] [r] ∧ (PlainD r ∧ True) ∧ [r] = [ofL 2 (List.map iv (addF zs (a, b)))]) ∧ (b_2 = false → ∃ (r : D), ReadD Try.prog 33 [x] [r] ∧ (NotAgg r ∧ True) ∧ ∃ (caps : List D), ∃ (xs : List (List D)), ∃ (I : Nat → List D → Prop), r = D.fn 40 caps ∧ SeqD Try.prog 40 caps xs ∧ fitsX [some 2] xs ∧ (((true = true ∧ true = true) ∧ (true = true ∧ true = true) ∧ (true = true ∧ true = true) ∧ True) ∧ ((true = true ∧ D.v (Value.slice none 0 0) = D.v (Value.slice none 0 0)) ∧ (D.v (Value.int IntKind.i64 a) = D.v (Value.int IntKind.i64 a) ∧ D.v (Value.int IntKind.i64 b) = D.v (Value.int IntKind.i64 b) ∧ True) ∧ (true = true ∧ True) ∧ (D.v (Value.bool false) = D.v (Value.bool false) ∧ True) ∧ True) ∧ I 0 [D.v (Value.int IntKind.i64 a), D.v (Value.int IntKind.i64 b), D.v (Value.bool false), D.v (Value.slice none 0 0)]) ∧ (∀ (k : Nat) (r : D), xs[k]? = some [r] → ∀ (r_2 r_3 r_4 r_5 : D), I k [r_2, r_3, r_4, r_5] → ∃ (r_6 : D), D.bin BinOp.lss (r.cell 1) r_2 = some r_6 ∧ ∃ (b : Bool), r_6 = D.v (Value.bool b) ∧ (b = true → ∃ (ls : List D), r_5.lst = some ls ∧ ∃ (lx : List D), D.lstSz 2 (D.sl 2 (chunks true 2 1 [r.cell 0, r.cell 1])) = some lx ∧ (ls.length + lx.length) * 16 ≤ 1099511627776 ∧ ((true = true ∧ true = true) ∧ (true = true ∧ true = true) ∧ (true = true ∧ true = true) ∧ True) ∧ ((true = true ∧ D.app 2 r_5 lx = D.app 2 r_5 lx) ∧ (r_2 = r_2 ∧ r_3 = r_3 ∧ True) ∧ (true = true ∧ True) ∧ (r_4 = r_4 ∧ True) ∧ True) ∧ I (k + 1) [r_2, r_3, r_4, D.app 2 r_5 lx]) ∧ (b = false → ∃ (r_7 : D), D.bin BinOp.gtr (r.cell 0) r_3 = some r_7 ∧ ∃ (b : Bool), r_7 = D.v (Value.bool b) ∧ (b = true → ∃ (r_8 : D), D.un UnOp.not r_4 = some r_8 ∧ ∃ (b : Bool), r_8 = D.v (Value.bool b) ∧ (b = true → ∃ (ls : List D), r_5.lst = some ls ∧ ∃ (lx : List D), D.lstSz 2 (D.sl 2 (chunks true 2 1 [r_2, r_3])) = some lx ∧ (ls.length + lx.length) * 16 ≤ 1099511627776 ∧ ∃ (ls : List D), (D.app 2 r_5 lx).lst = some ls ∧ ∃ (lx_1 : List D), D.lstSz 2 (D.sl 2 (chunks true 2 1 [r.cell 0, r.cell 1])) = some lx_1 ∧ (ls.length + lx_1.length) * 16 ≤ 1099511627776 ∧ ((true = true ∧ true = true) ∧ (true = true ∧ true = true) ∧ (true = true ∧ true = true) ∧ True) ∧ ((true = true ∧ D.app 2 (D.app 2 r_5 lx) lx_1 = D.app 2 (D.app 2 r_5 lx) lx_1) ∧ (r_2 = r_2 ∧ r_3 = r_3 ∧ True) ∧ (true = true ∧ True) ∧ (D.v (Value.bool true) = D.v (Value.bool true) ∧ True) ∧ True) ∧ I (k + 1) [r_2, r_3, D.v (Value.bool true), D.app 2 (D.app 2 r_5 lx) lx_1]) ∧ (b = false → ∃ (ls : List D), r_5.lst = some ls ∧ ∃ (lx : List D), D.lstSz 2 (D.sl 2 (chunks true 2 1 [r.cell 0, r.cell 1])) = some lx ∧ (ls.length + lx.length) * 16 ≤ 1099511627776 ∧ ((true = true ∧ true = true) ∧ (true = true ∧ true = true) ∧ (true = true ∧ true = true) ∧ True) ∧ ((true = true ∧ D.app 2 r_5 lx = D.app 2 r_5 lx) ∧ (r_2 = r_2 ∧ r_3 = r_3 ∧ True) ∧ (true = true ∧ True) ∧ (r_4 = r_4 ∧ True) ∧ True) ∧ I (k + 1) [r_2, r_3, r_4, D.app 2 r_5 lx])) ∧ (b = false → ∃ (r_8 : D), r_2.min2 (r.cell 0) = some r_8 ∧ ∃ (r_9 : D), r_3.max2 (r.cell 1) = some r_9 ∧ ((true = true ∧ true = true) ∧ (true = true ∧ true = true) ∧ (true = true ∧ true = true) ∧ True) ∧ ((true = true ∧ r_5 = r_5) ∧ (r_8 = r_8 ∧ r_9 = r_9 ∧ True) ∧ (true = true ∧ True) ∧ (r_4 = r_4 ∧ True) ∧ True) ∧ I (k + 1) [r_8, r_9, r_4, r_5]))) ∧ ∀ (r r_2 r_3 r_4 : D), I xs.length [r, r_2, r_3, r_4] → ∃ (r_5 : D), D.un UnOp.not r_3 = some r_5 ∧ ∃ (b_3 : Bool), r_5 = D.v (Value.bool b_3) ∧ (b_3 = true → ∃ (ls : List D), r_4.lst = some ls ∧ ∃ (lx : List D), D.lstSz 2 (D.sl 2 (chunks true 2 1 [r, r_2])) = some lx ∧ (ls.length + lx.length) * 16 ≤ 1099511627776 ∧ (PlainD (D.app 2 r_4 lx) ∧ True) ∧ [D.app 2 r_4 lx] = [ofL 2 (List.map iv (addF zs (a, b)))]) ∧ (b_3 = false → (PlainD r_4 ∧ True) ∧ [r_4] = [ofL 2 (List.map iv (addF zs (a, b)))]))) ∧ (b_1 = true → ∃ (r : D), PureD Try.prog 32 [x] [r] ∧ fits [(false, [some 2])] [r] ∧ (PlainD r ∧ True) ∧ [r] = [ofL 2 (List.map iv (addF zs (a, b)))])) := by kernel_rfl
set_option maxHeartbeats 4000000 in
theorem add1 (x : D) (zs : List (Int × Int)) (a b : Int) (hX : IsL 2 (zs.map iv) x) (hm : zs.length ≤ 10000) (hr : rgd (a, b) = true) (hc : chkF zs = 0) (he : emp (a, b) = false) : PureD Try.prog 11 [x, .agg [.v (.int .i64 a), .v (.int .i64 b)]] [ofL 2 ((addF zs (a, b)).map iv)] := by
  refine pure_cond (Lp := (fun k => if k = 3006 then some ⟨[], [], [3, 5, 6], [(3, [0, 1], []), (5, [], [0]), (6, [0], [])]⟩ else if k = 4006 then some ⟨[40], [], [], []⟩ else none)) (by kernel_rfl) Try.func11 (by kernel_rfl) (by kernel_rfl) ?_
  rw [vc_add1 x zs a b]
  have EA := each x hX.notAgg
  have T := takes x zs a b hX (by omega)
  rw [hr, hc] at T
  have R := empty a b
  simp only [Bool.true_and, decide_true] at T
  rw [he] at R
  repeat' (first
    | (refine ex_some (by simp (disch := omega) only [bin_shr, bin_shl, bin_and, bin_or, bin_xor, len_str, toStr_ofL, bin_add, bin_sub, bin_mul, bin_quo, bin_rem, bin_lss, bin_leq, bin_gtr, bin_geq, bin_eql, bin_neq, eqs_cn, eqs_ci, eqs_cb, eqs_cs, Option.map_some, lenT_ofL, lst_ofL, lstSz_ofL, chunk_one, lst_nil, lst_sl, lstSz_sl, lstSz_nil, Bool.and_true, Bool.true_and, Bool.and_false, Bool.false_and, beq_self_eq_true, beq_bb, bne_bb, un_not, un_neg, conv_int, min2_int, max2_int, w64, w32, wu8, wu16, wu32, wu64, tdiv_nn, tmod_nn, cell_zero, cell_succ, cell_v, cells_v, cells_agg, Bool.not_true, Bool.not_false, Int.reduceLT, Int.reduceLE, Int.reduceEq, Int.reduceNeg, Int.reduceAdd, Int.reduceSub, Int.reduceMul, intOf_v, decide_true, decide_false, app2r, List.length_map, List.length_append, List.length_cons, List.length_nil]; rfl) ?_)
    | (refine ex_bool ?_)
    | (refine ⟨_, EA, ?_⟩)
    | (refine ⟨_, T, ?_⟩)
    | (refine ⟨_, R, ?_⟩)
    | (refine ⟨_, zs.map fun z => [iv z], (fun k r => r = [.v (.int .i64 ((zs.take k).foldl addS ([], false, (a, b))).2.2.1), .v (.int .i64 ((zs.take k).foldl addS ([], false, (a, b))).2.2.2), .v (.bool ((zs.take k).foldl addS ([], false, (a, b))).2.1), ofL 2 (((zs.take k).foldl addS ([], false, (a, b))).1.map iv)]), rfl, seq_each hX (by omega), fits_iv zs, ?_, ?_, ?_⟩)
    | (exact rfl)
    | (refine fun (k : Nat) (r : D) (hk : (zs.map fun z => [iv z])[k]? = some [r]) => ?_; obtain ⟨hk1, rfl⟩ := iv_at hk; clear hk; refine fun (r4 r5 r6 r7 : D) (hI : (fun k r => r = [.v (.int .i64 ((zs.take k).foldl addS ([], false, (a, b))).2.2.1), .v (.int .i64 ((zs.take k).foldl addS ([], false, (a, b))).2.2.2), .v (.bool ((zs.take k).foldl addS ([], false, (a, b))).2.1), ofL 2 (((zs.take k).foldl addS ([], false, (a, b))).1.map iv)]) k [r4, r5, r6, r7]) => ?_; have hl0 := hI; simp only [List.cons.injEq, and_true] at hl0; obtain ⟨rfl, rfl, rfl, rfl⟩ := hl0; have ht := foldl_succ (0, 0) hk1 addS ([], false, (a, b)); have hlen := add_len (a, b) (zs.take k); rw [List.length_take] at hlen; generalize zs.getD k (0, 0) = z at ht; obtain ⟨p, q⟩ := z; simp only [iv, cell_zero, cell_succ, cells_agg, List.length_cons, List.length_nil]; generalize hu : (zs.take k).foldl addS ([], false, (a, b)) = s at ht hlen; obtain ⟨u, w, c, d⟩ := s; simp only at hlen; have hf1 : q < c → (zs.take (k + 1)).foldl addS ([], false, (a, b)) = (u ++ [(p, q)], w, (c, d)) := fun h => (by rw [ht]; simp [addS, h]); have hf2 : c ≤ q → d < p → w = false → (zs.take (k + 1)).foldl addS ([], false, (a, b)) = (u ++ [(c, d)] ++ [(p, q)], true, (c, d)) := fun h h2 h3 => (by rw [ht]; simp [addS, h2, h3, Int.not_lt.2 h]); have hf3 : c ≤ q → d < p → w = true → (zs.take (k + 1)).foldl addS ([], false, (a, b)) = (u ++ [(p, q)], w, (c, d)) := fun h h2 h3 => (by rw [ht]; simp [addS, h2, h3, Int.not_lt.2 h]); have hf4 : c ≤ q → p ≤ d → (zs.take (k + 1)).foldl addS ([], false, (a, b)) = (u, w, (min c p, max d q)) := fun h h2 => (by rw [ht]; simp [addS, Int.not_lt.2 h, Int.not_lt.2 h2]); have inl1 : True := trivial)
    | (refine fun (r4 r5 r6 r7 : D) (hI : (fun k r => r = [.v (.int .i64 ((zs.take k).foldl addS ([], false, (a, b))).2.2.1), .v (.int .i64 ((zs.take k).foldl addS ([], false, (a, b))).2.2.2), .v (.bool ((zs.take k).foldl addS ([], false, (a, b))).2.1), ofL 2 (((zs.take k).foldl addS ([], false, (a, b))).1.map iv)]) (zs.map fun z => [iv z]).length [r4, r5, r6, r7]) => ?_; rw [List.length_map] at hI; have hl0 := hI; simp only [List.cons.injEq, and_true] at hl0; obtain ⟨rfl, rfl, rfl, rfl⟩ := hl0; rw [List.take_length]; have hlen := add_len (a, b) zs; have hg0 : (zs.foldl addS ([], false, (a, b))).2.1 = false → addF zs (a, b) = (zs.foldl addS ([], false, (a, b))).1 ++ [(zs.foldl addS ([], false, (a, b))).2.2] := fun h => (by unfold addF; simp only [h]; rfl); have hg1 : (zs.foldl addS ([], false, (a, b))).2.1 = true → addF zs (a, b) = (zs.foldl addS ([], false, (a, b))).1 := fun h => (by unfold addF; simp only [h]; rfl); generalize zs.foldl addS ([], false, (a, b)) = s at hlen hg0 hg1; obtain ⟨u, w, c, d⟩ := s; simp only at hlen hg0 hg1; have out1 : True := trivial)
    | (have := inl1; rw [hf1] <;> first | assumption | first | rfl | exact af1 _ _ _ _)
    | (have := inl1; rw [hf4] <;> first | assumption | rfl)
    | (have := inl1; rw [hf2] <;> first | assumption | first | rfl | exact af2 _ _ _ _ _ _)
    | (have := inl1; rw [hf3] <;> first | assumption | first | rfl | exact af1 _ _ _ _)
    | (refine And.intro ?_ ?_)
    | (intro hx; have hprop := (show ∀ (p : Prop), p → True from fun _ _ => True.intro) _ hx; clear hprop; first | (cases hx; done) | (exfalso; revert hx; simp (disch := omega) only [decide_eq_true_eq, decide_eq_false_iff_not, Bool.not_eq_true', Bool.not_eq_false', Bool.and_eq_true, Bool.and_eq_false_iff, Int.not_lt, Int.not_le, ne_eq, not_false_eq_true, not_true_eq_false, reduceCtorEq, Bool.true_eq_false, Bool.false_eq_true, beq_iff_eq, bne_iff_ne, beq_eq_false_iff_ne, false_or, or_false, true_and, and_true, app2r, List.length_map, List.length_append, List.length_cons, List.length_nil]; done) | (simp (disch := omega) only [decide_eq_true_eq, decide_eq_false_iff_not, Bool.not_eq_true', Bool.not_eq_false', Bool.and_eq_true, Bool.and_eq_false_iff, Int.not_lt, Int.not_le, ne_eq, not_false_eq_true, not_true_eq_false, reduceCtorEq, Bool.true_eq_false, Bool.false_eq_true, beq_iff_eq, bne_iff_ne, beq_eq_false_iff_ne, false_or, or_false, true_and, and_true, app2r, List.length_map, List.length_append, List.length_cons, List.length_nil] at hx; first | (exfalso; omega) | skip) | skip)
    | trivial
    | exact fit_ofL _ _
    | (simp (disch := omega) only [notAgg_v, notAgg_sl, plain_v, fits, fitsOne, fitsCells, xsOf, cell_zero, cell_succ, List.range, List.range.loop, List.map, cond_true, cond_false, D.v.injEq, exists_eq', exists_eq, and_self, and_true, true_and, D.agg.injEq, List.length, exists_eq_left', D.sl.injEq, reduceCtorEq, false_or, true_or, or_true, or_false, cell_zero, cell_succ, cell_v, cells_v, cells_agg, List.length_cons, List.length_nil, app2r, List.length_map, List.length_append, List.length_cons, List.length_nil]; done))
  all_goals first
    | (exfalso; omega)
    | omega
    | exact notAgg_fn _ _
    | exact hX.notAgg
    | exact plain_ofL (ivs_plain _)
    | (rw [app2r]; exact plain_ofL (ivs_plain _))
    | rfl
    | exact app2 _ _ _
    | (rw [ch2]; simp only [List.length_map, List.length_append, List.length_cons, List.length_nil]; omega)
    | (rw [hg1 hx]; done)
    | (rw [hg0 hx]; exact congrArg (fun t => [t]) (app2 _ _ _).symm)
    | assumption
    | (simp only [List.length_map]; omega)
    | (simp_all [kp]; done)
    | (simp_all; done)
    | fail

end Go.Proofs.Ytpbmlllffmkkdaa