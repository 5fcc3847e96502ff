/-
  Layer 12: the law RecvqTakes.
-/
import Derived.Test.YtoeefdjomhbnlaaT1
import Derived.Test.YtoeefdjomhbnlaaT2
import Derived.Test.YtoeefdjomhbnlaaT3
import Derived.Test.YtoeefdjomhbnlaaT4
import Derived.Test.YtoeefdjomhbnlaaT5
import Derived.Test.YtoeefdjomhbnlaaT6
import Derived.Test.YtoeefdjomhbnlaaT7
import Derived.Test.YtoeefdjomhbnlaaT8
import Derived.Test.YtoeefdjomhbnlaaT10
import Derived.Test.YtoeefdjomhbnlaaT11
import Derived.Test.YtoeefdjomhbnlaaT13
import Derived.Test.YtoeefdjomhbnlaaT15
import Derived.Test.YtoeefdjomhbnlaaT16
import Derived.Test.YtoeefdjomhbnlaaT17
import Derived.Test.YtoeefdjomhbnlaaT18
import Derived.Test.YtoeefdjomhbnlaaT19
import Derived.Test.YtoeefdjomhbnlaaT20
namespace Go.Proofs.Ytoeefdjomhbnlaa
open Go.RowKit
set_option linter.unusedSimpArgs false
set_option linter.unusedVariables false


def putA (S : SS) (v : Int) (s : List Int) : SS := if chkF S.b S.r.length S.ps = 0 ∧ 0 ≤ v ∧ v ≤ 1099511627776 then putF S v s else S
theorem putA_ok {S : SS} (h : S.Ok) {v : Int} (v0 : 0 ≤ v) (v1 : v ≤ 1099511627776) (s : List Int) : putA S v s = putF S v s := if_pos ⟨chk_ok.2 h, v0, v1⟩
theorem bytes_run : ∀ {s : List Int} {S : SS} {v : Int}, BytesL S.ps → Bytes S.r → Bytes s → BytesL (runO S v s).1.ps ∧ Bytes (runO S v s).1.r
  | [], _, _, h, k, _ => ⟨h, k⟩
  | c :: s, S, v, h, k, hs => by
    have h1 := bytes_one (v := v) (c := [c]) h k (fun z hz => by simp at hz; subst hz; exact hs z (by simp))
    exact bytes_run (s := s) h1.1 h1.2 fun z hz => hs z (by simp [hz])
theorem putF_bytes {S : SS} (h : S.Ok) (hb : BytesL S.ps) (hr : Bytes S.r) {v : Int} {s : List Int} (hs : Bytes s) : BytesL (putF S v s).ps ∧ Bytes (putF S v s).r := by
  rw [← (run_put h v s).1]; exact bytes_run hb hr hs
theorem putA_keep {S : SS} (hP : AllB S.ps) (hm : S.ps.length ≤ 90000) (hl : S.r.length ≤ 100000) (hr : Bytes S.r) {v : Int} {s : List Int} (hs : Bytes s) : AllB (putA S v s).ps ∧ (putA S v s).ps.length ≤ 90000 ∧ Bytes (putA S v s).r ∧ (putA S v s).r.length ≤ 100000 := by
  unfold putA
  split
  · rename_i h
    have ho := chk_ok.1 h.1
    have hk := (put_ok ho v s).ok
    have hb := putF_bytes ho (fun p hp => (hP p hp).1) hr (v := v) hs
    refine ⟨hk.all hb.1, ?_, hb.2, ?_⟩
    · have := hk.len; omega
    · have := hk.r; omega
  · exact ⟨hP, hm, hr, hl⟩
theorem putF_tot {S : SS} {v : Int} {s : List Int} (hc : fromF S v < toF S v s) (h : S.Ok) : ((putF S v s).tot : Int) - S.tot = totL (putL S.ps (freshF S v s)) - totL S.ps := by
  have e : putF S v s = settleF S.b S.r (putL S.ps (freshF S v s)) := if_pos hc
  have hl := fresh_len hc
  have hbl := h.b
  have h1 : (freshF S v s).1 = fromF S v := rfl
  have hne : (freshF S v s).2 ≠ [] := by rw [ne_len]; omega
  have he : endP (freshF S v s) ≤ S.lim := by simp only [endP]; rw [hl, h1]; simp only [toF]; omega
  obtain ⟨w1, w2⟩ := putL_spec (last' := S.b - 1) h.w (by omega) (by rw [h1]; simp only [fromF]; omega) hne he
  have := (settle_spec (r := S.r) w1).2.2.2.2.2
  rw [e, this, SS.tot, held_tot]; omega
theorem put_c {S : SS} {x : D} {v : Int} {s : List Int} (hX : IsL 2 (S.ps.map ptD) x) (hP : AllB S.ps) (hm : S.ps.length ≤ 90000) (hr : S.r.length ≤ 100000) (hs : s.length ≤ 100000) (v0 : -9223372036854775808 ≤ v) :
    ∃ y, IsL 2 ((putA S v s).ps.map ptD) y ∧ ReadD Try.prog 11 [.agg [.v (.int .i64 S.b), str S.r, x], .v (.int .i64 v), str s] [.agg [.v (.int .i64 (putA S v s).b), str (putA S v s).r, y], .v (.int .i64 ((putA S v s).tot - S.tot))] := by
  unfold putA
  by_cases h : chkF S.b S.r.length S.ps = 0 ∧ 0 ≤ v ∧ v ≤ 1099511627776
  · rw [if_pos h]
    have ho := chk_ok.1 h.1
    by_cases hc : fromF S v < toF S v s
    · exact ⟨_, .inl rfl, put_yes x S.ps S.b S.r s v _ _ _ _ hX hP hm hs ho h.2.1 h.2.2 hc rfl rfl rfl (putF_tot hc ho)⟩
    · have e : putF S v s = S := if_neg hc
      rw [e]
      exact ⟨x, hX, put_no x S.ps S.b S.r s v _ _ _ _ hX hP (by omega) hr hs v0 (fun hh => hc hh.2.2.2) rfl rfl rfl (by omega)⟩
  · rw [if_neg h]
    exact ⟨x, hX, put_no x S.ps S.b S.r s v _ _ _ _ hX hP (by omega) hr hs v0 (fun hh => h ⟨chk_ok.2 hh.1, hh.2.1, hh.2.2.1⟩) rfl rfl rfl (by omega)⟩
theorem rput_c {S : SS} {x : D} {v : Int} {s : List Int} (hX : IsL 2 (S.ps.map ptD) x) (hP : AllB S.ps) (hm : S.ps.length ≤ 90000) (hr : S.r.length ≤ 100000) (hrb : Bytes S.r) (hs : s.length ≤ 100000) (hbs : Bytes s) :
    ∃ y, IsL 2 ((putA S v s).ps.map ptD) y ∧ ReadD Try.prog 12 [.agg [.v (.int .i64 S.b), str S.r, x], .v (.int .i64 v), str s] [.agg [.v (.int .i64 (putA S v s).b), str (putA S v s).r, y], .v (.int .i64 ((putA S v s).tot - S.tot))] := by
  unfold putA
  by_cases h : chkF S.b S.r.length S.ps = 0 ∧ 0 ≤ v ∧ v ≤ 1099511627776
  · rw [if_pos h]
    have ho := chk_ok.1 h.1
    obtain ⟨e1, e2⟩ := run_put ho v s
    have hy := runY_is ho (fun p hp => (hP p hp).1) hrb hbs hX h.2.1 (by omega : v + s.length ≤ 1099511727776)
    rw [e1] at hy
    refine ⟨_, hy, ?_⟩
    exact rput_yes x S.ps S.b S.r s v _ _ _ _ hX hP hr hrb hs hbs ho h.2.1 h.2.2 (by rw [e1]) (by rw [e1]) rfl (by have e3 : (runO ⟨S.b, S.r, S.ps⟩ v s).2 = (runO S v s).2 := rfl; rw [e2, e3]; omega)
  · rw [if_neg h]
    exact ⟨x, hX, rput_no x S.ps S.b S.r s v _ _ _ _ hX hP (by omega) hr (fun hh => h ⟨chk_ok.2 hh.1, hh.2.1, hh.2.2⟩) rfl rfl rfl (by omega)⟩
theorem heldF_le {r : List Int} {ps : List Pt} (hP : AllB ps) (hm : ps.length ≤ 90000) (hr : r.length ≤ 100000) : (heldF r ps : Int) ≤ 9000100000 := by
  have := tot_le (l := ps) (c := 100000) fun p hp => (hP p hp).2
  rw [held_tot]; omega

theorem vc_takes (x : D) (ps : List Pt) (b : Int) (r s : List Int) (n m : Int) : Cond Try.prog (fun _ => none) Try.f3 [.agg [.v (.int .i64 b), str r, x], str s, .agg [.v (.int .i64 n), .v (.int .i64 m)]] [.v (.bool true)] = (((∃ (cs : List D), D.agg [D.v (Value.int IntKind.i64 b), str r, x] = D.agg cs ∧ cs.length = 3) ∧ NotAgg (str s) ∧ (∃ (cs : List D), D.agg [D.v (Value.int IntKind.i64 n), D.v (Value.int IntKind.i64 m)] = D.agg cs ∧ cs.length = 2) ∧ True) ∧ ∃ (r_1 : D), PureD Try.prog 8 [D.agg [D.v (Value.int IntKind.i64 b), str r, x]] [r_1] ∧ fits [(false, [none])] [r_1] ∧ ∃ (r_2 : D), D.un UnOp.not r_1 = some r_2 ∧ ∃ (b_1 : Bool), r_2 = D.v (Value.bool b_1) ∧ (b_1 = false → ∃ (r_3 : D), D.lenT TypeDesc.string (str s) = some r_3 ∧ ∃ (r_4 : D), D.bin BinOp.gtr r_3 (D.v (Value.int IntKind.i64 100)) = some r_4 ∧ ∃ (b_2 : Bool), r_4 = D.v (Value.bool b_2) ∧ (b_2 = true → ∃ (r : D), PureD Try.prog 9 [] [r] ∧ fits [(false, [none])] [r] ∧ ((∃ (y : Value), r = D.v y) ∧ True) ∧ [r] = [D.v (Value.bool true)]) ∧ (b_2 = false → ∃ (r_5 : D), PureD Try.prog 10 [D.agg [D.v (Value.int IntKind.i64 b), str r, x]] [r_5] ∧ fits [(true, [none, none, some 2])] [r_5] ∧ ∃ (r_6 : D), ∃ (r_7 : D), ReadD Try.prog 11 [D.agg [r_5.cell 0, r_5.cell 1, r_5.cell 2], D.v (Value.int IntKind.i64 n), str s] [r_6, r_7] ∧ ((∃ (cs : List D), r_6 = D.agg cs ∧ cs.length = [none, none, some 2].length) ∧ NotAgg r_7 ∧ True) ∧ ∃ (r_8 : D), ∃ (r_9 : D), ReadD Try.prog 12 [D.agg [D.v (Value.int IntKind.i64 b), str r, x], D.v (Value.int IntKind.i64 n), str s] [r_8, r_9] ∧ ((∃ (cs : List D), r_8 = D.agg cs ∧ cs.length = [none, none, some 2].length) ∧ NotAgg r_9 ∧ True) ∧ ∃ (r_10 : D), ∃ (r_11 : D), PureD Try.prog 13 [D.agg [r_5.cell 0, r_5.cell 1, r_5.cell 2], D.v (Value.int IntKind.i64 m)] [r_10, r_11] ∧ fits [(true, [none, none, some 2]), (false, [none])] [r_10, r_11] ∧ ∃ (r_12 : D), ∃ (r_13 : D), ReadD Try.prog 14 [D.agg [D.v (Value.int IntKind.i64 b), str r, x], D.v (Value.int IntKind.i64 m)] [r_12, r_13] ∧ ((∃ (cs : List D), r_12 = D.agg cs ∧ cs.length = [none, none, some 2].length) ∧ NotAgg r_13 ∧ True) ∧ ∃ (r_14 : D), PureD Try.prog 16 [D.agg [r_6.cell 0, r_6.cell 1, r_6.cell 2]] [r_14] ∧ fits [(true, [none, none, some 2])] [r_14] ∧ ∃ (r_15 : D), PureD Try.prog 15 [D.agg [r_14.cell 0, r_14.cell 1, r_14.cell 2], D.agg [r_8.cell 0, r_8.cell 1, r_8.cell 2]] [r_15] ∧ fits [(false, [none])] [r_15] ∧ ∃ (b_3 : Bool), r_15 = D.v (Value.bool b_3) ∧ (b_3 = true → ∃ (r_16 : D), D.bin BinOp.eql r_7 r_9 = some r_16 ∧ ∃ (b_4 : Bool), r_16 = D.v (Value.bool b_4) ∧ (b_4 = true → ∃ (r_17 : D), PureD Try.prog 16 [D.agg [r_10.cell 0, r_10.cell 1, r_10.cell 2]] [r_17] ∧ fits [(true, [none, none, some 2])] [r_17] ∧ ∃ (r_18 : D), PureD Try.prog 15 [D.agg [r_17.cell 0, r_17.cell 1, r_17.cell 2], D.agg [r_12.cell 0, r_12.cell 1, r_12.cell 2]] [r_18] ∧ fits [(false, [none])] [r_18] ∧ ∃ (b_5 : Bool), r_18 = D.v (Value.bool b_5) ∧ (b_5 = true → ∃ (r_19 : D), D.bin BinOp.eql r_11 r_13 = some r_19 ∧ ∃ (b_6 : Bool), r_19 = D.v (Value.bool b_6) ∧ (b_6 = true → ∃ (r_20 : D), PureD Try.prog 16 [D.agg [r_5.cell 0, r_5.cell 1, r_5.cell 2]] [r_20] ∧ fits [(true, [none, none, some 2])] [r_20] ∧ ∃ (r_21 : D), PureD Try.prog 15 [D.agg [r_20.cell 0, r_20.cell 1, r_20.cell 2], D.agg [D.v (Value.int IntKind.i64 b), str r, x]] [r_21] ∧ fits [(false, [none])] [r_21] ∧ ∃ (b : Bool), r_21 = D.v (Value.bool b) ∧ (b = true → ∃ (r : D), PureD Try.prog 9 [] [r] ∧ fits [(false, [none])] [r] ∧ ((∃ (y : Value), r = D.v y) ∧ True) ∧ [r] = [D.v (Value.bool true)]) ∧ (b = false → (True ∧ True) ∧ [D.v (Value.bool false)] = [D.v (Value.bool true)])) ∧ (b_6 = false → (True ∧ True) ∧ [D.v (Value.bool false)] = [D.v (Value.bool true)])) ∧ (b_5 = false → (True ∧ True) ∧ [D.v (Value.bool false)] = [D.v (Value.bool true)])) ∧ (b_4 = false → (True ∧ True) ∧ [D.v (Value.bool false)] = [D.v (Value.bool true)])) ∧ (b_3 = false → (True ∧ True) ∧ [D.v (Value.bool false)] = [D.v (Value.bool true)]))) ∧ (b_1 = true → ∃ (r : D), PureD Try.prog 9 [] [r] ∧ fits [(false, [none])] [r] ∧ ((∃ (y : Value), r = D.v y) ∧ True) ∧ [r] = [D.v (Value.bool true)])) := by kernel_rfl
set_option maxHeartbeats 16000000 in
theorem takes (x : D) (ps : List Pt) (b : Int) (r s : List Int) (n m : Int) (hX : IsL 2 (ps.map ptD) x) (hr : Bytes r) (hs : Bytes s) (hP : BytesL ps) (hn : I64 n) : PureD Try.prog 3 [.agg [.v (.int .i64 b), str r, x], str s, .agg [.v (.int .i64 n), .v (.int .i64 m)]] [.v (.bool true)] := by
  refine pure_cond (Lp := (fun _ => none)) (by kernel_rfl) Try.func3 (by kernel_rfl) (by kernel_rfl) ?_
  rw [vc_takes x ps b r s n m]
  have awake := awake
  have e1 : True := trivial
  cases hl1 : lightF r ps
  · have LT1 := light x ps b r hX
    rw [hl1] at LT1
    repeat' (first
      | (refine ex_some (by simp (disch := omega) only [bin_shr, bin_shl, bin_and, bin_or, bin_xor, len_str, toStr_ofL, bin_add, bin_sub, bin_mul, bin_quo, bin_rem, bin_lss, bin_leq, bin_gtr, bin_geq, bin_eql, bin_neq, eqs_cn, eqs_ci, eqs_cb, eqs_cs, Option.map_some, lenT_ofL, lst_ofL, lstSz_ofL, chunk_one, lst_nil, lst_sl, lstSz_sl, lstSz_nil, Bool.and_true, Bool.true_and, Bool.and_false, Bool.false_and, beq_self_eq_true, beq_bb, bne_bb, un_not, un_neg, conv_int, min2_int, max2_int, w64, w32, wu8, wu16, wu32, wu64, tdiv_nn, tmod_nn, cell_zero, cell_succ, cell_v, cells_v, cells_agg, Bool.not_true, Bool.not_false, Int.reduceLT, Int.reduceLE, Int.reduceEq, Int.reduceNeg, Int.reduceAdd, Int.reduceSub, Int.reduceMul, intOf_v, decide_true, decide_false]; rfl) ?_)
      | (refine ex_bool ?_)
      | (refine ⟨_, awake, ?_⟩)
      | (refine ⟨_, LT1, ?_⟩)
      | (refine And.intro ?_ ?_)
      | (intro hx; have hprop := (show ∀ (p : Prop), p → True from fun _ _ => True.intro) _ hx; clear hprop; first | (cases hx; done) | (exfalso; revert hx; simp (disch := omega) only [decide_eq_true_eq, decide_eq_false_iff_not, Bool.not_eq_true', Bool.not_eq_false', Bool.and_eq_true, Bool.and_eq_false_iff, Int.not_lt, Int.not_le, ne_eq, not_false_eq_true, not_true_eq_false, reduceCtorEq, Bool.true_eq_false, Bool.false_eq_true, beq_iff_eq, bne_iff_ne, beq_eq_false_iff_ne, false_or, or_false, true_and, and_true]; done) | (simp (disch := omega) only [decide_eq_true_eq, decide_eq_false_iff_not, Bool.not_eq_true', Bool.not_eq_false', Bool.and_eq_true, Bool.and_eq_false_iff, Int.not_lt, Int.not_le, ne_eq, not_false_eq_true, not_true_eq_false, reduceCtorEq, Bool.true_eq_false, Bool.false_eq_true, beq_iff_eq, bne_iff_ne, beq_eq_false_iff_ne, false_or, or_false, true_and, and_true] at hx; first | (exfalso; omega) | skip) | skip)
      | trivial
      | exact fit_ofL _ _
      | (simp (disch := omega) only [notAgg_v, notAgg_sl, plain_v, fits, fitsOne, fitsCells, xsOf, cell_zero, cell_succ, List.range, List.range.loop, List.map, cond_true, cond_false, D.v.injEq, exists_eq', exists_eq, and_self, and_true, true_and, D.agg.injEq, List.length, exists_eq_left', D.sl.injEq, reduceCtorEq, false_or, true_or, or_true, or_false, cell_zero, cell_succ, cell_v, cells_v, cells_agg, List.length_cons, List.length_nil]; done))
    all_goals first
      | (exfalso; omega)
      | omega
      | exact fitP hX
      | exact plainP hX
      | exact fit_ofL _ _
      | exact plain_ofL (pts_plain _)
      | exact plain_ofL (ivs_plain _)
      | exact hX.notAgg
      | exact .inl rfl
      | exact notAgg_v _
      | exact ⟨_, rfl⟩
      | exact ⟨_, rfl, rfl⟩
      | rfl
      | assumption
      | (simp; done)
      | fail
  · have LT1 := light x ps b r hX
    rw [hl1] at LT1
    by_cases hsl : s.length ≤ 100
    · obtain ⟨a1, a2, hPA⟩ := light_all hl1 hP
      have OX := isL_ofL 2 (ps.map ptD)
      have OW1 := ownS x ps b r hX (by omega)
      obtain ⟨y1, hY1, P1⟩ := put_c (S := ⟨b, r, ps⟩) (v := n) (s := s) OX hPA (by show ps.length ≤ _; omega) (by show r.length ≤ _; omega) (by omega) hn.1
      obtain ⟨y2, hY2, P2⟩ := rput_c (S := ⟨b, r, ps⟩) (v := n) (s := s) hX hPA (by show ps.length ≤ _; omega) (by show r.length ≤ _; omega) hr (by omega) hs
      obtain ⟨k1, k2, k3, k4⟩ := putA_keep (S := ⟨b, r, ps⟩) (v := n) (s := s) hPA (by show ps.length ≤ _; omega) (by show r.length ≤ _; omega) hr hs
      have R1 := read _ ps b r m OX hPA (by omega) (by omega)
      have R2 := rread x ps b r m hX hPA (by omega) (by omega)
      have hT : -9000200000 ≤ ((putA ⟨b, r, ps⟩ n s).tot : Int) - (SS.mk b r ps).tot ∧ ((putA ⟨b, r, ps⟩ n s).tot : Int) - (SS.mk b r ps).tot ≤ 9000200000 := by
        have := heldF_le k1 k2 k4
        have := heldF_le hPA (by omega) (show r.length ≤ 100000 by omega)
        simp only [SS.tot]; omega
      simp only at P1 P2 hY1 hY2
      generalize ((putA ⟨b, r, ps⟩ n s).tot : Int) - (SS.mk b r ps).tot = tt at P1 P2 hT
      generalize putA ⟨b, r, ps⟩ n s = T at *
      obtain ⟨tb, tr, tp⟩ := T
      simp only at *
      have B1 := backS y1 tp tb tr hY1 (by omega)
      have M1 := rsame _ y2 tp tp tb tb tr tr (isL_ofL 2 _) hY2 (by omega) (by omega) k1 k1 k3 k3
      have B2 := backS _ ps b (r.drop (readN b r ps m)) OX (by omega)
      have M2 := rsame _ x ps ps b b (r.drop (readN b r ps m)) (r.drop (readN b r ps m)) (isL_ofL 2 _) hX (by omega) (by omega) hPA hPA (hr.drop _) (hr.drop _)
      have B3 := backS _ ps b r OX (by omega)
      have M3 := rsame _ x ps ps b b r r (isL_ofL 2 _) hX (by omega) (by omega) hPA hPA hr hr
      rw [sameS_self] at M1 M2 M3
      have hq := bin_seql (hr.take (readN b r ps m)) (hr.take (readN b r ps m))
      simp only [decide_true] at hq
      have hy3 : Bytes (r.take (readN b r ps m)) := hr.take _
      repeat' (first
        | (refine ex_some (by simp (disch := omega) only [bin_shr, bin_shl, bin_and, bin_or, bin_xor, len_str, toStr_ofL, bin_add, bin_sub, bin_mul, bin_quo, bin_rem, bin_lss, bin_leq, bin_gtr, bin_geq, bin_eql, bin_neq, eqs_cn, eqs_ci, eqs_cb, eqs_cs, Option.map_some, lenT_ofL, lst_ofL, lstSz_ofL, chunk_one, lst_nil, lst_sl, lstSz_sl, lstSz_nil, Bool.and_true, Bool.true_and, Bool.and_false, Bool.false_and, beq_self_eq_true, beq_bb, bne_bb, un_not, un_neg, conv_int, min2_int, max2_int, w64, w32, wu8, wu16, wu32, wu64, tdiv_nn, tmod_nn, cell_zero, cell_succ, cell_v, cells_v, cells_agg, Bool.not_true, Bool.not_false, Int.reduceLT, Int.reduceLE, Int.reduceEq, Int.reduceNeg, Int.reduceAdd, Int.reduceSub, Int.reduceMul, intOf_v, decide_true, decide_false, hq]; rfl) ?_)
        | (refine ex_bool ?_)
        | (refine ⟨_, _, P1, ?_⟩)
        | (refine ⟨_, _, P2, ?_⟩)
        | (refine ⟨_, _, R1, ?_⟩)
        | (refine ⟨_, _, R2, ?_⟩)
        | (refine ⟨_, awake, ?_⟩)
        | (refine ⟨_, LT1, ?_⟩)
        | (refine ⟨_, OW1, ?_⟩)
        | (refine ⟨_, B1, ?_⟩)
        | (refine ⟨_, M1, ?_⟩)
        | (refine ⟨_, B2, ?_⟩)
        | (refine ⟨_, M2, ?_⟩)
        | (refine ⟨_, B3, ?_⟩)
        | (refine ⟨_, M3, ?_⟩)
        | (refine And.intro ?_ ?_)
        | (intro hx; have hprop := (show ∀ (p : Prop), p → True from fun _ _ => True.intro) _ hx; clear hprop; first | (cases hx; done) | (exfalso; revert hx; simp (disch := omega) only [decide_eq_true_eq, decide_eq_false_iff_not, Bool.not_eq_true', Bool.not_eq_false', Bool.and_eq_true, Bool.and_eq_false_iff, Int.not_lt, Int.not_le, ne_eq, not_false_eq_true, not_true_eq_false, reduceCtorEq, Bool.true_eq_false, Bool.false_eq_true, beq_iff_eq, bne_iff_ne, beq_eq_false_iff_ne, false_or, or_false, true_and, and_true, hq]; done) | (simp (disch := omega) only [decide_eq_true_eq, decide_eq_false_iff_not, Bool.not_eq_true', Bool.not_eq_false', Bool.and_eq_true, Bool.and_eq_false_iff, Int.not_lt, Int.not_le, ne_eq, not_false_eq_true, not_true_eq_false, reduceCtorEq, Bool.true_eq_false, Bool.false_eq_true, beq_iff_eq, bne_iff_ne, beq_eq_false_iff_ne, false_or, or_false, true_and, and_true, hq] at hx; first | (exfalso; omega) | skip) | skip)
        | trivial
        | exact fit_ofL _ _
        | (simp (disch := omega) only [notAgg_v, notAgg_sl, plain_v, fits, fitsOne, fitsCells, xsOf, cell_zero, cell_succ, List.range, List.range.loop, List.map, cond_true, cond_false, D.v.injEq, exists_eq', exists_eq, and_self, and_true, true_and, D.agg.injEq, List.length, exists_eq_left', D.sl.injEq, reduceCtorEq, false_or, true_or, or_true, or_false, cell_zero, cell_succ, cell_v, cells_v, cells_agg, List.length_cons, List.length_nil, hq]; done))
      all_goals first
        | (exfalso; omega)
        | omega
        | exact fitP hX
        | exact plainP hX
        | exact fitP hY1
        | exact plainP hY1
        | exact fitP hY2
        | exact plainP hY2
        | exact fit_ofL _ _
        | exact plain_ofL (pts_plain _)
        | exact plain_ofL (ivs_plain _)
        | exact hX.notAgg
        | exact .inl rfl
        | exact notAgg_v _
        | exact ⟨_, rfl⟩
        | exact ⟨_, rfl, rfl⟩
        | rfl
        | assumption
        | (simp; done)
        | fail
    · skip
      repeat' (first
        | (refine ex_some (by simp (disch := omega) only [bin_shr, bin_shl, bin_and, bin_or, bin_xor, len_str, toStr_ofL, bin_add, bin_sub, bin_mul, bin_quo, bin_rem, bin_lss, bin_leq, bin_gtr, bin_geq, bin_eql, bin_neq, eqs_cn, eqs_ci, eqs_cb, eqs_cs, Option.map_some, lenT_ofL, lst_ofL, lstSz_ofL, chunk_one, lst_nil, lst_sl, lstSz_sl, lstSz_nil, Bool.and_true, Bool.true_and, Bool.and_false, Bool.false_and, beq_self_eq_true, beq_bb, bne_bb, un_not, un_neg, conv_int, min2_int, max2_int, w64, w32, wu8, wu16, wu32, wu64, tdiv_nn, tmod_nn, cell_zero, cell_succ, cell_v, cells_v, cells_agg, Bool.not_true, Bool.not_false, Int.reduceLT, Int.reduceLE, Int.reduceEq, Int.reduceNeg, Int.reduceAdd, Int.reduceSub, Int.reduceMul, intOf_v, decide_true, decide_false]; rfl) ?_)
        | (refine ex_bool ?_)
        | (refine ⟨_, awake, ?_⟩)
        | (refine ⟨_, LT1, ?_⟩)
        | (refine And.intro ?_ ?_)
        | (intro hx; have hprop := (show ∀ (p : Prop), p → True from fun _ _ => True.intro) _ hx; clear hprop; first | (cases hx; done) | (exfalso; revert hx; simp (disch := omega) only [decide_eq_true_eq, decide_eq_false_iff_not, Bool.not_eq_true', Bool.not_eq_false', Bool.and_eq_true, Bool.and_eq_false_iff, Int.not_lt, Int.not_le, ne_eq, not_false_eq_true, not_true_eq_false, reduceCtorEq, Bool.true_eq_false, Bool.false_eq_true, beq_iff_eq, bne_iff_ne, beq_eq_false_iff_ne, false_or, or_false, true_and, and_true]; done) | (simp (disch := omega) only [decide_eq_true_eq, decide_eq_false_iff_not, Bool.not_eq_true', Bool.not_eq_false', Bool.and_eq_true, Bool.and_eq_false_iff, Int.not_lt, Int.not_le, ne_eq, not_false_eq_true, not_true_eq_false, reduceCtorEq, Bool.true_eq_false, Bool.false_eq_true, beq_iff_eq, bne_iff_ne, beq_eq_false_iff_ne, false_or, or_false, true_and, and_true] at hx; first | (exfalso; omega) | skip) | skip)
        | trivial
        | exact fit_ofL _ _
        | (simp (disch := omega) only [notAgg_v, notAgg_sl, plain_v, fits, fitsOne, fitsCells, xsOf, cell_zero, cell_succ, List.range, List.range.loop, List.map, cond_true, cond_false, D.v.injEq, exists_eq', exists_eq, and_self, and_true, true_and, D.agg.injEq, List.length, exists_eq_left', D.sl.injEq, reduceCtorEq, false_or, true_or, or_true, or_false, cell_zero, cell_succ, cell_v, cells_v, cells_agg, List.length_cons, List.length_nil]; done))
      all_goals first
        | (exfalso; omega)
        | omega
        | exact fitP hX
        | exact plainP hX
        | exact fit_ofL _ _
        | exact plain_ofL (pts_plain _)
        | exact plain_ofL (ivs_plain _)
        | exact hX.notAgg
        | exact .inl rfl
        | exact notAgg_v _
        | exact ⟨_, rfl⟩
        | exact ⟨_, rfl, rfl⟩
        | rfl
        | assumption
        | (simp; done)
        | fail


theorem typed_two {d : D} (h : TypedA (true, [.int .i64, .int .i64]) d) : ∃ a b, d = .agg [.v (.int .i64 a), .v (.int .i64 b)] ∧ I64 a ∧ I64 b := by
  obtain ⟨ds, rfl, k⟩ := h.agg
  clear h
  obtain ⟨a, ds, rfl, ha, h⟩ := k.cons_
  obtain ⟨b, ds, rfl, hb, h⟩ := h.cons_
  obtain rfl := h.nil_
  obtain ⟨a, rfl, wa⟩ := ha.int_
  obtain ⟨b, rfl, wb⟩ := hb.int_
  exact ⟨a, b, rfl, wf_i64 wa, wf_i64 wb⟩
theorem law_RecvqTakes (xs : List D) (h : All2 TypedA [(true, [.int .i64, .str, .sl true [.int .i64, .str]]), (false, [.str]), (true, [.int .i64, .int .i64])] xs) : PureD Try.prog 3 xs [.v (.bool true)] := by
  obtain ⟨x, xs, rfl, hx, h⟩ := h.cons_
  obtain ⟨y, xs, rfl, hy, h⟩ := h.cons_
  obtain ⟨z, xs, rfl, hz, h⟩ := h.cons_
  obtain rfl := h.nil_
  obtain ⟨b, r, x, ps, rfl, hX, _, hr, hP, _⟩ := typed_st hx
  obtain ⟨s, rfl, _⟩ := hy.one.str_
  obtain ⟨n, m, rfl, hn, _⟩ := typed_two hz
  rw [str_of]
  exact takes x ps b r (bytesOf s) n m hX hr (bytesOf_bd s) hP hn

end Go.Proofs.Ytoeefdjomhbnlaa