/-
  Layer 12: the law RecvqRoom.
-/
import Derived.Test.YtoeefdjomhbnlaaT1
import Derived.Test.YtoeefdjomhbnlaaT2
import Derived.Test.YtoeefdjomhbnlaaT3
import Derived.Test.YtoeefdjomhbnlaaT4
import Derived.Test.YtoeefdjomhbnlaaT5
import Derived.Test.YtoeefdjomhbnlaaT6
import Derived.Test.YtoeefdjomhbnlaaT7
import Derived.Test.YtoeefdjomhbnlaaT8
import Derived.Test.YtoeefdjomhbnlaaT10
import Derived.Test.YtoeefdjomhbnlaaT11
import Derived.Test.YtoeefdjomhbnlaaT13
import Derived.Test.YtoeefdjomhbnlaaT15
import Derived.Test.YtoeefdjomhbnlaaT16
import Derived.Test.YtoeefdjomhbnlaaT17
import Derived.Test.YtoeefdjomhbnlaaT18
import Derived.Test.YtoeefdjomhbnlaaT19
import Derived.Test.YtoeefdjomhbnlaaT20
import Derived.Test.YtoeefdjomhbnlaaT21
namespace Go.Proofs.Ytoeefdjomhbnlaa
open Go.RowKit
set_option linter.unusedSimpArgs false
set_option linter.unusedVariables false


theorem ok0 : (SS.mk 0 [] []).Ok := ok_dec (by decide)
theorem chk_e {b : Int} {n : Nat} (h0 : (n : Int) ≤ 4096) (h1 : (n : Int) ≤ b) (h2 : b ≤ 1099511627776) : chkF b n [] = 0 := by
  have : okS b n = true := by simp only [okS, decide_eq_true_eq]; omega
  rw [chk_yes this]; rfl
theorem ok_e {b : Int} {t : List Int} (h0 : (t.length : Int) ≤ 4096) (h1 : (t.length : Int) ≤ b) (h2 : b ≤ 1099511627776) : (SS.mk b t []).Ok := chk_ok.1 (chk_e h0 h1 h2)
theorem room1 {s : List Int} (h : s.length ≤ 200) : putA ⟨0, [], []⟩ 0 s = ⟨s.length, s, []⟩ := by
  rw [putA_ok ok0 (by omega) (by omega)]
  unfold putF
  split
  · rename_i hc
    have e1 : freshF ⟨0, [], []⟩ 0 s = (0, s) := by
      have h2 : toF ⟨0, [], []⟩ 0 s = s.length := by simp only [toF, SS.lim, limF, List.length_nil]; omega
      simp only [freshF, fromF, h2]
      simp
    have e2 : putL [] (0, s) = [(0, s)] := rfl
    simp only [e1, e2]
    have e3 : settleF 0 [] [(0, s)] = ⟨endP (0, s), [] ++ s, []⟩ := by simp [settleF]
    rw [e3]
    simp [endP]
  · rename_i hc
    have : s.length = 0 := by
      simp only [fromF, toF, SS.lim, limF, List.length_nil] at hc; omega
    have : s = [] := List.eq_nil_of_length_eq_zero this
    subst this; rfl
theorem room2 {L k : Nat} {t : List Int} (hk : k ≤ L) (h : L ≤ 200) (ht : t.length = L - k) : putA ⟨L, t, []⟩ (4096 + k) [120] = ⟨L, t, []⟩ := by
  have ho : (SS.mk L t []).Ok := ok_e (by omega) (by omega) (by omega)
  rw [putA_ok ho (by omega) (by omega)]
  refine if_neg ?_
  simp only [fromF, toF, SS.lim, limF, ht, List.length_cons, List.length_nil]; omega
theorem room3 {L k : Nat} {t : List Int} {w : Int} (hw : w = 4096 + k - 1) (hk : k ≤ L) (h : L ≤ 200) (ht : t.length = L - k) : putA ⟨L, t, []⟩ w [120, 121] = ⟨L, t, [(w, [120])]⟩ := by
  have ho : (SS.mk L t []).Ok := ok_e (by omega) (by omega) (by omega)
  rw [putA_ok ho (by omega) (by omega)]
  have hc : fromF ⟨L, t, []⟩ w < toF ⟨L, t, []⟩ w [120, 121] := by
    simp only [fromF, toF, SS.lim, limF, ht, List.length_cons, List.length_nil]; omega
  have e : putF ⟨L, t, []⟩ w [120, 121] = settleF L t (putL [] (freshF ⟨L, t, []⟩ w [120, 121])) := if_pos hc
  have f1 : fromF ⟨L, t, []⟩ w = w := by simp only [fromF]; omega
  have f2 : toF ⟨L, t, []⟩ w [120, 121] = w + 1 := by simp only [toF, SS.lim, limF, ht, List.length_cons, List.length_nil]; omega
  have e1 : freshF ⟨L, t, []⟩ w [120, 121] = (w, [120]) := by
    simp only [freshF, f1, f2]
    rw [show (w + 1 - w).toNat = 1 by omega, show (w - w).toNat = 0 by omega]; rfl
  have e2 : putL [] (w, [120]) = [(w, [120])] := rfl
  rw [e, e1, e2]
  exact if_neg (by simp only; omega)

theorem vc_room (s : List Int) (c : Int) : Cond Try.prog (fun _ => none) Try.f7 [str s, .v (.int .u8 c)] [.v (.bool true)] = ((NotAgg (str s) ∧ NotAgg (D.v (Value.int IntKind.u8 c)) ∧ True) ∧ ∃ (r : D), D.lenT TypeDesc.string (str s) = some r ∧ ∃ (r_1 : D), D.bin BinOp.gtr r (D.v (Value.int IntKind.i64 200)) = some r_1 ∧ ∃ (b : Bool), r_1 = D.v (Value.bool b) ∧ (b = true → ∃ (r : D), PureD Try.prog 9 [] [r] ∧ fits [(false, [none])] [r] ∧ ((∃ (y : Value), r = D.v y) ∧ True) ∧ [r] = [D.v (Value.bool true)]) ∧ (b = false → ∃ (r : D), PureD Try.prog 30 [] [r] ∧ fits [(true, [none, none, some 2])] [r] ∧ ∃ (r_2 : D), ∃ (r_3 : D), ReadD Try.prog 11 [D.agg [r.cell 0, r.cell 1, r.cell 2], D.v (Value.int IntKind.i64 0), str s] [r_2, r_3] ∧ ((∃ (cs : List D), r_2 = D.agg cs ∧ cs.length = [none, none, some 2].length) ∧ NotAgg r_3 ∧ True) ∧ ∃ (r : D), D.conv IntKind.i64 (D.v (Value.int IntKind.u8 c)) = some r ∧ ∃ (r_4 : D), D.lenT TypeDesc.string (str s) = some r_4 ∧ ∃ (r_5 : D), D.bin BinOp.add r_4 (D.v (Value.int IntKind.i64 1)) = some r_5 ∧ ∃ (r_6 : D), D.bin BinOp.rem r r_5 = some r_6 ∧ ∃ (r : D), ∃ (r_7 : D), PureD Try.prog 13 [D.agg [r_2.cell 0, r_2.cell 1, r_2.cell 2], r_6] [r, r_7] ∧ fits [(true, [none, none, some 2]), (false, [none])] [r, r_7] ∧ ∃ (r_8 : D), D.lenT TypeDesc.string (str s) = some r_8 ∧ ∃ (r_9 : D), D.bin BinOp.sub r_8 r_6 = some r_9 ∧ ∃ (r_10 : D), ∃ (r_11 : D), PureD Try.prog 13 [D.agg [r.cell 0, r.cell 1, r.cell 2], r_9] [r_10, r_11] ∧ fits [(true, [none, none, some 2]), (false, [none])] [r_10, r_11] ∧ ∃ (r_12 : D), PureD Try.prog 26 [D.agg [r.cell 0, r.cell 1, r.cell 2]] [r_12] ∧ fits [(false, [none])] [r_12] ∧ ∃ (r_13 : D), ∃ (r_14 : D), ReadD Try.prog 11 [D.agg [r.cell 0, r.cell 1, r.cell 2], r_12, D.v (Value.string { data := { toList := [120] } })] [r_13, r_14] ∧ ((∃ (cs : List D), r_13 = D.agg cs ∧ cs.length = [none, none, some 2].length) ∧ NotAgg r_14 ∧ True) ∧ ∃ (r_15 : D), PureD Try.prog 26 [D.agg [r.cell 0, r.cell 1, r.cell 2]] [r_15] ∧ fits [(false, [none])] [r_15] ∧ ∃ (r_16 : D), D.bin BinOp.sub r_15 (D.v (Value.int IntKind.i64 1)) = some r_16 ∧ ∃ (r_17 : D), ∃ (r_18 : D), ReadD Try.prog 11 [D.agg [r.cell 0, r.cell 1, r.cell 2], r_16, D.v (Value.string { data := { toList := [120, 121] } })] [r_17, r_18] ∧ ((∃ (cs : List D), r_17 = D.agg cs ∧ cs.length = [none, none, some 2].length) ∧ NotAgg r_18 ∧ True) ∧ ∃ (r_19 : D), D.lenT TypeDesc.string (str s) = some r_19 ∧ ∃ (r_20 : D), D.bin BinOp.eql r_3 r_19 = some r_20 ∧ ∃ (b : Bool), r_20 = D.v (Value.bool b) ∧ (b = true → ∃ (r_21 : D), D.bin BinOp.add r_7 r_11 = some r_21 ∧ ∃ (r_22 : D), D.bin BinOp.eql r_21 (str s) = some r_22 ∧ ∃ (b : Bool), r_22 = D.v (Value.bool b) ∧ (b = true → ∃ (r_23 : D), PureD Try.prog 26 [D.agg [r_2.cell 0, r_2.cell 1, r_2.cell 2]] [r_23] ∧ fits [(false, [none])] [r_23] ∧ ∃ (r_24 : D), D.bin BinOp.eql r_23 (D.v (Value.int IntKind.i64 4096)) = some r_24 ∧ ∃ (b : Bool), r_24 = D.v (Value.bool b) ∧ (b = true → ∃ (r_25 : D), PureD Try.prog 26 [D.agg [r.cell 0, r.cell 1, r.cell 2]] [r_25] ∧ fits [(false, [none])] [r_25] ∧ ∃ (r_26 : D), D.bin BinOp.add (D.v (Value.int IntKind.i64 4096)) r_6 = some r_26 ∧ ∃ (r_27 : D), D.bin BinOp.eql r_25 r_26 = some r_27 ∧ ∃ (b : Bool), r_27 = D.v (Value.bool b) ∧ (b = true → ∃ (r_28 : D), PureD Try.prog 26 [D.agg [r_10.cell 0, r_10.cell 1, r_10.cell 2]] [r_28] ∧ fits [(false, [none])] [r_28] ∧ ∃ (r_29 : D), D.lenT TypeDesc.string (str s) = some r_29 ∧ ∃ (r_30 : D), D.bin BinOp.add (D.v (Value.int IntKind.i64 4096)) r_29 = some r_30 ∧ ∃ (r_31 : D), D.bin BinOp.eql r_28 r_30 = some r_31 ∧ ∃ (b : Bool), r_31 = D.v (Value.bool b) ∧ (b = true → ∃ (r_32 : D), D.bin BinOp.eql r_14 (D.v (Value.int IntKind.i64 0)) = some r_32 ∧ ∃ (b : Bool), r_32 = D.v (Value.bool b) ∧ (b = true → ∃ (r_33 : D), D.bin BinOp.eql r_18 (D.v (Value.int IntKind.i64 1)) = some r_33 ∧ ∃ (b : Bool), r_33 = D.v (Value.bool b) ∧ (b = true → ∃ (r_34 : D), PureD Try.prog 26 [D.agg [r_17.cell 0, r_17.cell 1, r_17.cell 2]] [r_34] ∧ fits [(false, [none])] [r_34] ∧ ∃ (r_35 : D), PureD Try.prog 26 [D.agg [r.cell 0, r.cell 1, r.cell 2]] [r_35] ∧ fits [(false, [none])] [r_35] ∧ ∃ (r : D), D.bin BinOp.eql r_34 r_35 = some r ∧ ∃ (b : Bool), r = D.v (Value.bool b) ∧ (b = true → ∃ (r : D), PureD Try.prog 28 [D.agg [r_17.cell 0, r_17.cell 1, r_17.cell 2]] [r] ∧ fits [(false, [none])] [r] ∧ ∃ (r_36 : D), D.lenT TypeDesc.string (str s) = some r_36 ∧ ∃ (r_37 : D), D.bin BinOp.sub r_36 r_6 = some r_37 ∧ ∃ (r_38 : D), D.bin BinOp.add r_37 (D.v (Value.int IntKind.i64 1)) = some r_38 ∧ ∃ (r_39 : D), D.bin BinOp.eql r r_38 = some r_39 ∧ ∃ (b : Bool), r_39 = D.v (Value.bool b) ∧ (b = true → ∃ (r : D), PureD Try.prog 9 [] [r] ∧ fits [(false, [none])] [r] ∧ ((∃ (y : Value), r = D.v y) ∧ True) ∧ [r] = [D.v (Value.bool true)]) ∧ (b = false → (True ∧ True) ∧ [D.v (Value.bool false)] = [D.v (Value.bool true)])) ∧ (b = false → (True ∧ True) ∧ [D.v (Value.bool false)] = [D.v (Value.bool true)])) ∧ (b = false → (True ∧ True) ∧ [D.v (Value.bool false)] = [D.v (Value.bool true)])) ∧ (b = false → (True ∧ True) ∧ [D.v (Value.bool false)] = [D.v (Value.bool true)])) ∧ (b = false → (True ∧ True) ∧ [D.v (Value.bool false)] = [D.v (Value.bool true)])) ∧ (b = false → (True ∧ True) ∧ [D.v (Value.bool false)] = [D.v (Value.bool true)])) ∧ (b = false → (True ∧ True) ∧ [D.v (Value.bool false)] = [D.v (Value.bool true)])) ∧ (b = false → (True ∧ True) ∧ [D.v (Value.bool false)] = [D.v (Value.bool true)])) ∧ (b = false → (True ∧ True) ∧ [D.v (Value.bool false)] = [D.v (Value.bool true)]))) := by kernel_rfl
set_option maxHeartbeats 16000000 in
theorem room (s : List Int) (c : Int) (hs : Bytes s) (c0 : 0 ≤ c) (c1 : c < 256) : PureD Try.prog 7 [str s, .v (.int .u8 c)] [.v (.bool true)] := by
  refine pure_cond (Lp := (fun _ => none)) (by kernel_rfl) Try.func7 (by kernel_rfl) (by kernel_rfl) ?_
  rw [vc_room s c]
  have awake := awake
  by_cases hl : s.length ≤ 200
  · obtain ⟨k, hk⟩ := Int.eq_ofNat_of_zero_le (show 0 ≤ c % ((s.length : Int) + 1) from Int.emod_nonneg _ (by omega))
    have hkl : k ≤ s.length := by
      have := Int.emod_lt_of_pos c (show 0 < (s.length : Int) + 1 by omega)
      omega
    have hdl : (s.drop k).length = s.length - k := List.length_drop
    have NW := new
    obtain ⟨y1, hY1, P1⟩ := put_c (S := ⟨0, [], []⟩) (x := .v nilS) (v := 0) (s := s) (.inr ⟨rfl, rfl⟩) allB_nil (Nat.le_of_ble_eq_true rfl) (Nat.le_of_ble_eq_true rfl) (by omega) (by omega)
    rw [room1 hl] at hY1 P1
    have t1 : ((SS.mk s.length s []).tot : Int) - (SS.mk 0 [] []).tot = s.length := by simp only [SS.tot, held_tot, totL_nil, List.length_nil]; omega
    rw [t1] at P1
    clear t1
    simp only at hY1 P1
    have R1 := read y1 [] s.length s k hY1 allB_nil (Nat.le_of_ble_eq_true rfl) (by omega)
    have z1 : readN s.length s [] k = k := by
      by_cases h : (k : Int) < 1
      · rw [read_few (by omega)]; omega
      · exact read_yes (chk_e (by omega) (by omega) (by omega)) (by omega) (by omega)
    rw [z1] at R1
    clear z1
    have R2 := read y1 [] s.length (s.drop k) (s.length - k) hY1 allB_nil (Nat.le_of_ble_eq_true rfl) (by omega)
    have z2 : readN s.length (s.drop k) [] (s.length - k) = s.length - k := by
      by_cases h : (s.length : Int) - k < 1
      · rw [read_few (by omega)]; omega
      · exact read_yes (chk_e (by omega) (by omega) (by omega)) (by omega) (by omega)
    rw [z2, List.drop_of_length_le (l := s.drop k) (i := s.length - k) (by omega), List.take_of_length_le (l := s.drop k) (i := s.length - k) (by omega)] at R2
    clear z2
    have L1 := limit y1 [] s.length s hY1 (by omega) (by omega) (by omega)
    have L2 := limit y1 [] s.length (s.drop k) hY1 (by omega) (by omega) (by omega)
    have L3 := limit y1 [] s.length [] hY1 (by omega) (by omega) (Nat.le_of_ble_eq_true rfl)
    have m1 : limF s.length s.length = 4096 := by unfold limF; omega
    have m2 : limF s.length (s.drop k).length = 4096 + k := by unfold limF; omega
    have m3 : limF s.length ([] : List Int).length = 4096 + s.length := by unfold limF; simp only [List.length_nil]; omega
    rw [m1] at L1
    rw [m2] at L2
    rw [m3] at L3
    clear m1 m3
    obtain ⟨w, hw⟩ : ∃ w : Int, w = 4096 + k - 1 := ⟨_, rfl⟩
    obtain ⟨y2, hY2, P2⟩ := put_c (S := ⟨s.length, s.drop k, []⟩) (x := y1) (v := 4096 + k) (s := [120]) hY1 allB_nil (Nat.le_of_ble_eq_true rfl) (by show (s.drop k).length ≤ _; omega) (Nat.le_of_ble_eq_true rfl) (by omega)
    rw [room2 hkl hl hdl] at hY2 P2
    obtain ⟨y3, hY3, P3⟩ := put_c (S := ⟨s.length, s.drop k, []⟩) (x := y1) (v := w) (s := [120, 121]) hY1 allB_nil (Nat.le_of_ble_eq_true rfl) (by show (s.drop k).length ≤ _; omega) (Nat.le_of_ble_eq_true rfl) (by omega)
    rw [room3 hw hkl hl hdl] at hY3 P3
    have t2 : ((SS.mk s.length (s.drop k) []).tot : Int) - (SS.mk s.length (s.drop k) []).tot = 0 := by omega
    have t3 : ((SS.mk s.length (s.drop k) [(w, [120])]).tot : Int) - (SS.mk s.length (s.drop k) []).tot = 1 := by simp only [SS.tot, held_tot, totL_nil, totL_cons, List.length_nil, List.length_cons]; omega
    rw [t2] at P2
    rw [t3] at P3
    clear t2 t3
    simp only at hY2 P2 hY3 P3
    have hA3 : AllB [(w, [120])] := fun p hp => by simp at hp; subst hp; exact ⟨fun x hx => by simp at hx; omega, Nat.le_of_ble_eq_true rfl⟩
    have L4 := limit y3 [(w, [120])] s.length (s.drop k) hY3 (by omega) (by omega) (by omega)
    rw [m2] at L4
    have H4 := held y3 [(w, [120])] s.length (s.drop k) hY3 hA3 (Nat.le_of_ble_eq_true rfl) (by omega)
    have t4 : (heldF (s.drop k) [(w, [120])] : Nat) = s.length - k + 1 := by rw [held_tot, totL_cons, totL_nil, hdl]; simp only [List.length_cons, List.length_nil]
    rw [t4] at H4
    clear t4
    rw [hw] at P3
    have q1 := bin_sadd (a := s.take k) (b := s.drop k) (by rw [List.length_take, hdl]; omega)
    rw [List.take_append_drop] at q1
    have q2 := bin_seql hs hs
    simp only [decide_true] at q2
    have hkz : (k : Int) ≤ s.length := by omega
    have e5 : ((s.length - k : Nat) : Int) = (s.length : Int) - k := by omega
    have c120 : D.v (.string ⟨#[120]⟩) = str [120] := rfl
    have c121 : D.v (.string ⟨#[120, 121]⟩) = str [120, 121] := rfl
    have c0 : D.v (.string ⟨#[]⟩) = str [] := rfl
    rw [c120, c121]
    repeat' (first
      | (refine ex_some (by simp (disch := omega) only [bin_shr, bin_shl, bin_and, bin_or, bin_xor, len_str, toStr_ofL, bin_add, bin_sub, bin_mul, bin_quo, bin_rem, bin_lss, bin_leq, bin_gtr, bin_geq, bin_eql, bin_neq, eqs_cn, eqs_ci, eqs_cb, eqs_cs, Option.map_some, lenT_ofL, lst_ofL, lstSz_ofL, chunk_one, lst_nil, lst_sl, lstSz_sl, lstSz_nil, Bool.and_true, Bool.true_and, Bool.and_false, Bool.false_and, beq_self_eq_true, beq_bb, bne_bb, un_not, un_neg, conv_int, min2_int, max2_int, w64, w32, wu8, wu16, wu32, wu64, tdiv_nn, tmod_nn, cell_zero, cell_succ, cell_v, cells_v, cells_agg, Bool.not_true, Bool.not_false, Int.reduceLT, Int.reduceLE, Int.reduceEq, Int.reduceNeg, Int.reduceAdd, Int.reduceSub, Int.reduceMul, intOf_v, decide_true, decide_false, hk, q1, q2]; rfl) ?_)
      | (refine ex_bool ?_)
      | (refine ⟨_, _, P1, ?_⟩)
      | (refine ⟨_, _, P2, ?_⟩)
      | (refine ⟨_, _, P3, ?_⟩)
      | (refine ⟨_, _, R1, ?_⟩)
      | (refine ⟨_, _, R2, ?_⟩)
      | (refine ⟨_, NW, ?_⟩)
      | (refine ⟨_, awake, ?_⟩)
      | (refine ⟨_, L1, ?_⟩)
      | (refine ⟨_, L2, ?_⟩)
      | (refine ⟨_, L3, ?_⟩)
      | (refine ⟨_, L4, ?_⟩)
      | (refine ⟨_, H4, ?_⟩)
      | (refine And.intro ?_ ?_)
      | (intro hx; have hprop := (show ∀ (p : Prop), p → True from fun _ _ => True.intro) _ hx; clear hprop; first | (cases hx; done) | (exfalso; revert hx; simp (disch := omega) only [decide_eq_true_eq, decide_eq_false_iff_not, Bool.not_eq_true', Bool.not_eq_false', Bool.and_eq_true, Bool.and_eq_false_iff, Int.not_lt, Int.not_le, ne_eq, not_false_eq_true, not_true_eq_false, reduceCtorEq, Bool.true_eq_false, Bool.false_eq_true, beq_iff_eq, bne_iff_ne, beq_eq_false_iff_ne, false_or, or_false, true_and, and_true, hk, q1, q2]; done) | (simp (disch := omega) only [decide_eq_true_eq, decide_eq_false_iff_not, Bool.not_eq_true', Bool.not_eq_false', Bool.and_eq_true, Bool.and_eq_false_iff, Int.not_lt, Int.not_le, ne_eq, not_false_eq_true, not_true_eq_false, reduceCtorEq, Bool.true_eq_false, Bool.false_eq_true, beq_iff_eq, bne_iff_ne, beq_eq_false_iff_ne, false_or, or_false, true_and, and_true, hk, q1, q2] at hx; first | (exfalso; omega) | skip) | skip)
      | trivial
      | exact fit_ofL _ _
      | (simp (disch := omega) only [notAgg_v, notAgg_sl, plain_v, fits, fitsOne, fitsCells, xsOf, cell_zero, cell_succ, List.range, List.range.loop, List.map, cond_true, cond_false, D.v.injEq, exists_eq', exists_eq, and_self, and_true, true_and, D.agg.injEq, List.length, exists_eq_left', D.sl.injEq, reduceCtorEq, false_or, true_or, or_true, or_false, cell_zero, cell_succ, cell_v, cells_v, cells_agg, List.length_cons, List.length_nil, hk, q1, q2]; done))
    all_goals first
      | (exfalso; omega)
      | omega
      | exact fitP hY1
      | exact fitP hY2
      | exact fitP hY3
      | exact fit_ofL _ _
      | exact plain_ofL (pts_plain _)
      | exact plain_ofL (ivs_plain _)
      | exact .inl rfl
      | exact notAgg_v _
      | exact ⟨_, rfl⟩
      | exact ⟨_, rfl, rfl⟩
      | rfl
      | assumption
      | (simp; done)
      | fail
  · skip
    repeat' (first
      | (refine ex_some (by simp (disch := omega) only [bin_shr, bin_shl, bin_and, bin_or, bin_xor, len_str, toStr_ofL, bin_add, bin_sub, bin_mul, bin_quo, bin_rem, bin_lss, bin_leq, bin_gtr, bin_geq, bin_eql, bin_neq, eqs_cn, eqs_ci, eqs_cb, eqs_cs, Option.map_some, lenT_ofL, lst_ofL, lstSz_ofL, chunk_one, lst_nil, lst_sl, lstSz_sl, lstSz_nil, Bool.and_true, Bool.true_and, Bool.and_false, Bool.false_and, beq_self_eq_true, beq_bb, bne_bb, un_not, un_neg, conv_int, min2_int, max2_int, w64, w32, wu8, wu16, wu32, wu64, tdiv_nn, tmod_nn, cell_zero, cell_succ, cell_v, cells_v, cells_agg, Bool.not_true, Bool.not_false, Int.reduceLT, Int.reduceLE, Int.reduceEq, Int.reduceNeg, Int.reduceAdd, Int.reduceSub, Int.reduceMul, intOf_v, decide_true, decide_false]; rfl) ?_)
      | (refine ex_bool ?_)
      | (refine ⟨_, awake, ?_⟩)
      | (refine And.intro ?_ ?_)
      | (intro hx; have hprop := (show ∀ (p : Prop), p → True from fun _ _ => True.intro) _ hx; clear hprop; first | (cases hx; done) | (exfalso; revert hx; simp (disch := omega) only [decide_eq_true_eq, decide_eq_false_iff_not, Bool.not_eq_true', Bool.not_eq_false', Bool.and_eq_true, Bool.and_eq_false_iff, Int.not_lt, Int.not_le, ne_eq, not_false_eq_true, not_true_eq_false, reduceCtorEq, Bool.true_eq_false, Bool.false_eq_true, beq_iff_eq, bne_iff_ne, beq_eq_false_iff_ne, false_or, or_false, true_and, and_true]; done) | (simp (disch := omega) only [decide_eq_true_eq, decide_eq_false_iff_not, Bool.not_eq_true', Bool.not_eq_false', Bool.and_eq_true, Bool.and_eq_false_iff, Int.not_lt, Int.not_le, ne_eq, not_false_eq_true, not_true_eq_false, reduceCtorEq, Bool.true_eq_false, Bool.false_eq_true, beq_iff_eq, bne_iff_ne, beq_eq_false_iff_ne, false_or, or_false, true_and, and_true] at hx; first | (exfalso; omega) | skip) | skip)
      | trivial
      | exact fit_ofL _ _
      | (simp (disch := omega) only [notAgg_v, notAgg_sl, plain_v, fits, fitsOne, fitsCells, xsOf, cell_zero, cell_succ, List.range, List.range.loop, List.map, cond_true, cond_false, D.v.injEq, exists_eq', exists_eq, and_self, and_true, true_and, D.agg.injEq, List.length, exists_eq_left', D.sl.injEq, reduceCtorEq, false_or, true_or, or_true, or_false, cell_zero, cell_succ, cell_v, cells_v, cells_agg, List.length_cons, List.length_nil]; done))
    all_goals first
      | (exfalso; omega)
      | omega
      | exact fit_ofL _ _
      | exact plain_ofL (pts_plain _)
      | exact plain_ofL (ivs_plain _)
      | exact .inl rfl
      | exact notAgg_v _
      | exact ⟨_, rfl⟩
      | exact ⟨_, rfl, rfl⟩
      | rfl
      | assumption
      | (simp; done)
      | fail


theorem law_RecvqRoom (xs : List D) (h : All2 TypedA [(false, [.str]), (false, [.int .u8])] xs) : PureD Try.prog 7 xs [.v (.bool true)] := by
  obtain ⟨y, xs, rfl, hy, h⟩ := h.cons_
  obtain ⟨z, xs, rfl, hz, h⟩ := h.cons_
  obtain rfl := h.nil_
  obtain ⟨s, rfl, _⟩ := hy.one.str_
  obtain ⟨c, rfl, wc⟩ := hz.one.int_
  rw [str_of]
  exact room (bytesOf s) c (bytesOf_bd s) (wf_u8 wc).1 (wf_u8 wc).2

end Go.Proofs.Ytoeefdjomhbnlaa