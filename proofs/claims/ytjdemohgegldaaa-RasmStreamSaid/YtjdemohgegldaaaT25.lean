/-
  Layer 24: the law RasmOnce.
-/
import Derived.Test.YtjdemohgegldaaaT1
import Derived.Test.YtjdemohgegldaaaT2
import Derived.Test.YtjdemohgegldaaaT3
import Derived.Test.YtjdemohgegldaaaT4
import Derived.Test.YtjdemohgegldaaaT6
import Derived.Test.YtjdemohgegldaaaT7
import Derived.Test.YtjdemohgegldaaaT8
import Derived.Test.YtjdemohgegldaaaT10
import Derived.Test.YtjdemohgegldaaaT11
import Derived.Test.YtjdemohgegldaaaT13
import Derived.Test.YtjdemohgegldaaaT15
import Derived.Test.YtjdemohgegldaaaT16
import Derived.Test.YtjdemohgegldaaaT17
import Derived.Test.YtjdemohgegldaaaT18
import Derived.Test.YtjdemohgegldaaaT19
import Derived.Test.YtjdemohgegldaaaT20
import Derived.Test.YtjdemohgegldaaaT21
import Derived.Test.YtjdemohgegldaaaT22
import Derived.Test.YtjdemohgegldaaaT23
import Derived.Test.YtjdemohgegldaaaT24
namespace Go.Proofs.Ytjdemohgegldaaa
open Go.RowKit
set_option linter.unusedSimpArgs false
set_option linter.unusedVariables false


set_option maxRecDepth 20000
theorem chk_e {b : Int} {n : Nat} (h0 : (n : Int) ≤ 4096) (h1 : (n : Int) ≤ b) (h2 : b ≤ 1099511627776) : chkF b n [] = 0 := by
  have : okS b n = true := by simp only [okS, decide_eq_true_eq]; omega
  rw [chk_yes this]; rfl
theorem ok0 : (SS.mk 0 [] []).Ok := ok_dec (by decide)
theorem idem {S : SS} (h : S.Ok) (v : Int) (s : List Int) : putF (putF S v s) v s = putF S v s := by
  have h1 := put_ok h v s
  have h2 := put_ok h1.ok v s
  refine SS.uniq h2.ok h1.ok h2.o fun p => ?_
  rw [put2 h, h1.map]
  cases S.map p with
  | some x => rfl
  | none => cases clip S.b S.lim (v, s) p <;> rfl
theorem put_none {S : SS} {v : Int} : putF S v [] = S := by
  refine if_neg ?_
  simp only [fromF, toF, List.length_nil]; omega
theorem once_st {v : Nat} {s : List Int} (hv : v < 256) (hs : s.length ≤ 200) : (putF ⟨0, [], []⟩ v s).tot = s.length ∧ (putF ⟨0, [], []⟩ v s).b = (if v = 0 then (s.length : Int) else 0) ∧ highF (putF ⟨0, [], []⟩ v s).b (putF ⟨0, [], []⟩ v s).ps ≤ v + s.length := by
  by_cases h0 : s.length = 0
  · have : s = [] := List.eq_nil_of_length_eq_zero h0
    subst this
    rw [put_none]
    refine ⟨rfl, ?_, ?_⟩
    · simp only [List.length_nil]; split <;> rfl
    · rw [high_nil]; simp only; omega
  · have hc : fromF ⟨0, [], []⟩ v < toF ⟨0, [], []⟩ v s := by
      simp only [fromF, toF, SS.lim, limF, List.length_nil]; omega
    have e1 : freshF ⟨0, [], []⟩ v s = ((v : Int), s) := by
      have h2 : toF ⟨0, [], []⟩ v s = v + s.length := by simp only [toF, SS.lim, limF, List.length_nil]; omega
      have h3 : fromF ⟨0, [], []⟩ v = v := by simp only [fromF]; omega
      simp only [freshF, h2, h3]
      rw [show ((v : Int) - v).toNat = 0 by omega, show ((v : Int) + s.length - v).toNat = s.length by omega, List.drop_zero, List.take_length]
    have e : putF ⟨0, [], []⟩ v s = settleF 0 [] (putL [] (freshF ⟨0, [], []⟩ v s)) := if_pos hc
    have e2 : putL [] ((v : Int), s) = [((v : Int), s)] := rfl
    rw [e, e1, e2]
    by_cases hz : v = 0
    · have e3 : settleF 0 [] [((v : Int), s)] = ⟨endP ((v : Int), s), [] ++ s, []⟩ := if_pos (by simp only; omega)
      rw [e3, if_pos hz]
      refine ⟨?_, ?_, ?_⟩
      · simp only [SS.tot, held_tot, totL_nil, List.nil_append]; omega
      · simp only [endP]; omega
      · rw [high_nil]; simp only [endP]; omega
    · have e3 : settleF 0 [] [((v : Int), s)] = ⟨0, [], [((v : Int), s)]⟩ := if_neg (by simp only; omega)
      rw [e3, if_neg hz]
      refine ⟨?_, rfl, ?_⟩
      · simp only [SS.tot, held_tot, totL_cons, totL_nil, List.length_nil]; omega
      · rw [high_ne (m := 0) _ rfl]; simp
def R0 : RS := ⟨⟨0, [], []⟩, -1⟩
def R1 (v : Nat) (s : List Int) : RS := ⟨putF ⟨0, [], []⟩ v s, v + s.length⟩
theorem good_of {R : RS} {v : Int} {n : Nat} (hc : R.chk = 0) (h0 : 0 ≤ v) (h1 : v ≤ 1099511627776 - (n : Nat)) : R.good v n := ⟨hc, h0, h1⟩
theorem put_fine_eq {R : RS} {v : Int} {s : List Int} {fin : Bool} (hg : R.good v s.length) (hs : ¬ R.shut v s.length fin) : R.put v s fin = ⟨putF R.S v s, if fin = true then v + s.length else R.e⟩ ∧ R.code v s fin = 0 ∧ R.num v s fin = ((putF R.S v s).tot : Int) - R.S.tot := by
  have hF : R.S.Ok := by
    have h := hg.1
    unfold RS.chk at h
    by_cases h1 : chkF R.S.b R.S.r.length R.S.ps = 0
    · exact chk_ok.1 h1
    · rw [chkR_bad h1] at h; exact absurd h h1
  have e : R.put v s fin = ⟨putF R.S v s, if fin = true then v + s.length else R.e⟩ := by
    unfold RS.put
    rw [if_pos ⟨hg, hs⟩, putA_ok hF hg.2.1 (by have := hg.2.2; omega)]
  refine ⟨e, ?_, ?_⟩
  · unfold RS.code; rw [if_pos hg, if_neg hs]
  · unfold RS.num; rw [e]
theorem put_shut_eq {R : RS} {v : Int} {s : List Int} {fin : Bool} (hg : R.good v s.length) (hs : R.shut v s.length fin) : R.put v s fin = R ∧ R.code v s fin = 5 ∧ R.num v s fin = 0 := by
  have e : R.put v s fin = R := by unfold RS.put; rw [if_neg (fun h => h.2 hs)]
  refine ⟨e, ?_, ?_⟩
  · unfold RS.code; rw [if_pos hg, if_pos hs]
  · unfold RS.num; rw [e]; omega
theorem r0_put {v : Nat} {s : List Int} (hv : v < 256) (hs : s.length ≤ 200) : R0.put v s true = R1 v s ∧ R0.code v s true = 0 ∧ R0.num v s true = s.length := by
  have hg : R0.good (v : Int) s.length := good_of (by decide) (by omega) (by omega)
  have hn : ¬ R0.shut (v : Int) s.length true := by
    unfold RS.shut shutF R0
    simp only [high_nil]
    omega
  obtain ⟨a1, a2, a3⟩ := put_fine_eq hg hn
  refine ⟨a1, a2, ?_⟩
  rw [a3]
  have := (once_st hv hs).1
  show (((putF ⟨0, [], []⟩ v s).tot : Nat) : Int) - 0 = _
  omega
theorem r1_ok {v : Nat} {s : List Int} (hv : v < 256) (hs : s.length ≤ 200) : (R1 v s).S.Ok ∧ (R1 v s).chk = 0 := by
  have h1 := (put_ok ok0 (v : Int) s).ok
  refine ⟨h1, ?_⟩
  unfold RS.chk R1
  simp only
  rw [chkR_ok (chk_ok.2 h1)]
  have := (once_st hv hs).2.2
  rw [if_neg (by omega)]
theorem r1_x {v : Nat} {s t : List Int} (hv : v < 256) (hs : s.length ≤ 200) (ht : t.length ≤ 200) : (R1 v s).put (v + s.length) t false = R1 v s ∧ (R1 v s).code (v + s.length) t false = (if t = [] then 0 else 5) ∧ (R1 v s).num (v + s.length) t false = 0 := by
  have hg : (R1 v s).good (v + s.length) t.length := good_of (r1_ok hv hs).2 (by omega) (by omega)
  by_cases h : t = []
  · subst h
    have hn : ¬ (R1 v s).shut ((v : Int) + s.length) ([] : List Int).length false := by
      unfold RS.shut shutF R1
      simp only [List.length_nil, Bool.false_eq_true, false_and, or_false]
      omega
    obtain ⟨a1, a2, a3⟩ := put_fine_eq hg hn
    rw [put_none] at a1 a3
    refine ⟨?_, by rw [if_pos rfl]; exact a2, by rw [a3]; omega⟩
    rw [a1]; rfl
  · have hl : 0 < t.length := ne_len.1 h
    have hn : (R1 v s).shut ((v : Int) + s.length) t.length false := by
      unfold RS.shut shutF R1
      simp only
      exact .inl ⟨by omega, .inl (by omega)⟩
    rw [if_neg h]
    exact put_shut_eq hg hn
theorem r1_y {v : Nat} {s : List Int} (hv : v < 256) (hs : s.length ≤ 200) : (R1 v s).put (v + s.length + 1) [] true = R1 v s ∧ (R1 v s).code (v + s.length + 1) [] true = 5 ∧ (R1 v s).num (v + s.length + 1) [] true = 0 := by
  have hg : (R1 v s).good ((v : Int) + s.length + 1) ([] : List Int).length := good_of (r1_ok hv hs).2 (by omega) (by simp only [List.length_nil]; omega)
  refine put_shut_eq hg ?_
  unfold RS.shut shutF R1
  simp only
  exact .inl ⟨by omega, .inl (by simp only [List.length_nil]; omega)⟩
theorem r1_z {v : Nat} {s : List Int} (hv : v < 256) (hs : s.length ≤ 200) : (R1 v s).put v s true = R1 v s ∧ (R1 v s).code v s true = 0 := by
  have hg : (R1 v s).good (v : Int) s.length := good_of (r1_ok hv hs).2 (by omega) (by omega)
  have hh := (once_st hv hs).2.2
  have hn : ¬ (R1 v s).shut (v : Int) s.length true := by
    unfold RS.shut shutF R1
    simp only
    omega
  obtain ⟨a1, a2, _⟩ := put_fine_eq hg hn
  refine ⟨?_, a2⟩
  rw [a1]
  show RS.mk (putF (putF ⟨0, [], []⟩ v s) v s) _ = _
  rw [idem ok0]; rfl
theorem r1_w {v : Nat} {s : List Int} (hv : v < 256) (hs : s.length ≤ 200) : wholeF (R1 v s).S.b (R1 v s).S.r.length (R1 v s).S.ps (R1 v s).e = decide ((v : Int) = 0) := by
  have h1 := (r1_ok hv hs).2
  unfold RS.chk at h1
  unfold wholeF
  rw [h1]
  have hb := (once_st hv hs).2.1
  show (decide ((0 : Int) = 0) && (decide ((v : Int) + s.length ≠ -1) && decide ((putF ⟨0, [], []⟩ v s).b = v + s.length))) = _
  rw [hb]
  have e1 : decide ((v : Int) + s.length ≠ -1) = true := by simp; omega
  rw [e1, decide_eq_true rfl]
  simp only [Bool.true_and]
  rw [Bool.eq_iff_iff, decide_eq_true_eq, decide_eq_true_eq]
  split <;> omega
theorem r1_bytes {v : Nat} {s : List Int} (hb : Bytes s) : BytesL (R1 v s).S.ps ∧ Bytes (R1 v s).S.r := putF_bytes ok0 (fun _ h => by cases h) Bytes.nil hb

theorem vc_once (s t : List Int) (v : Nat) : Cond Try.prog (fun _ => none) Try.f5 [str s, .v (.int .u8 (v : Nat)), str t] [.v (.bool true)] = ((NotAgg (str s) ∧ NotAgg (D.v (Value.int IntKind.u8 ↑v)) ∧ NotAgg (str t) ∧ True) ∧ ∃ (r : D), D.lenT TypeDesc.string (str s) = some r ∧ ∃ (r_1 : D), D.bin BinOp.gtr r (D.v (Value.int IntKind.i64 200)) = some r_1 ∧ ∃ (b : Bool), r_1 = D.v (Value.bool b) ∧ (b = false → ∃ (r : D), D.lenT TypeDesc.string (str t) = some r ∧ ∃ (r_2 : D), D.bin BinOp.gtr r (D.v (Value.int IntKind.i64 200)) = some r_2 ∧ ∃ (b : Bool), r_2 = D.v (Value.bool b) ∧ (b = true → ∃ (r : D), PureD Try.prog 7 [] [r] ∧ fits [(false, [none])] [r] ∧ ((∃ (y : Value), r = D.v y) ∧ True) ∧ [r] = [D.v (Value.bool true)]) ∧ (b = false → ∃ (r : D), PureD Try.prog 24 [] [r] ∧ fits [(true, [none, none, some 2, none])] [r] ∧ ∃ (r_3 : D), D.conv IntKind.i64 (D.v (Value.int IntKind.u8 ↑v)) = some r_3 ∧ ∃ (r_4 : D), ∃ (r_5 : D), ∃ (r_6 : D), ReadD Try.prog 9 [D.agg [r.cell 0, r.cell 1, r.cell 2, r.cell 3], r_3, str s, D.v (Value.bool true)] [r_4, r_5, r_6] ∧ ((∃ (cs : List D), r_4 = D.agg cs ∧ cs.length = [none, none, some 2, none].length) ∧ NotAgg r_5 ∧ NotAgg r_6 ∧ True) ∧ ∃ (r : D), D.conv IntKind.i64 (D.v (Value.int IntKind.u8 ↑v)) = some r ∧ ∃ (r_7 : D), D.lenT TypeDesc.string (str s) = some r_7 ∧ ∃ (r_8 : D), D.bin BinOp.add r r_7 = some r_8 ∧ ∃ (r : D), ∃ (r_9 : D), ∃ (r_10 : D), ReadD Try.prog 9 [D.agg [r_4.cell 0, r_4.cell 1, r_4.cell 2, r_4.cell 3], r_8, str t, D.v (Value.bool false)] [r, r_9, r_10] ∧ ((∃ (cs : List D), r = D.agg cs ∧ cs.length = [none, none, some 2, none].length) ∧ NotAgg r_9 ∧ NotAgg r_10 ∧ True) ∧ ∃ (r_11 : D), D.bin BinOp.add r_8 (D.v (Value.int IntKind.i64 1)) = some r_11 ∧ ∃ (r_12 : D), ∃ (r_13 : D), ∃ (r_14 : D), ReadD Try.prog 9 [D.agg [r_4.cell 0, r_4.cell 1, r_4.cell 2, r_4.cell 3], r_11, D.v (Value.string { data := { toList := [] } }), D.v (Value.bool true)] [r_12, r_13, r_14] ∧ ((∃ (cs : List D), r_12 = D.agg cs ∧ cs.length = [none, none, some 2, none].length) ∧ NotAgg r_13 ∧ NotAgg r_14 ∧ True) ∧ ∃ (r_15 : D), D.conv IntKind.i64 (D.v (Value.int IntKind.u8 ↑v)) = some r_15 ∧ ∃ (r_16 : D), ∃ (r_17 : D), ∃ (r_18 : D), ReadD Try.prog 9 [D.agg [r_4.cell 0, r_4.cell 1, r_4.cell 2, r_4.cell 3], r_15, str s, D.v (Value.bool true)] [r_16, r_17, r_18] ∧ ((∃ (cs : List D), r_16 = D.agg cs ∧ cs.length = [none, none, some 2, none].length) ∧ NotAgg r_17 ∧ NotAgg r_18 ∧ True) ∧ ∃ (r_19 : D), D.bin BinOp.eql r_10 (D.v (Value.int IntKind.u32 0)) = some r_19 ∧ ∃ (b : Bool), r_19 = D.v (Value.bool b) ∧ (b = true → ∃ (r_20 : D), D.bin BinOp.eql (str t) (D.v (Value.string { data := { toList := [] } })) = some r_20 ∧ ∃ (b : Bool), r_20 = D.v (Value.bool b) ∧ (b = false → ∃ (r_21 : D), D.bin BinOp.eql r_10 (D.v (Value.int IntKind.u32 5)) = some r_21 ∧ ∃ (b : Bool), r_21 = D.v (Value.bool b) ∧ (b = true → ∃ (r_22 : D), D.bin BinOp.neq (str t) (D.v (Value.string { data := { toList := [] } })) = some r_22 ∧ ∃ (r_23 : D), D.lenT TypeDesc.string (str s) = some r_23 ∧ ∃ (r_24 : D), D.bin BinOp.eql r_5 r_23 = some r_24 ∧ ∃ (b : Bool), r_24 = D.v (Value.bool b) ∧ (b = true → ∃ (r_25 : D), D.bin BinOp.eql r_6 (D.v (Value.int IntKind.u32 0)) = some r_25 ∧ ∃ (b : Bool), r_25 = D.v (Value.bool b) ∧ (b = true → ∃ (r_26 : D), D.bin BinOp.eql (r_4.cell 3) r_8 = some r_26 ∧ ∃ (b : Bool), r_26 = D.v (Value.bool b) ∧ (b = true → ∃ (b : Bool), r_22 = D.v (Value.bool b) ∧ (b = true → ∃ (r_27 : D), D.bin BinOp.eql r_9 (D.v (Value.int IntKind.i64 0)) = some r_27 ∧ ∃ (b : Bool), r_27 = D.v (Value.bool b) ∧ (b = true → ∃ (r_28 : D), PureD Try.prog 23 [D.agg [r.cell 0, r.cell 1, r.cell 2, r.cell 3], D.agg [r_4.cell 0, r_4.cell 1, r_4.cell 2, r_4.cell 3]] [r_28] ∧ fits [(false, [none])] [r_28] ∧ ∃ (b : Bool), r_28 = D.v (Value.bool b) ∧ (b = true → ∃ (r : D), D.bin BinOp.eql r_13 (D.v (Value.int IntKind.i64 0)) = some r ∧ ∃ (b : Bool), r = D.v (Value.bool b) ∧ (b = true → ∃ (r : D), D.bin BinOp.eql r_14 (D.v (Value.int IntKind.u32 5)) = some r ∧ ∃ (b : Bool), r = D.v (Value.bool b) ∧ (b = true → ∃ (r : D), PureD Try.prog 23 [D.agg [r_12.cell 0, r_12.cell 1, r_12.cell 2, r_12.cell 3], D.agg [r_4.cell 0, r_4.cell 1, r_4.cell 2, r_4.cell 3]] [r] ∧ fits [(false, [none])] [r] ∧ ∃ (b : Bool), r = D.v (Value.bool b) ∧ (b = true → ∃ (r : D), D.bin BinOp.eql r_18 (D.v (Value.int IntKind.u32 0)) = some r ∧ ∃ (b : Bool), r = D.v (Value.bool b) ∧ (b = true → ∃ (r : D), PureD Try.prog 23 [D.agg [r_16.cell 0, r_16.cell 1, r_16.cell 2, r_16.cell 3], D.agg [r_4.cell 0, r_4.cell 1, r_4.cell 2, r_4.cell 3]] [r] ∧ fits [(false, [none])] [r] ∧ ∃ (b : Bool), r = D.v (Value.bool b) ∧ (b = true → ∃ (r : D), PureD Try.prog 15 [D.agg [r_4.cell 0, r_4.cell 1, r_4.cell 2, r_4.cell 3]] [r] ∧ fits [(false, [none])] [r] ∧ ∃ (r_29 : D), D.bin BinOp.eql (D.v (Value.int IntKind.u8 ↑v)) (D.v (Value.int IntKind.u8 0)) = some r_29 ∧ ∃ (r_30 : D), r.beq r_29 = some r_30 ∧ ∃ (b : Bool), r_30 = D.v (Value.bool b) ∧ (b = true → ∃ (r : D), PureD Try.prog 7 [] [r] ∧ fits [(false, [none])] [r] ∧ ((∃ (y : Value), r = D.v y) ∧ True) ∧ [r] = [D.v (Value.bool true)]) ∧ (b = false → (True ∧ True) ∧ [D.v (Value.bool false)] = [D.v (Value.bool true)])) ∧ (b = false → (True ∧ True) ∧ [D.v (Value.bool false)] = [D.v (Value.bool true)])) ∧ (b = false → (True ∧ True) ∧ [D.v (Value.bool false)] = [D.v (Value.bool true)])) ∧ (b = false → (True ∧ True) ∧ [D.v (Value.bool false)] = [D.v (Value.bool true)])) ∧ (b = false → (True ∧ True) ∧ [D.v (Value.bool false)] = [D.v (Value.bool true)])) ∧ (b = false → (True ∧ True) ∧ [D.v (Value.bool false)] = [D.v (Value.bool true)])) ∧ (b = false → (True ∧ True) ∧ [D.v (Value.bool false)] = [D.v (Value.bool true)])) ∧ (b = false → (True ∧ True) ∧ [D.v (Value.bool false)] = [D.v (Value.bool true)])) ∧ (b = false → (True ∧ True) ∧ [D.v (Value.bool false)] = [D.v (Value.bool true)])) ∧ (b = false → (True ∧ True) ∧ [D.v (Value.bool false)] = [D.v (Value.bool true)])) ∧ (b = false → (True ∧ True) ∧ [D.v (Value.bool false)] = [D.v (Value.bool true)])) ∧ (b = false → (True ∧ True) ∧ [D.v (Value.bool false)] = [D.v (Value.bool true)])) ∧ (b = false → ∃ (r : D), D.lenT TypeDesc.string (str s) = some r ∧ ∃ (r_22 : D), D.bin BinOp.eql r_5 r = some r_22 ∧ ∃ (b : Bool), r_22 = D.v (Value.bool b) ∧ (b = true → ∃ (r : D), D.bin BinOp.eql r_6 (D.v (Value.int IntKind.u32 0)) = some r ∧ ∃ (b : Bool), r = D.v (Value.bool b) ∧ (b = true → ∃ (r : D), D.bin BinOp.eql (r_4.cell 3) r_8 = some r ∧ ∃ (b : Bool), r = D.v (Value.bool b) ∧ (b = true → (True ∧ True) ∧ [D.v (Value.bool false)] = [D.v (Value.bool true)]) ∧ (b = false → (True ∧ True) ∧ [D.v (Value.bool false)] = [D.v (Value.bool true)])) ∧ (b = false → (True ∧ True) ∧ [D.v (Value.bool false)] = [D.v (Value.bool true)])) ∧ (b = false → (True ∧ True) ∧ [D.v (Value.bool false)] = [D.v (Value.bool true)]))) ∧ (b = true → ∃ (r_21 : D), D.lenT TypeDesc.string (str s) = some r_21 ∧ ∃ (r_22 : D), D.bin BinOp.eql r_5 r_21 = some r_22 ∧ ∃ (b : Bool), r_22 = D.v (Value.bool b) ∧ (b = true → ∃ (r_23 : D), D.bin BinOp.eql r_6 (D.v (Value.int IntKind.u32 0)) = some r_23 ∧ ∃ (b : Bool), r_23 = D.v (Value.bool b) ∧ (b = true → ∃ (r_24 : D), D.bin BinOp.eql (r_4.cell 3) r_8 = some r_24 ∧ ∃ (b : Bool), r_24 = D.v (Value.bool b) ∧ (b = true → ∃ (r_25 : D), D.bin BinOp.eql r_9 (D.v (Value.int IntKind.i64 0)) = some r_25 ∧ ∃ (b : Bool), r_25 = D.v (Value.bool b) ∧ (b = true → ∃ (r_26 : D), PureD Try.prog 23 [D.agg [r.cell 0, r.cell 1, r.cell 2, r.cell 3], D.agg [r_4.cell 0, r_4.cell 1, r_4.cell 2, r_4.cell 3]] [r_26] ∧ fits [(false, [none])] [r_26] ∧ ∃ (b : Bool), r_26 = D.v (Value.bool b) ∧ (b = true → ∃ (r : D), D.bin BinOp.eql r_13 (D.v (Value.int IntKind.i64 0)) = some r ∧ ∃ (b : Bool), r = D.v (Value.bool b) ∧ (b = true → ∃ (r : D), D.bin BinOp.eql r_14 (D.v (Value.int IntKind.u32 5)) = some r ∧ ∃ (b : Bool), r = D.v (Value.bool b) ∧ (b = true → ∃ (r : D), PureD Try.prog 23 [D.agg [r_12.cell 0, r_12.cell 1, r_12.cell 2, r_12.cell 3], D.agg [r_4.cell 0, r_4.cell 1, r_4.cell 2, r_4.cell 3]] [r] ∧ fits [(false, [none])] [r] ∧ ∃ (b : Bool), r = D.v (Value.bool b) ∧ (b = true → ∃ (r : D), D.bin BinOp.eql r_18 (D.v (Value.int IntKind.u32 0)) = some r ∧ ∃ (b : Bool), r = D.v (Value.bool b) ∧ (b = true → ∃ (r : D), PureD Try.prog 23 [D.agg [r_16.cell 0, r_16.cell 1, r_16.cell 2, r_16.cell 3], D.agg [r_4.cell 0, r_4.cell 1, r_4.cell 2, r_4.cell 3]] [r] ∧ fits [(false, [none])] [r] ∧ ∃ (b : Bool), r = D.v (Value.bool b) ∧ (b = true → ∃ (r : D), PureD Try.prog 15 [D.agg [r_4.cell 0, r_4.cell 1, r_4.cell 2, r_4.cell 3]] [r] ∧ fits [(false, [none])] [r] ∧ ∃ (r_27 : D), D.bin BinOp.eql (D.v (Value.int IntKind.u8 ↑v)) (D.v (Value.int IntKind.u8 0)) = some r_27 ∧ ∃ (r_28 : D), r.beq r_27 = some r_28 ∧ ∃ (b : Bool), r_28 = D.v (Value.bool b) ∧ (b = true → ∃ (r : D), PureD Try.prog 7 [] [r] ∧ fits [(false, [none])] [r] ∧ ((∃ (y : Value), r = D.v y) ∧ True) ∧ [r] = [D.v (Value.bool true)]) ∧ (b = false → (True ∧ True) ∧ [D.v (Value.bool false)] = [D.v (Value.bool true)])) ∧ (b = false → (True ∧ True) ∧ [D.v (Value.bool false)] = [D.v (Value.bool true)])) ∧ (b = false → (True ∧ True) ∧ [D.v (Value.bool false)] = [D.v (Value.bool true)])) ∧ (b = false → (True ∧ True) ∧ [D.v (Value.bool false)] = [D.v (Value.bool true)])) ∧ (b = false → (True ∧ True) ∧ [D.v (Value.bool false)] = [D.v (Value.bool true)])) ∧ (b = false → (True ∧ True) ∧ [D.v (Value.bool false)] = [D.v (Value.bool true)])) ∧ (b = false → (True ∧ True) ∧ [D.v (Value.bool false)] = [D.v (Value.bool true)])) ∧ (b = false → (True ∧ True) ∧ [D.v (Value.bool false)] = [D.v (Value.bool true)])) ∧ (b = false → (True ∧ True) ∧ [D.v (Value.bool false)] = [D.v (Value.bool true)])) ∧ (b = false → (True ∧ True) ∧ [D.v (Value.bool false)] = [D.v (Value.bool true)])) ∧ (b = false → (True ∧ True) ∧ [D.v (Value.bool false)] = [D.v (Value.bool true)]))) ∧ (b = false → ∃ (r_20 : D), D.bin BinOp.eql r_10 (D.v (Value.int IntKind.u32 5)) = some r_20 ∧ ∃ (b : Bool), r_20 = D.v (Value.bool b) ∧ (b = true → ∃ (r_21 : D), D.bin BinOp.neq (str t) (D.v (Value.string { data := { toList := [] } })) = some r_21 ∧ ∃ (r_22 : D), D.lenT TypeDesc.string (str s) = some r_22 ∧ ∃ (r_23 : D), D.bin BinOp.eql r_5 r_22 = some r_23 ∧ ∃ (b : Bool), r_23 = D.v (Value.bool b) ∧ (b = true → ∃ (r_24 : D), D.bin BinOp.eql r_6 (D.v (Value.int IntKind.u32 0)) = some r_24 ∧ ∃ (b : Bool), r_24 = D.v (Value.bool b) ∧ (b = true → ∃ (r_25 : D), D.bin BinOp.eql (r_4.cell 3) r_8 = some r_25 ∧ ∃ (b : Bool), r_25 = D.v (Value.bool b) ∧ (b = true → ∃ (b : Bool), r_21 = D.v (Value.bool b) ∧ (b = true → ∃ (r_26 : D), D.bin BinOp.eql r_9 (D.v (Value.int IntKind.i64 0)) = some r_26 ∧ ∃ (b : Bool), r_26 = D.v (Value.bool b) ∧ (b = true → ∃ (r_27 : D), PureD Try.prog 23 [D.agg [r.cell 0, r.cell 1, r.cell 2, r.cell 3], D.agg [r_4.cell 0, r_4.cell 1, r_4.cell 2, r_4.cell 3]] [r_27] ∧ fits [(false, [none])] [r_27] ∧ ∃ (b : Bool), r_27 = D.v (Value.bool b) ∧ (b = true → ∃ (r : D), D.bin BinOp.eql r_13 (D.v (Value.int IntKind.i64 0)) = some r ∧ ∃ (b : Bool), r = D.v (Value.bool b) ∧ (b = true → ∃ (r : D), D.bin BinOp.eql r_14 (D.v (Value.int IntKind.u32 5)) = some r ∧ ∃ (b : Bool), r = D.v (Value.bool b) ∧ (b = true → ∃ (r : D), PureD Try.prog 23 [D.agg [r_12.cell 0, r_12.cell 1, r_12.cell 2, r_12.cell 3], D.agg [r_4.cell 0, r_4.cell 1, r_4.cell 2, r_4.cell 3]] [r] ∧ fits [(false, [none])] [r] ∧ ∃ (b : Bool), r = D.v (Value.bool b) ∧ (b = true → ∃ (r : D), D.bin BinOp.eql r_18 (D.v (Value.int IntKind.u32 0)) = some r ∧ ∃ (b : Bool), r = D.v (Value.bool b) ∧ (b = true → ∃ (r : D), PureD Try.prog 23 [D.agg [r_16.cell 0, r_16.cell 1, r_16.cell 2, r_16.cell 3], D.agg [r_4.cell 0, r_4.cell 1, r_4.cell 2, r_4.cell 3]] [r] ∧ fits [(false, [none])] [r] ∧ ∃ (b : Bool), r = D.v (Value.bool b) ∧ (b = true → ∃ (r : D), PureD Try.prog 15 [D.agg [r_4.cell 0, r_4.cell 1, r_4.cell 2, r_4.cell 3]] [r] ∧ fits [(false, [none])] [r] ∧ ∃ (r_28 : D), D.bin BinOp.eql (D.v (Value.int IntKind.u8 ↑v)) (D.v (Value.int IntKind.u8 0)) = some r_28 ∧ ∃ (r_29 : D), r.beq r_28 = some r_29 ∧ ∃ (b : Bool), r_29 = D.v (Value.bool b) ∧ (b = true → ∃ (r : D), PureD Try.prog 7 [] [r] ∧ fits [(false, [none])] [r] ∧ ((∃ (y : Value), r = D.v y) ∧ True) ∧ [r] = [D.v (Value.bool true)]) ∧ (b = false → (True ∧ True) ∧ [D.v (Value.bool false)] = [D.v (Value.bool true)])) ∧ (b = false → (True ∧ True) ∧ [D.v (Value.bool false)] = [D.v (Value.bool true)])) ∧ (b = false → (True ∧ True) ∧ [D.v (Value.bool false)] = [D.v (Value.bool true)])) ∧ (b = false → (True ∧ True) ∧ [D.v (Value.bool false)] = [D.v (Value.bool true)])) ∧ (b = false → (True ∧ True) ∧ [D.v (Value.bool false)] = [D.v (Value.bool true)])) ∧ (b = false → (True ∧ True) ∧ [D.v (Value.bool false)] = [D.v (Value.bool true)])) ∧ (b = false → (True ∧ True) ∧ [D.v (Value.bool false)] = [D.v (Value.bool true)])) ∧ (b = false → (True ∧ True) ∧ [D.v (Value.bool false)] = [D.v (Value.bool true)])) ∧ (b = false → (True ∧ True) ∧ [D.v (Value.bool false)] = [D.v (Value.bool true)])) ∧ (b = false → (True ∧ True) ∧ [D.v (Value.bool false)] = [D.v (Value.bool true)])) ∧ (b = false → (True ∧ True) ∧ [D.v (Value.bool false)] = [D.v (Value.bool true)])) ∧ (b = false → (True ∧ True) ∧ [D.v (Value.bool false)] = [D.v (Value.bool true)])) ∧ (b = false → ∃ (r : D), D.lenT TypeDesc.string (str s) = some r ∧ ∃ (r_21 : D), D.bin BinOp.eql r_5 r = some r_21 ∧ ∃ (b : Bool), r_21 = D.v (Value.bool b) ∧ (b = true → ∃ (r : D), D.bin BinOp.eql r_6 (D.v (Value.int IntKind.u32 0)) = some r ∧ ∃ (b : Bool), r = D.v (Value.bool b) ∧ (b = true → ∃ (r : D), D.bin BinOp.eql (r_4.cell 3) r_8 = some r ∧ ∃ (b : Bool), r = D.v (Value.bool b) ∧ (b = true → (True ∧ True) ∧ [D.v (Value.bool false)] = [D.v (Value.bool true)]) ∧ (b = false → (True ∧ True) ∧ [D.v (Value.bool false)] = [D.v (Value.bool true)])) ∧ (b = false → (True ∧ True) ∧ [D.v (Value.bool false)] = [D.v (Value.bool true)])) ∧ (b = false → (True ∧ True) ∧ [D.v (Value.bool false)] = [D.v (Value.bool true)]))))) ∧ (b = true → ∃ (r : D), PureD Try.prog 7 [] [r] ∧ fits [(false, [none])] [r] ∧ ((∃ (y : Value), r = D.v y) ∧ True) ∧ [r] = [D.v (Value.bool true)])) := by kernel_rfl
set_option maxHeartbeats 16000000 in
theorem once (s t : List Int) (v : Nat) (hs : Bytes s) (ht : Bytes t) (hv : v < 256) : PureD Try.prog 5 [str s, .v (.int .u8 (v : Nat)), str t] [.v (.bool true)] := by
  refine pure_cond (Lp := (fun _ => none)) (by kernel_rfl) Try.func5 (by kernel_rfl) (by kernel_rfl) ?_
  rw [vc_once s t v]
  have awake := awake
  by_cases hsl : s.length ≤ 200
  · by_cases htl : t.length ≤ 200
    · have NW := rknew
      obtain ⟨y1, hY1, P1⟩ := rk_put_c (R := R0) (x := .v nilS) (v := v) (s := s) (fin := true) (.inr ⟨rfl, rfl⟩) allB_nil (Nat.zero_le _) (Nat.zero_le _) (by omega) ⟨by omega, by omega⟩
      obtain ⟨a1, a2, a3⟩ := r0_put hv hsl
      rw [a1] at hY1
      rw [a1, a2, a3] at P1
      obtain ⟨hok, hck⟩ := r1_ok hv hsl
      obtain ⟨hbl, hbr⟩ := r1_bytes (v := v) hs
      have hA := hok.all hbl
      have hpl := hok.len
      have hrl := hok.r
      obtain ⟨b1, b2, b3⟩ := r1_x (t := t) hv hsl htl
      obtain ⟨y2, hY2, P2⟩ := rk_put_c (R := R1 v s) (x := y1) (v := v + s.length) (s := t) (fin := false) hY1 hA (by omega) (by omega) (by omega) ⟨by omega, by omega⟩
      rw [b1] at hY2
      rw [b1, b2, b3] at P2
      obtain ⟨c1, c2, c3⟩ := r1_y (s := s) hv hsl
      obtain ⟨y3, hY3, P3⟩ := rk_put_c (R := R1 v s) (x := y1) (v := v + s.length + 1) (s := []) (fin := true) hY1 hA (by omega) (by omega) (Nat.zero_le _) ⟨by omega, by omega⟩
      rw [c1] at hY3
      rw [c1, c2, c3] at P3
      obtain ⟨d1, d2⟩ := r1_z hv hsl
      obtain ⟨y4, hY4, P4⟩ := rk_put_c (R := R1 v s) (x := y1) (v := v) (s := s) (fin := true) hY1 hA (by omega) (by omega) (by omega) ⟨by omega, by omega⟩
      rw [d1] at hY4
      rw [d1, d2] at P4
      have W1 := whole y1 (R1 v s).S.ps (R1 v s).S.b (R1 v s).S.r (R1 v s).e hY1 hA (by omega) (by omega)
      rw [r1_w hv hsl] at W1
      have SM1 := rksame y2 y1 (R1 v s).S.ps (R1 v s).S.ps (R1 v s).S.b (R1 v s).S.b (R1 v s).e (R1 v s).e (R1 v s).S.r (R1 v s).S.r hY2 hY1 (by omega) (by omega) hA hA hbr hbr
      have SM2 := rksame y3 y1 (R1 v s).S.ps (R1 v s).S.ps (R1 v s).S.b (R1 v s).S.b (R1 v s).e (R1 v s).e (R1 v s).S.r (R1 v s).S.r hY3 hY1 (by omega) (by omega) hA hA hbr hbr
      have SM3 := rksame y4 y1 (R1 v s).S.ps (R1 v s).S.ps (R1 v s).S.b (R1 v s).S.b (R1 v s).e (R1 v s).e (R1 v s).S.r (R1 v s).S.r hY4 hY1 (by omega) (by omega) hA hA hbr hbr
      rw [sameS_self] at SM1 SM2 SM3
      simp only [decide_true, Bool.and_true] at SM1 SM2 SM3
      have he : (R1 v s).e = v + s.length := rfl
      rw [he] at *
      have hbe := bin_e ht
      have hbn : D.bin .neq (str t) (.v (.string ⟨#[]⟩)) = some (.v (.bool (!decide (t.length = 0)))) := by
        have := bin_sneq ht Bytes.nil
        rw [str_nil, this]
        cases t <;> simp
      generalize (R1 v s).num v s true = zz at P4
      generalize (R1 v s).S = S at *
      clear a1 a2 a3 b1 b2 b3 c1 c2 c3 d1 d2 he
      by_cases htn : t = []
      · subst htn
        rw [if_pos rfl] at P2
        repeat' (first
          | (refine ex_some (by simp (disch := omega) only [bin_shr, bin_shl, bin_and, bin_or, bin_xor, len_str, toStr_ofL, bin_add, bin_sub, bin_mul, bin_quo, bin_rem, bin_lss, bin_leq, bin_gtr, bin_geq, bin_eql, bin_neq, eqs_cn, eqs_ci, eqs_cb, eqs_cs, Option.map_some, lenT_ofL, lst_ofL, lstSz_ofL, chunk_one, lst_nil, lst_sl, lstSz_sl, lstSz_nil, Bool.and_true, Bool.true_and, Bool.and_false, Bool.false_and, beq_self_eq_true, beq_bb, bne_bb, un_not, un_neg, conv_int, min2_int, max2_int, w64, w32, wu8, wu16, wu32, wu64, tdiv_nn, tmod_nn, cell_zero, cell_succ, cell_v, cells_v, cells_agg, Bool.not_true, Bool.not_false, Int.reduceLT, Int.reduceLE, Int.reduceEq, Int.reduceNeg, Int.reduceAdd, Int.reduceSub, Int.reduceMul, intOf_v, decide_true, decide_false, hbe, hbn]; rfl) ?_)
          | (refine ex_bool ?_)
          | (refine ⟨_, _, _, P1, ?_⟩)
          | (refine ⟨_, _, _, P2, ?_⟩)
          | (refine ⟨_, _, _, P3, ?_⟩)
          | (refine ⟨_, _, _, P4, ?_⟩)
          | (refine ⟨_, awake, ?_⟩)
          | (refine ⟨_, NW, ?_⟩)
          | (refine ⟨_, W1, ?_⟩)
          | (refine ⟨_, SM1, ?_⟩)
          | (refine ⟨_, SM2, ?_⟩)
          | (refine ⟨_, SM3, ?_⟩)
          | (refine And.intro ?_ ?_)
          | (intro hx; have hprop := (show ∀ (p : Prop), p → True from fun _ _ => True.intro) _ hx; clear hprop; first | (cases hx; done) | (exfalso; revert hx; simp (disch := omega) only [decide_eq_true_eq, decide_eq_false_iff_not, Bool.not_eq_true', Bool.not_eq_false', Bool.and_eq_true, Bool.and_eq_false_iff, Int.not_lt, Int.not_le, ne_eq, not_false_eq_true, not_true_eq_false, reduceCtorEq, Bool.true_eq_false, Bool.false_eq_true, beq_iff_eq, bne_iff_ne, beq_eq_false_iff_ne, false_or, or_false, true_and, and_true, hbe, hbn]; done) | (simp (disch := omega) only [decide_eq_true_eq, decide_eq_false_iff_not, Bool.not_eq_true', Bool.not_eq_false', Bool.and_eq_true, Bool.and_eq_false_iff, Int.not_lt, Int.not_le, ne_eq, not_false_eq_true, not_true_eq_false, reduceCtorEq, Bool.true_eq_false, Bool.false_eq_true, beq_iff_eq, bne_iff_ne, beq_eq_false_iff_ne, false_or, or_false, true_and, and_true, hbe, hbn] at hx; first | (exfalso; omega) | skip) | skip)
          | trivial
          | exact fit_ofL _ _
          | (simp (disch := omega) only [notAgg_v, notAgg_sl, plain_v, fits, fitsOne, fitsCells, xsOf, cell_zero, cell_succ, List.range, List.range.loop, List.map, cond_true, cond_false, D.v.injEq, exists_eq', exists_eq, and_self, and_true, true_and, D.agg.injEq, List.length, exists_eq_left', D.sl.injEq, reduceCtorEq, false_or, true_or, or_true, or_false, cell_zero, cell_succ, cell_v, cells_v, cells_agg, List.length_cons, List.length_nil, hbe, hbn]; done))
        all_goals first
          | (exfalso; omega)
          | omega
          | exact fitP hY1
          | exact plainP hY1
          | exact fitP hY2
          | exact plainP hY2
          | exact hY1.notAgg
          | exact hY2.notAgg
          | exact fit_ofL _ _
          | exact plain_ofL (pts_plain _)
          | exact hY3.notAgg
          | exact hY4.notAgg
          | exact .inl rfl
          | exact notAgg_v _
          | exact ⟨_, rfl⟩
          | exact ⟨_, rfl, rfl⟩
          | rfl
          | assumption
          | (simp; done)
          | fail
      · rw [if_neg htn] at P2
        have := ne_len.1 htn
        repeat' (first
          | (refine ex_some (by simp (disch := omega) only [bin_shr, bin_shl, bin_and, bin_or, bin_xor, len_str, toStr_ofL, bin_add, bin_sub, bin_mul, bin_quo, bin_rem, bin_lss, bin_leq, bin_gtr, bin_geq, bin_eql, bin_neq, eqs_cn, eqs_ci, eqs_cb, eqs_cs, Option.map_some, lenT_ofL, lst_ofL, lstSz_ofL, chunk_one, lst_nil, lst_sl, lstSz_sl, lstSz_nil, Bool.and_true, Bool.true_and, Bool.and_false, Bool.false_and, beq_self_eq_true, beq_bb, bne_bb, un_not, un_neg, conv_int, min2_int, max2_int, w64, w32, wu8, wu16, wu32, wu64, tdiv_nn, tmod_nn, cell_zero, cell_succ, cell_v, cells_v, cells_agg, Bool.not_true, Bool.not_false, Int.reduceLT, Int.reduceLE, Int.reduceEq, Int.reduceNeg, Int.reduceAdd, Int.reduceSub, Int.reduceMul, intOf_v, decide_true, decide_false, hbe, hbn]; rfl) ?_)
          | (refine ex_bool ?_)
          | (refine ⟨_, _, _, P1, ?_⟩)
          | (refine ⟨_, _, _, P2, ?_⟩)
          | (refine ⟨_, _, _, P3, ?_⟩)
          | (refine ⟨_, _, _, P4, ?_⟩)
          | (refine ⟨_, awake, ?_⟩)
          | (refine ⟨_, NW, ?_⟩)
          | (refine ⟨_, W1, ?_⟩)
          | (refine ⟨_, SM1, ?_⟩)
          | (refine ⟨_, SM2, ?_⟩)
          | (refine ⟨_, SM3, ?_⟩)
          | (refine And.intro ?_ ?_)
          | (intro hx; have hprop := (show ∀ (p : Prop), p → True from fun _ _ => True.intro) _ hx; clear hprop; first | (cases hx; done) | (exfalso; revert hx; simp (disch := omega) only [decide_eq_true_eq, decide_eq_false_iff_not, Bool.not_eq_true', Bool.not_eq_false', Bool.and_eq_true, Bool.and_eq_false_iff, Int.not_lt, Int.not_le, ne_eq, not_false_eq_true, not_true_eq_false, reduceCtorEq, Bool.true_eq_false, Bool.false_eq_true, beq_iff_eq, bne_iff_ne, beq_eq_false_iff_ne, false_or, or_false, true_and, and_true, hbe, hbn]; done) | (simp (disch := omega) only [decide_eq_true_eq, decide_eq_false_iff_not, Bool.not_eq_true', Bool.not_eq_false', Bool.and_eq_true, Bool.and_eq_false_iff, Int.not_lt, Int.not_le, ne_eq, not_false_eq_true, not_true_eq_false, reduceCtorEq, Bool.true_eq_false, Bool.false_eq_true, beq_iff_eq, bne_iff_ne, beq_eq_false_iff_ne, false_or, or_false, true_and, and_true, hbe, hbn] at hx; first | (exfalso; omega) | skip) | skip)
          | trivial
          | exact fit_ofL _ _
          | (simp (disch := omega) only [notAgg_v, notAgg_sl, plain_v, fits, fitsOne, fitsCells, xsOf, cell_zero, cell_succ, List.range, List.range.loop, List.map, cond_true, cond_false, D.v.injEq, exists_eq', exists_eq, and_self, and_true, true_and, D.agg.injEq, List.length, exists_eq_left', D.sl.injEq, reduceCtorEq, false_or, true_or, or_true, or_false, cell_zero, cell_succ, cell_v, cells_v, cells_agg, List.length_cons, List.length_nil, hbe, hbn]; done))
        all_goals first
          | (exfalso; omega)
          | omega
          | exact fitP hY1
          | exact plainP hY1
          | exact fitP hY2
          | exact plainP hY2
          | exact hY1.notAgg
          | exact hY2.notAgg
          | exact fit_ofL _ _
          | exact plain_ofL (pts_plain _)
          | exact hY3.notAgg
          | exact hY4.notAgg
          | exact .inl rfl
          | exact notAgg_v _
          | exact ⟨_, rfl⟩
          | exact ⟨_, rfl, rfl⟩
          | rfl
          | assumption
          | (simp; done)
          | fail
    · skip
      repeat' (first
        | (refine ex_some (by simp (disch := omega) only [bin_shr, bin_shl, bin_and, bin_or, bin_xor, len_str, toStr_ofL, bin_add, bin_sub, bin_mul, bin_quo, bin_rem, bin_lss, bin_leq, bin_gtr, bin_geq, bin_eql, bin_neq, eqs_cn, eqs_ci, eqs_cb, eqs_cs, Option.map_some, lenT_ofL, lst_ofL, lstSz_ofL, chunk_one, lst_nil, lst_sl, lstSz_sl, lstSz_nil, Bool.and_true, Bool.true_and, Bool.and_false, Bool.false_and, beq_self_eq_true, beq_bb, bne_bb, un_not, un_neg, conv_int, min2_int, max2_int, w64, w32, wu8, wu16, wu32, wu64, tdiv_nn, tmod_nn, cell_zero, cell_succ, cell_v, cells_v, cells_agg, Bool.not_true, Bool.not_false, Int.reduceLT, Int.reduceLE, Int.reduceEq, Int.reduceNeg, Int.reduceAdd, Int.reduceSub, Int.reduceMul, intOf_v, decide_true, decide_false]; rfl) ?_)
        | (refine ex_bool ?_)
        | (refine ⟨_, awake, ?_⟩)
        | (refine And.intro ?_ ?_)
        | (intro hx; have hprop := (show ∀ (p : Prop), p → True from fun _ _ => True.intro) _ hx; clear hprop; first | (cases hx; done) | (exfalso; revert hx; simp (disch := omega) only [decide_eq_true_eq, decide_eq_false_iff_not, Bool.not_eq_true', Bool.not_eq_false', Bool.and_eq_true, Bool.and_eq_false_iff, Int.not_lt, Int.not_le, ne_eq, not_false_eq_true, not_true_eq_false, reduceCtorEq, Bool.true_eq_false, Bool.false_eq_true, beq_iff_eq, bne_iff_ne, beq_eq_false_iff_ne, false_or, or_false, true_and, and_true]; done) | (simp (disch := omega) only [decide_eq_true_eq, decide_eq_false_iff_not, Bool.not_eq_true', Bool.not_eq_false', Bool.and_eq_true, Bool.and_eq_false_iff, Int.not_lt, Int.not_le, ne_eq, not_false_eq_true, not_true_eq_false, reduceCtorEq, Bool.true_eq_false, Bool.false_eq_true, beq_iff_eq, bne_iff_ne, beq_eq_false_iff_ne, false_or, or_false, true_and, and_true] at hx; first | (exfalso; omega) | skip) | skip)
        | trivial
        | exact fit_ofL _ _
        | (simp (disch := omega) only [notAgg_v, notAgg_sl, plain_v, fits, fitsOne, fitsCells, xsOf, cell_zero, cell_succ, List.range, List.range.loop, List.map, cond_true, cond_false, D.v.injEq, exists_eq', exists_eq, and_self, and_true, true_and, D.agg.injEq, List.length, exists_eq_left', D.sl.injEq, reduceCtorEq, false_or, true_or, or_true, or_false, cell_zero, cell_succ, cell_v, cells_v, cells_agg, List.length_cons, List.length_nil]; done))
      all_goals first
        | (exfalso; omega)
        | omega
        | exact fit_ofL _ _
        | exact plain_ofL (pts_plain _)
        | exact .inl rfl
        | exact notAgg_v _
        | exact ⟨_, rfl⟩
        | exact ⟨_, rfl, rfl⟩
        | rfl
        | assumption
        | (simp; done)
        | fail
  · skip
    repeat' (first
      | (refine ex_some (by simp (disch := omega) only [bin_shr, bin_shl, bin_and, bin_or, bin_xor, len_str, toStr_ofL, bin_add, bin_sub, bin_mul, bin_quo, bin_rem, bin_lss, bin_leq, bin_gtr, bin_geq, bin_eql, bin_neq, eqs_cn, eqs_ci, eqs_cb, eqs_cs, Option.map_some, lenT_ofL, lst_ofL, lstSz_ofL, chunk_one, lst_nil, lst_sl, lstSz_sl, lstSz_nil, Bool.and_true, Bool.true_and, Bool.and_false, Bool.false_and, beq_self_eq_true, beq_bb, bne_bb, un_not, un_neg, conv_int, min2_int, max2_int, w64, w32, wu8, wu16, wu32, wu64, tdiv_nn, tmod_nn, cell_zero, cell_succ, cell_v, cells_v, cells_agg, Bool.not_true, Bool.not_false, Int.reduceLT, Int.reduceLE, Int.reduceEq, Int.reduceNeg, Int.reduceAdd, Int.reduceSub, Int.reduceMul, intOf_v, decide_true, decide_false]; rfl) ?_)
      | (refine ex_bool ?_)
      | (refine ⟨_, awake, ?_⟩)
      | (refine And.intro ?_ ?_)
      | (intro hx; have hprop := (show ∀ (p : Prop), p → True from fun _ _ => True.intro) _ hx; clear hprop; first | (cases hx; done) | (exfalso; revert hx; simp (disch := omega) only [decide_eq_true_eq, decide_eq_false_iff_not, Bool.not_eq_true', Bool.not_eq_false', Bool.and_eq_true, Bool.and_eq_false_iff, Int.not_lt, Int.not_le, ne_eq, not_false_eq_true, not_true_eq_false, reduceCtorEq, Bool.true_eq_false, Bool.false_eq_true, beq_iff_eq, bne_iff_ne, beq_eq_false_iff_ne, false_or, or_false, true_and, and_true]; done) | (simp (disch := omega) only [decide_eq_true_eq, decide_eq_false_iff_not, Bool.not_eq_true', Bool.not_eq_false', Bool.and_eq_true, Bool.and_eq_false_iff, Int.not_lt, Int.not_le, ne_eq, not_false_eq_true, not_true_eq_false, reduceCtorEq, Bool.true_eq_false, Bool.false_eq_true, beq_iff_eq, bne_iff_ne, beq_eq_false_iff_ne, false_or, or_false, true_and, and_true] at hx; first | (exfalso; omega) | skip) | skip)
      | trivial
      | exact fit_ofL _ _
      | (simp (disch := omega) only [notAgg_v, notAgg_sl, plain_v, fits, fitsOne, fitsCells, xsOf, cell_zero, cell_succ, List.range, List.range.loop, List.map, cond_true, cond_false, D.v.injEq, exists_eq', exists_eq, and_self, and_true, true_and, D.agg.injEq, List.length, exists_eq_left', D.sl.injEq, reduceCtorEq, false_or, true_or, or_true, or_false, cell_zero, cell_succ, cell_v, cells_v, cells_agg, List.length_cons, List.length_nil]; done))
    all_goals first
      | (exfalso; omega)
      | omega
      | exact fit_ofL _ _
      | exact plain_ofL (pts_plain _)
      | exact .inl rfl
      | exact notAgg_v _
      | exact ⟨_, rfl⟩
      | exact ⟨_, rfl, rfl⟩
      | rfl
      | assumption
      | (simp; done)
      | fail


theorem law_RasmOnce (xs : List D) (h : All2 TypedA [(false, [.str]), (false, [.int .u8]), (false, [.str])] xs) : PureD Try.prog 5 xs [.v (.bool true)] := by
  obtain ⟨x, xs, rfl, hx, h⟩ := h.cons_
  obtain ⟨y, xs, rfl, hy, h⟩ := h.cons_
  obtain ⟨z, xs, rfl, hz, h⟩ := h.cons_
  obtain rfl := h.nil_
  obtain ⟨s, rfl, _⟩ := hx.one.str_
  obtain ⟨v, rfl, wv⟩ := hy.one.int_
  obtain ⟨t, rfl, _⟩ := hz.one.str_
  have wv := wf_u8 wv
  obtain ⟨v, rfl⟩ := Int.eq_ofNat_of_zero_le wv.1
  rw [str_of, str_of]
  exact once (bytesOf s) (bytesOf t) v (bytesOf_bd s) (bytesOf_bd t) (by omega)

end Go.Proofs.Ytjdemohgegldaaa