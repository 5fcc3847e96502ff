/-
  Layer 24: what every right program does; what is put, all cases.
-/
import Derived.Test.YtjdemohgegldaaaT1
import Derived.Test.YtjdemohgegldaaaT2
import Derived.Test.YtjdemohgegldaaaT3
import Derived.Test.YtjdemohgegldaaaT4
import Derived.Test.YtjdemohgegldaaaT6
import Derived.Test.YtjdemohgegldaaaT7
import Derived.Test.YtjdemohgegldaaaT8
import Derived.Test.YtjdemohgegldaaaT10
import Derived.Test.YtjdemohgegldaaaT11
import Derived.Test.YtjdemohgegldaaaT13
import Derived.Test.YtjdemohgegldaaaT15
import Derived.Test.YtjdemohgegldaaaT16
import Derived.Test.YtjdemohgegldaaaT17
import Derived.Test.YtjdemohgegldaaaT18
import Derived.Test.YtjdemohgegldaaaT19
import Derived.Test.YtjdemohgegldaaaT20
import Derived.Test.YtjdemohgegldaaaT21
namespace Go.Proofs.Ytjdemohgegldaaa
open Go.RowKit
set_option linter.unusedSimpArgs false
set_option linter.unusedVariables false


structure RS where
  S : SS
  e : Int
def RS.chk (R : RS) : Int := chkR R.S.b R.S.r.length R.S.ps R.e
def RS.shut (R : RS) (v : Int) (n : Nat) (fin : Bool) : Prop := shutF R.S.b R.S.ps R.e v n fin
instance (R : RS) (v : Int) (n : Nat) (fin : Bool) : Decidable (R.shut v n fin) := by unfold RS.shut; infer_instance
def RS.good (R : RS) (v : Int) (n : Nat) : Prop := R.chk = 0 ∧ 0 ≤ v ∧ v ≤ 1099511627776 - (n : Nat)
instance (R : RS) (v : Int) (n : Nat) : Decidable (R.good v n) := by unfold RS.good; infer_instance
def RS.put (R : RS) (v : Int) (s : List Int) (fin : Bool) : RS := if R.good v s.length ∧ ¬ R.shut v s.length fin then ⟨putA R.S v s, if fin = true then v + s.length else R.e⟩ else R
def RS.num (R : RS) (v : Int) (s : List Int) (fin : Bool) : Int := ((R.put v s fin).S.tot : Int) - R.S.tot
def RS.code (R : RS) (v : Int) (s : List Int) (fin : Bool) : Int := if R.good v s.length then (if R.shut v s.length fin then 5 else 0) else 2
theorem rk_put_c {R : RS} {x : D} {v : Int} {s : List Int} {fin : Bool} (hX : IsL 2 (R.S.ps.map ptD) x) (hP : AllB R.S.ps) (hm : R.S.ps.length ≤ 90000) (hr : R.S.r.length ≤ 100000) (hs : s.length ≤ 100000) (v0 : I64 v) :
    ∃ y, IsL 2 ((R.put v s fin).S.ps.map ptD) y ∧ ReadD Try.prog 9 [.agg [.v (.int .i64 R.S.b), str R.S.r, x, .v (.int .i64 R.e)], .v (.int .i64 v), str s, .v (.bool fin)] [.agg [.v (.int .i64 (R.put v s fin).S.b), str (R.put v s fin).S.r, y, .v (.int .i64 (R.put v s fin).e)], .v (.int .i64 (R.num v s fin)), .v (.int .u32 (R.code v s fin))] := by
  unfold RS.num RS.put RS.code
  by_cases hg : R.good v s.length
  · by_cases hs2 : R.shut v s.length fin
    · simp only [hg, hs2, not_true_eq_false, and_false, if_true, if_false]
      exact ⟨x, hX, rkput_shut x R.S.ps R.S.b R.S.r R.e s v fin _ _ _ _ _ _ hX hP hm hr hs v0 hg.1 hg.2.1 hg.2.2 hs2 rfl rfl rfl rfl (by omega) rfl⟩
    · simp only [hg, hs2, not_false_eq_true, and_true, if_true, if_false]
      obtain ⟨y, h1, h2⟩ := put_c (S := R.S) (v := v) (s := s) hX hP hm hr hs v0.1
      exact ⟨y, h1, rkput_fine x R.S.ps R.S.b R.S.r R.e s v fin _ _ _ _ _ _ _ hX hP hm hr hs v0 hg.1 hg.2.1 hg.2.2 hs2 h1 h2 rfl rfl⟩
  · simp only [hg, false_and, if_false]
    refine ⟨x, hX, rkput_bad x R.S.ps R.S.b R.S.r R.e s v fin _ _ _ _ _ _ hX hP hm hr hs v0 ?_ rfl rfl rfl rfl (by omega) rfl⟩
    unfold RS.good RS.chk at hg
    omega
theorem rr_put_c {R : RS} {x : D} {v : Int} {s : List Int} {fin : Bool} (hX : IsL 2 (R.S.ps.map ptD) x) (hP : AllB R.S.ps) (hm : R.S.ps.length ≤ 90000) (hr : R.S.r.length ≤ 100000) (hrb : Bytes R.S.r) (hs : s.length ≤ 100000) (hbs : Bytes s) (v0 : I64 v) :
    ∃ y, IsL 2 ((R.put v s fin).S.ps.map ptD) y ∧ ReadD Try.prog 10 [.agg [.v (.int .i64 R.S.b), str R.S.r, x, .v (.int .i64 R.e)], .v (.int .i64 v), str s, .v (.bool fin)] [.agg [.v (.int .i64 (R.put v s fin).S.b), str (R.put v s fin).S.r, y, .v (.int .i64 (R.put v s fin).e)], .v (.int .i64 (R.num v s fin)), .v (.int .i64 (R.code v s fin))] := by
  unfold RS.num RS.put RS.code
  by_cases hg : R.good v s.length
  · by_cases hs2 : R.shut v s.length fin
    · simp only [hg, hs2, not_true_eq_false, and_false, if_true, if_false]
      exact ⟨x, hX, rrput_shut x R.S.ps R.S.b R.S.r R.e s v fin _ _ _ _ _ _ hX hP hm hr hs v0 hg.1 hg.2.1 hg.2.2 hs2 rfl rfl rfl rfl (by omega) rfl⟩
    · simp only [hg, hs2, not_false_eq_true, and_true, if_true, if_false]
      obtain ⟨y, h1, h2⟩ := rput_c (S := R.S) (v := v) (s := s) hX hP hm hr hrb hs hbs
      exact ⟨y, h1, rrput_fine x R.S.ps R.S.b R.S.r R.e s v fin _ _ _ _ _ _ _ hX hP hm hr hs v0 hg.1 hg.2.1 hg.2.2 hs2 h1 h2 rfl rfl⟩
  · simp only [hg, false_and, if_false]
    refine ⟨x, hX, rrput_bad x R.S.ps R.S.b R.S.r R.e s v fin _ _ _ _ _ _ hX hP hm hr hs v0 ?_ rfl rfl rfl rfl (by omega) rfl⟩
    unfold RS.good RS.chk at hg
    omega
theorem put_keepR {R : RS} (hP : AllB R.S.ps) (hm : R.S.ps.length ≤ 90000) (hl : R.S.r.length ≤ 100000) (hr : Bytes R.S.r) {v : Int} {s : List Int} {fin : Bool} (hs : Bytes s) : AllB (R.put v s fin).S.ps ∧ (R.put v s fin).S.ps.length ≤ 90000 ∧ Bytes (R.put v s fin).S.r ∧ (R.put v s fin).S.r.length ≤ 100000 := by
  unfold RS.put
  split
  · exact putA_keep hP hm hl hr hs
  · exact ⟨hP, hm, hr, hl⟩
theorem i64d {z : Int} (h : (decide (-9223372036854775808 ≤ z) && decide (z ≤ 9223372036854775807)) = true) : I64 z := by simpa [I64] using h

theorem vc_awake  : Cond Try.prog (fun _ => none) Try.f7 [] [.v (.bool true)] = (True ∧ ∃ (r : D), PureD Try.prog 24 [] [r] ∧ fits [(true, [none, none, some 2, none])] [r] ∧ ∃ (r_1 : D), ∃ (r_2 : D), ∃ (r_3 : D), ReadD Try.prog 9 [D.agg [r.cell 0, r.cell 1, r.cell 2, r.cell 3], D.v (Value.int IntKind.i64 3), D.v (Value.string { data := { toList := [100, 101] } }), D.v (Value.bool true)] [r_1, r_2, r_3] ∧ ((∃ (cs : List D), r_1 = D.agg cs ∧ cs.length = [none, none, some 2, none].length) ∧ NotAgg r_2 ∧ NotAgg r_3 ∧ True) ∧ ∃ (r : D), ∃ (r_4 : D), ∃ (r_5 : D), ReadD Try.prog 9 [D.agg [r_1.cell 0, r_1.cell 1, r_1.cell 2, r_1.cell 3], D.v (Value.int IntKind.i64 4), D.v (Value.string { data := { toList := [101, 102] } }), D.v (Value.bool false)] [r, r_4, r_5] ∧ ((∃ (cs : List D), r = D.agg cs ∧ cs.length = [none, none, some 2, none].length) ∧ NotAgg r_4 ∧ NotAgg r_5 ∧ True) ∧ ∃ (r : D), ∃ (r_6 : D), ∃ (r_7 : D), ReadD Try.prog 9 [D.agg [r_1.cell 0, r_1.cell 1, r_1.cell 2, r_1.cell 3], D.v (Value.int IntKind.i64 3), D.v (Value.string { data := { toList := [100] } }), D.v (Value.bool true)] [r, r_6, r_7] ∧ ((∃ (cs : List D), r = D.agg cs ∧ cs.length = [none, none, some 2, none].length) ∧ NotAgg r_6 ∧ NotAgg r_7 ∧ True) ∧ ∃ (r : D), ∃ (r_8 : D), ∃ (r_9 : D), ReadD Try.prog 9 [D.agg [r_1.cell 0, r_1.cell 1, r_1.cell 2, r_1.cell 3], D.v (Value.int IntKind.i64 0), D.v (Value.string { data := { toList := [97, 98, 99, 100] } }), D.v (Value.bool false)] [r, r_8, r_9] ∧ ((∃ (cs : List D), r = D.agg cs ∧ cs.length = [none, none, some 2, none].length) ∧ NotAgg r_8 ∧ NotAgg r_9 ∧ True) ∧ ∃ (r_10 : D), ∃ (r_11 : D), ∃ (r_12 : D), PureD Try.prog 11 [D.agg [r.cell 0, r.cell 1, r.cell 2, r.cell 3], D.v (Value.int IntKind.i64 4)] [r_10, r_11, r_12] ∧ fits [(true, [none, none, some 2, none]), (false, [none]), (false, [none])] [r_10, r_11, r_12] ∧ ∃ (r_13 : D), ∃ (r_14 : D), ∃ (r_15 : D), PureD Try.prog 11 [D.agg [r_10.cell 0, r_10.cell 1, r_10.cell 2, r_10.cell 3], D.v (Value.int IntKind.i64 9)] [r_13, r_14, r_15] ∧ fits [(true, [none, none, some 2, none]), (false, [none]), (false, [none])] [r_13, r_14, r_15] ∧ ∃ (r_16 : D), D.bin BinOp.eql r_2 (D.v (Value.int IntKind.i64 2)) = some r_16 ∧ ∃ (b : Bool), r_16 = D.v (Value.bool b) ∧ (b = true → ∃ (r_17 : D), D.bin BinOp.eql r_3 (D.v (Value.int IntKind.u32 0)) = some r_17 ∧ ∃ (b : Bool), r_17 = D.v (Value.bool b) ∧ (b = true → ∃ (r_18 : D), D.bin BinOp.eql r_5 (D.v (Value.int IntKind.u32 5)) = some r_18 ∧ ∃ (b : Bool), r_18 = D.v (Value.bool b) ∧ (b = true → ∃ (r_19 : D), D.bin BinOp.eql r_7 (D.v (Value.int IntKind.u32 5)) = some r_19 ∧ ∃ (b : Bool), r_19 = D.v (Value.bool b) ∧ (b = true → ∃ (r_20 : D), D.bin BinOp.eql r_8 (D.v (Value.int IntKind.i64 3)) = some r_20 ∧ ∃ (b : Bool), r_20 = D.v (Value.bool b) ∧ (b = true → ∃ (r_21 : D), D.bin BinOp.eql r_9 (D.v (Value.int IntKind.u32 0)) = some r_21 ∧ ∃ (b : Bool), r_21 = D.v (Value.bool b) ∧ (b = true → ∃ (r_22 : D), PureD Try.prog 19 [D.agg [r_1.cell 0, r_1.cell 1, r_1.cell 2, r_1.cell 3]] [r_22] ∧ fits [(false, [none])] [r_22] ∧ ∃ (r_23 : D), D.bin BinOp.eql r_22 (D.v (Value.int IntKind.i64 5)) = some r_23 ∧ ∃ (b : Bool), r_23 = D.v (Value.bool b) ∧ (b = true → ∃ (r_24 : D), PureD Try.prog 15 [D.agg [r_1.cell 0, r_1.cell 1, r_1.cell 2, r_1.cell 3]] [r_24] ∧ fits [(false, [none])] [r_24] ∧ ∃ (r_25 : D), D.un UnOp.not r_24 = some r_25 ∧ ∃ (b : Bool), r_25 = D.v (Value.bool b) ∧ (b = true → ∃ (r_26 : D), PureD Try.prog 15 [D.agg [r.cell 0, r.cell 1, r.cell 2, r.cell 3]] [r_26] ∧ fits [(false, [none])] [r_26] ∧ ∃ (b : Bool), r_26 = D.v (Value.bool b) ∧ (b = true → ∃ (r_27 : D), PureD Try.prog 17 [D.agg [r.cell 0, r.cell 1, r.cell 2, r.cell 3]] [r_27] ∧ fits [(false, [none])] [r_27] ∧ ∃ (r_28 : D), D.un UnOp.not r_27 = some r_28 ∧ ∃ (b : Bool), r_28 = D.v (Value.bool b) ∧ (b = true → ∃ (r_29 : D), D.bin BinOp.eql r_11 (D.v (Value.string { data := { toList := [97, 98, 99, 100] } })) = some r_29 ∧ ∃ (b : Bool), r_29 = D.v (Value.bool b) ∧ (b = true → ∃ (r_30 : D), D.un UnOp.not r_12 = some r_30 ∧ ∃ (b : Bool), r_30 = D.v (Value.bool b) ∧ (b = true → ∃ (r_31 : D), D.bin BinOp.eql r_14 (D.v (Value.string { data := { toList := [101] } })) = some r_31 ∧ ∃ (b : Bool), r_31 = D.v (Value.bool b) ∧ (b = true → ∃ (b : Bool), r_15 = D.v (Value.bool b) ∧ (b = true → ∃ (r_32 : D), PureD Try.prog 17 [D.agg [r_13.cell 0, r_13.cell 1, r_13.cell 2, r_13.cell 3]] [r_32] ∧ fits [(false, [none])] [r_32] ∧ ∃ (b : Bool), r_32 = D.v (Value.bool b) ∧ (b = true → ∃ (r_33 : D), PureD Try.prog 13 [D.agg [r_13.cell 0, r_13.cell 1, r_13.cell 2, r_13.cell 3]] [r_33] ∧ fits [(false, [none])] [r_33] ∧ ∃ (r_34 : D), D.bin BinOp.eql r_33 (D.v (Value.int IntKind.i64 0)) = some r_34 ∧ ∃ (b : Bool), r_34 = D.v (Value.bool b) ∧ (b = true → ∃ (r_35 : D), PureD Try.prog 13 [D.agg [D.v (Value.int IntKind.i64 0), D.v (Value.string { data := { toList := [] } }), D.v (Value.slice none 0 0), D.v (Value.int IntKind.i64 (-2))]] [r_35] ∧ fits [(false, [none])] [r_35] ∧ ∃ (r_36 : D), D.bin BinOp.eql r_35 (D.v (Value.int IntKind.i64 8)) = some r_36 ∧ ∃ (b : Bool), r_36 = D.v (Value.bool b) ∧ (b = true → ∃ (r_37 : D), PureD Try.prog 23 [D.agg [r_1.cell 0, r_1.cell 1, r_1.cell 2, r_1.cell 3], D.agg [r.cell 0, r.cell 1, r.cell 2, r.cell 3]] [r_37] ∧ fits [(false, [none])] [r_37] ∧ ∃ (r : D), D.un UnOp.not r_37 = some r ∧ ∃ (b : Bool), r = D.v (Value.bool b) ∧ (b = true → ∃ (r : D), PureD Try.prog 23 [D.agg [r_13.cell 0, r_13.cell 1, r_13.cell 2, r_13.cell 3], D.agg [r_13.cell 0, r_13.cell 1, r_13.cell 2, r_13.cell 3]] [r] ∧ fits [(false, [none])] [r] ∧ ∃ (b : Bool), r = D.v (Value.bool b) ∧ ∃ (b : Bool), r = D.v (Value.bool b) ∧ ((∃ (y : Value), r = D.v y) ∧ True) ∧ [r] = [D.v (Value.bool true)]) ∧ (b = false → (True ∧ True) ∧ [D.v (Value.bool false)] = [D.v (Value.bool true)])) ∧ (b = false → (True ∧ True) ∧ [D.v (Value.bool false)] = [D.v (Value.bool true)])) ∧ (b = false → (True ∧ True) ∧ [D.v (Value.bool false)] = [D.v (Value.bool true)])) ∧ (b = false → (True ∧ True) ∧ [D.v (Value.bool false)] = [D.v (Value.bool true)])) ∧ (b = false → (True ∧ True) ∧ [D.v (Value.bool false)] = [D.v (Value.bool true)])) ∧ (b = false → (True ∧ True) ∧ [D.v (Value.bool false)] = [D.v (Value.bool true)])) ∧ (b = false → (True ∧ True) ∧ [D.v (Value.bool false)] = [D.v (Value.bool true)])) ∧ (b = false → (True ∧ True) ∧ [D.v (Value.bool false)] = [D.v (Value.bool true)])) ∧ (b = false → (True ∧ True) ∧ [D.v (Value.bool false)] = [D.v (Value.bool true)])) ∧ (b = false → (True ∧ True) ∧ [D.v (Value.bool false)] = [D.v (Value.bool true)])) ∧ (b = false → (True ∧ True) ∧ [D.v (Value.bool false)] = [D.v (Value.bool true)])) ∧ (b = false → (True ∧ True) ∧ [D.v (Value.bool false)] = [D.v (Value.bool true)])) ∧ (b = false → (True ∧ True) ∧ [D.v (Value.bool false)] = [D.v (Value.bool true)])) ∧ (b = false → (True ∧ True) ∧ [D.v (Value.bool false)] = [D.v (Value.bool true)])) ∧ (b = false → (True ∧ True) ∧ [D.v (Value.bool false)] = [D.v (Value.bool true)])) ∧ (b = false → (True ∧ True) ∧ [D.v (Value.bool false)] = [D.v (Value.bool true)])) ∧ (b = false → (True ∧ True) ∧ [D.v (Value.bool false)] = [D.v (Value.bool true)])) ∧ (b = false → (True ∧ True) ∧ [D.v (Value.bool false)] = [D.v (Value.bool true)])) := by kernel_rfl
set_option maxHeartbeats 4000000 in
theorem awake   : PureD Try.prog 7 [] [.v (.bool true)] := by
  refine pure_cond (Lp := (fun _ => none)) (by kernel_rfl) Try.func7 (by kernel_rfl) (by kernel_rfl) ?_
  rw [vc_awake]
  have n0 : PureD Try.prog 24 [] [(D.agg [(D.v (Value.int .i64 0)), (D.v (Value.string ⟨#[]⟩)), (D.v (Value.slice none 0 0)), (D.v (Value.int .i64 (-1)))])] := rknew
  have p1 : ReadD Try.prog 9 [(D.agg [(D.v (Value.int .i64 0)), (D.v (Value.string ⟨#[]⟩)), (D.v (Value.slice none 0 0)), (D.v (Value.int .i64 (-1)))]), (D.v (Value.int .i64 3)), (D.v (Value.string ⟨#[100, 101]⟩)), (D.v (Value.bool true))] [(D.agg [(D.v (Value.int .i64 0)), (D.v (Value.string ⟨#[]⟩)), (D.sl 2 [(D.agg [(D.v (Value.int .i64 3)), (D.v (Value.string ⟨#[100, 101]⟩))])]), (D.v (Value.int .i64 5))]), (D.v (Value.int .i64 2)), (D.v (Value.int .u32 0))] := rkput_fine (.v nilS) [] 0 [] (-1) [100, 101] 3 true 0 5 2 0 [] (.sl 2 [ptD (3, [100, 101])]) _ (.inr ⟨rfl, rfl⟩) (allB_dec (by decide)) (Nat.le_of_ble_eq_true rfl) (Nat.le_of_ble_eq_true rfl) (Nat.le_of_ble_eq_true rfl) (i64d (by decide)) (by decide) (by decide) (by decide) (by decide) (.inl rfl : IsL 2 ([ptD (3, [100, 101])]) _) (put_yes (.v nilS) [] 0 [] [100, 101] 3 _ _ _ _ (.inr ⟨rfl, rfl⟩) (allB_dec (by decide)) (Nat.le_of_ble_eq_true rfl) (Nat.le_of_ble_eq_true rfl) (ok_dec (by decide)) (by decide) (by decide) (by decide) rfl rfl rfl rfl) rfl rfl
  have p2 : ReadD Try.prog 9 [(D.agg [(D.v (Value.int .i64 0)), (D.v (Value.string ⟨#[]⟩)), (D.sl 2 [(D.agg [(D.v (Value.int .i64 3)), (D.v (Value.string ⟨#[100, 101]⟩))])]), (D.v (Value.int .i64 5))]), (D.v (Value.int .i64 4)), (D.v (Value.string ⟨#[101, 102]⟩)), (D.v (Value.bool false))] [(D.agg [(D.v (Value.int .i64 0)), (D.v (Value.string ⟨#[]⟩)), (D.sl 2 [(D.agg [(D.v (Value.int .i64 3)), (D.v (Value.string ⟨#[100, 101]⟩))])]), (D.v (Value.int .i64 5))]), (D.v (Value.int .i64 0)), (D.v (Value.int .u32 5))] := rkput_shut (.sl 2 [ptD (3, [100, 101])]) [(3, [100, 101])] 0 [] (5) [101, 102] 4 false 0 5 0 5 [] (.sl 2 [ptD (3, [100, 101])]) (.inl rfl) (allB_dec (by decide)) (Nat.le_of_ble_eq_true rfl) (Nat.le_of_ble_eq_true rfl) (Nat.le_of_ble_eq_true rfl) (i64d (by decide)) (by decide) (by decide) (by decide) (by decide) rfl rfl rfl rfl rfl rfl
  have p3 : ReadD Try.prog 9 [(D.agg [(D.v (Value.int .i64 0)), (D.v (Value.string ⟨#[]⟩)), (D.sl 2 [(D.agg [(D.v (Value.int .i64 3)), (D.v (Value.string ⟨#[100, 101]⟩))])]), (D.v (Value.int .i64 5))]), (D.v (Value.int .i64 3)), (D.v (Value.string ⟨#[100]⟩)), (D.v (Value.bool true))] [(D.agg [(D.v (Value.int .i64 0)), (D.v (Value.string ⟨#[]⟩)), (D.sl 2 [(D.agg [(D.v (Value.int .i64 3)), (D.v (Value.string ⟨#[100, 101]⟩))])]), (D.v (Value.int .i64 5))]), (D.v (Value.int .i64 0)), (D.v (Value.int .u32 5))] := rkput_shut (.sl 2 [ptD (3, [100, 101])]) [(3, [100, 101])] 0 [] (5) [100] 3 true 0 5 0 5 [] (.sl 2 [ptD (3, [100, 101])]) (.inl rfl) (allB_dec (by decide)) (Nat.le_of_ble_eq_true rfl) (Nat.le_of_ble_eq_true rfl) (Nat.le_of_ble_eq_true rfl) (i64d (by decide)) (by decide) (by decide) (by decide) (by decide) rfl rfl rfl rfl rfl rfl
  have p4 : ReadD Try.prog 9 [(D.agg [(D.v (Value.int .i64 0)), (D.v (Value.string ⟨#[]⟩)), (D.sl 2 [(D.agg [(D.v (Value.int .i64 3)), (D.v (Value.string ⟨#[100, 101]⟩))])]), (D.v (Value.int .i64 5))]), (D.v (Value.int .i64 0)), (D.v (Value.string ⟨#[97, 98, 99, 100]⟩)), (D.v (Value.bool false))] [(D.agg [(D.v (Value.int .i64 5)), (D.v (Value.string ⟨#[97, 98, 99, 100, 101]⟩)), (D.sl 2 []), (D.v (Value.int .i64 5))]), (D.v (Value.int .i64 3)), (D.v (Value.int .u32 0))] := rkput_fine (.sl 2 [ptD (3, [100, 101])]) [(3, [100, 101])] 0 [] (5) [97, 98, 99, 100] 0 false 5 5 3 0 [97, 98, 99, 100, 101] (.sl 2 []) _ (.inl rfl) (allB_dec (by decide)) (Nat.le_of_ble_eq_true rfl) (Nat.le_of_ble_eq_true rfl) (Nat.le_of_ble_eq_true rfl) (i64d (by decide)) (by decide) (by decide) (by decide) (by decide) (.inl rfl : IsL 2 ([]) _) (put_yes (.sl 2 [ptD (3, [100, 101])]) [(3, [100, 101])] 0 [] [97, 98, 99, 100] 0 _ _ _ _ (.inl rfl) (allB_dec (by decide)) (Nat.le_of_ble_eq_true rfl) (Nat.le_of_ble_eq_true rfl) (ok_dec (by decide)) (by decide) (by decide) (by decide) rfl rfl rfl rfl) rfl rfl
  have r1 : PureD Try.prog 11 [(D.agg [(D.v (Value.int .i64 5)), (D.v (Value.string ⟨#[97, 98, 99, 100, 101]⟩)), (D.sl 2 []), (D.v (Value.int .i64 5))]), (D.v (Value.int .i64 4))] [(D.agg [(D.v (Value.int .i64 5)), (D.v (Value.string ⟨#[101]⟩)), (D.sl 2 []), (D.v (Value.int .i64 5))]), (D.v (Value.string ⟨#[97, 98, 99, 100]⟩)), (D.v (Value.bool false))] := rkread (.sl 2 []) [] 5 [97, 98, 99, 100, 101] (5) 4 (.inl rfl) (allB_dec (by decide)) (Nat.le_of_ble_eq_true rfl) (Nat.le_of_ble_eq_true rfl) (bytes_dec (by decide))
  have r2 : PureD Try.prog 11 [(D.agg [(D.v (Value.int .i64 5)), (D.v (Value.string ⟨#[101]⟩)), (D.sl 2 []), (D.v (Value.int .i64 5))]), (D.v (Value.int .i64 9))] [(D.agg [(D.v (Value.int .i64 5)), (D.v (Value.string ⟨#[]⟩)), (D.sl 2 []), (D.v (Value.int .i64 5))]), (D.v (Value.string ⟨#[101]⟩)), (D.v (Value.bool true))] := rkread (.sl 2 []) [] 5 [101] (5) 9 (.inl rfl) (allB_dec (by decide)) (Nat.le_of_ble_eq_true rfl) (Nat.le_of_ble_eq_true rfl) (bytes_dec (by decide))
  have h1 : PureD Try.prog 19 [(D.agg [(D.v (Value.int .i64 0)), (D.v (Value.string ⟨#[]⟩)), (D.sl 2 [(D.agg [(D.v (Value.int .i64 3)), (D.v (Value.string ⟨#[100, 101]⟩))])]), (D.v (Value.int .i64 5))])] [(D.v (Value.int .i64 5))] := high (.sl 2 [ptD (3, [100, 101])]) [(3, [100, 101])] 0 [] (5) (.inl rfl) (ok_dec (by decide)) (allB_dec (by decide))
  have w1 : PureD Try.prog 15 [(D.agg [(D.v (Value.int .i64 0)), (D.v (Value.string ⟨#[]⟩)), (D.sl 2 [(D.agg [(D.v (Value.int .i64 3)), (D.v (Value.string ⟨#[100, 101]⟩))])]), (D.v (Value.int .i64 5))])] [(D.v (Value.bool false))] := whole (.sl 2 [ptD (3, [100, 101])]) [(3, [100, 101])] 0 [] (5) (.inl rfl) (allB_dec (by decide)) (Nat.le_of_ble_eq_true rfl) (Nat.le_of_ble_eq_true rfl)
  have w2 : PureD Try.prog 15 [(D.agg [(D.v (Value.int .i64 5)), (D.v (Value.string ⟨#[97, 98, 99, 100, 101]⟩)), (D.sl 2 []), (D.v (Value.int .i64 5))])] [(D.v (Value.bool true))] := whole (.sl 2 []) [] 5 [97, 98, 99, 100, 101] (5) (.inl rfl) (allB_dec (by decide)) (Nat.le_of_ble_eq_true rfl) (Nat.le_of_ble_eq_true rfl)
  have e1 : PureD Try.prog 17 [(D.agg [(D.v (Value.int .i64 5)), (D.v (Value.string ⟨#[97, 98, 99, 100, 101]⟩)), (D.sl 2 []), (D.v (Value.int .i64 5))])] [(D.v (Value.bool false))] := ended (.sl 2 []) [] 5 [97, 98, 99, 100, 101] (5) (.inl rfl) (allB_dec (by decide)) (Nat.le_of_ble_eq_true rfl) (Nat.le_of_ble_eq_true rfl) (bytes_dec (by decide))
  have e2 : PureD Try.prog 17 [(D.agg [(D.v (Value.int .i64 5)), (D.v (Value.string ⟨#[]⟩)), (D.sl 2 []), (D.v (Value.int .i64 5))])] [(D.v (Value.bool true))] := ended (.sl 2 []) [] 5 [] (5) (.inl rfl) (allB_dec (by decide)) (Nat.le_of_ble_eq_true rfl) (Nat.le_of_ble_eq_true rfl) (bytes_dec (by decide))
  have c1 : PureD Try.prog 13 [(D.agg [(D.v (Value.int .i64 5)), (D.v (Value.string ⟨#[]⟩)), (D.sl 2 []), (D.v (Value.int .i64 5))])] [(D.v (Value.int .i64 0))] := rkcheck (.sl 2 []) [] 5 [] (5) (.inl rfl) (allB_dec (by decide)) (Nat.le_of_ble_eq_true rfl) (Nat.le_of_ble_eq_true rfl)
  have c2 : PureD Try.prog 13 [(D.agg [(D.v (Value.int .i64 0)), (D.v (Value.string ⟨#[]⟩)), (D.v (Value.slice none 0 0)), (D.v (Value.int .i64 (-2)))])] [(D.v (Value.int .i64 8))] := rkcheck (.v nilS) [] 0 [] (-2) (.inr ⟨rfl, rfl⟩) (allB_dec (by decide)) (Nat.le_of_ble_eq_true rfl) (Nat.le_of_ble_eq_true rfl)
  have s1 : PureD Try.prog 23 [(D.agg [(D.v (Value.int .i64 0)), (D.v (Value.string ⟨#[]⟩)), (D.sl 2 [(D.agg [(D.v (Value.int .i64 3)), (D.v (Value.string ⟨#[100, 101]⟩))])]), (D.v (Value.int .i64 5))]), (D.agg [(D.v (Value.int .i64 5)), (D.v (Value.string ⟨#[97, 98, 99, 100, 101]⟩)), (D.sl 2 []), (D.v (Value.int .i64 5))])] [(D.v (Value.bool false))] := rksame (.sl 2 [ptD (3, [100, 101])]) (.sl 2 []) [(3, [100, 101])] [] 0 5 5 5 [] [97, 98, 99, 100, 101] (.inl rfl) (.inl rfl) (Nat.le_of_ble_eq_true rfl) (Nat.le_of_ble_eq_true rfl) (allB_dec (by decide)) (allB_dec (by decide)) (bytes_dec (by decide)) (bytes_dec (by decide))
  have s2 : PureD Try.prog 23 [(D.agg [(D.v (Value.int .i64 5)), (D.v (Value.string ⟨#[]⟩)), (D.sl 2 []), (D.v (Value.int .i64 5))]), (D.agg [(D.v (Value.int .i64 5)), (D.v (Value.string ⟨#[]⟩)), (D.sl 2 []), (D.v (Value.int .i64 5))])] [(D.v (Value.bool true))] := rksame (.sl 2 []) (.sl 2 []) [] [] 5 5 5 5 [] [] (.inl rfl) (.inl rfl) (Nat.le_of_ble_eq_true rfl) (Nat.le_of_ble_eq_true rfl) (allB_dec (by decide)) (allB_dec (by decide)) (bytes_dec (by decide)) (bytes_dec (by decide))
  repeat' (first
    | (refine ⟨_, n0, ?_⟩)
    | (refine ⟨_, _, n0, ?_⟩)
    | (refine ⟨_, _, _, n0, ?_⟩)
    | (refine ⟨_, p1, ?_⟩)
    | (refine ⟨_, _, p1, ?_⟩)
    | (refine ⟨_, _, _, p1, ?_⟩)
    | (refine ⟨_, p2, ?_⟩)
    | (refine ⟨_, _, p2, ?_⟩)
    | (refine ⟨_, _, _, p2, ?_⟩)
    | (refine ⟨_, p3, ?_⟩)
    | (refine ⟨_, _, p3, ?_⟩)
    | (refine ⟨_, _, _, p3, ?_⟩)
    | (refine ⟨_, p4, ?_⟩)
    | (refine ⟨_, _, p4, ?_⟩)
    | (refine ⟨_, _, _, p4, ?_⟩)
    | (refine ⟨_, r1, ?_⟩)
    | (refine ⟨_, _, r1, ?_⟩)
    | (refine ⟨_, _, _, r1, ?_⟩)
    | (refine ⟨_, r2, ?_⟩)
    | (refine ⟨_, _, r2, ?_⟩)
    | (refine ⟨_, _, _, r2, ?_⟩)
    | (refine ⟨_, h1, ?_⟩)
    | (refine ⟨_, _, h1, ?_⟩)
    | (refine ⟨_, _, _, h1, ?_⟩)
    | (refine ⟨_, w1, ?_⟩)
    | (refine ⟨_, _, w1, ?_⟩)
    | (refine ⟨_, _, _, w1, ?_⟩)
    | (refine ⟨_, w2, ?_⟩)
    | (refine ⟨_, _, w2, ?_⟩)
    | (refine ⟨_, _, _, w2, ?_⟩)
    | (refine ⟨_, e1, ?_⟩)
    | (refine ⟨_, _, e1, ?_⟩)
    | (refine ⟨_, _, _, e1, ?_⟩)
    | (refine ⟨_, e2, ?_⟩)
    | (refine ⟨_, _, e2, ?_⟩)
    | (refine ⟨_, _, _, e2, ?_⟩)
    | (refine ⟨_, c1, ?_⟩)
    | (refine ⟨_, _, c1, ?_⟩)
    | (refine ⟨_, _, _, c1, ?_⟩)
    | (refine ⟨_, c2, ?_⟩)
    | (refine ⟨_, _, c2, ?_⟩)
    | (refine ⟨_, _, _, c2, ?_⟩)
    | (refine ⟨_, s1, ?_⟩)
    | (refine ⟨_, _, s1, ?_⟩)
    | (refine ⟨_, _, _, s1, ?_⟩)
    | (refine ⟨_, s2, ?_⟩)
    | (refine ⟨_, _, s2, ?_⟩)
    | (refine ⟨_, _, _, s2, ?_⟩)
    | (refine ⟨_, rfl, ?_⟩)
    | (refine ⟨fun _ => ?_, fun hz => absurd hz (by decide)⟩)
    | (refine ⟨fun hz => absurd hz (by decide), fun _ => ?_⟩)
    | (refine ⟨fun _ => ?_, fun hz => absurd hz (by simp)⟩)
    | (refine ⟨fun hz => absurd hz (by simp), fun _ => ?_⟩)
    | (refine And.intro ?_ ?_)
    | exact True.intro
    | rfl
    | exact ⟨_, rfl⟩
    | exact ⟨_, rfl, rfl⟩
    | exact .inl rfl
    | exact .inr ⟨_, rfl⟩
    | exact notAgg_v _
    | exact notAgg_sl _ _
    | (refine ⟨_, _, _, rfl, rfl, ?_, ?_⟩)
    | (decide)
    | (simp; done)
    | fail)

end Go.Proofs.Ytjdemohgegldaaa