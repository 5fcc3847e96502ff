/-
  Layer 24: the law RasmTakes.
-/
import Derived.Test.YtjdemohgegldaaaT1
import Derived.Test.YtjdemohgegldaaaT2
import Derived.Test.YtjdemohgegldaaaT3
import Derived.Test.YtjdemohgegldaaaT4
import Derived.Test.YtjdemohgegldaaaT6
import Derived.Test.YtjdemohgegldaaaT7
import Derived.Test.YtjdemohgegldaaaT8
import Derived.Test.YtjdemohgegldaaaT10
import Derived.Test.YtjdemohgegldaaaT11
import Derived.Test.YtjdemohgegldaaaT13
import Derived.Test.YtjdemohgegldaaaT15
import Derived.Test.YtjdemohgegldaaaT16
import Derived.Test.YtjdemohgegldaaaT17
import Derived.Test.YtjdemohgegldaaaT18
import Derived.Test.YtjdemohgegldaaaT19
import Derived.Test.YtjdemohgegldaaaT20
import Derived.Test.YtjdemohgegldaaaT21
import Derived.Test.YtjdemohgegldaaaT22
namespace Go.Proofs.Ytjdemohgegldaaa
open Go.RowKit
set_option linter.unusedSimpArgs false
set_option linter.unusedVariables false

set_option maxRecDepth 20000
theorem typed_st {d : D} (h : TypedA (true, [.int .i64, .str, .sl true [.int .i64, .str], .int .i64]) d) : ∃ b r x ps e, d = .agg [.v (.int .i64 b), str r, x, .v (.int .i64 e)] ∧ IsL 2 (ps.map ptD) x ∧ I64 e ∧ Bytes r ∧ BytesL ps := by
  obtain ⟨ds, rfl, k⟩ := h.agg
  clear h
  obtain ⟨b, ds, rfl, hb, h⟩ := k.cons_
  obtain ⟨r, ds, rfl, hr, h⟩ := h.cons_
  obtain ⟨x, ds, rfl, hx, h⟩ := h.cons_
  obtain ⟨e, ds, rfl, he, h⟩ := h.cons_
  obtain rfl := h.nil_
  obtain ⟨e, rfl, we⟩ := he.int_
  obtain ⟨b, rfl, wb⟩ := hb.int_
  obtain ⟨r, rfl, _⟩ := hr.str_
  obtain ⟨es, h1, _, h3⟩ := hx.row
  obtain ⟨ps, rfl, hps⟩ := map_of (f := ptD) (p := fun p => Bytes p.2 ∧ True) (es := es) (fun el hel => by
    obtain ⟨hag, hc⟩ := h3 el hel
    cases el with
    | agg l =>
      obtain ⟨a, l, rfl, ha, hc⟩ := hc.cons_
      obtain ⟨s, l, rfl, hs, hc⟩ := hc.cons_
      obtain rfl := hc.nil_
      obtain ⟨a, rfl, wa⟩ := ha.int_
      obtain ⟨s, rfl, _⟩ := hs.str_
      exact ⟨(a, bytesOf s), by simp only [ptD]; rw [str_of], bytesOf_bd s, trivial⟩
    | v x => cases hag
    | sl sz l => cases hag
    | fn _ _ => cases hag
    | pt _ => cases hag)
  exact ⟨b, bytesOf r, x, ps, e, by rw [str_of], h1, wf_i64 we, bytesOf_bd r, fun p hp => (hps p hp).1⟩
theorem mem_le_sum {a : Nat} : ∀ {l : List Nat}, a ∈ l → a ≤ l.sum
  | b :: l, h => by
    rw [List.sum_cons]
    rcases List.mem_cons.1 h with rfl | h
    · omega
    · have := mem_le_sum h; omega
theorem light_all {r : List Int} {ps : List Pt} (h : lightF r ps = true) (hb : BytesL ps) : r.length ≤ 5000 ∧ ps.length ≤ 20 ∧ AllB ps := by
  simp only [lightF, Bool.and_eq_true, decide_eq_true_eq] at h
  obtain ⟨⟨h1, h2⟩, h3⟩ := h
  refine ⟨h1, h2, fun p hp => ⟨hb p hp, ?_⟩⟩
  obtain ⟨k, hk, rfl⟩ := List.mem_iff_getElem.1 hp
  rw [Nat.min_eq_right (by omega)] at h3
  have : cutP ps[k] ≤ sumL cutP ps ps.length := by
    have h4 : sumL cutP ps ps.length = (ps.map cutP).sum := by simp [sumL]
    rw [h4]
    exact mem_le_sum (List.mem_map.2 ⟨_, hp, rfl⟩)
  simp only [cutP] at this
  omega

theorem sameS_self (b : Int) (r : List Int) (ps : List Pt) : sameS b b r r ps ps = true := by simp [sameS, ptB]
theorem typed_i3 {d : D} (h : TypedA (true, [.int .i64, .int .i64, .int .i64]) d) : ∃ a b c, d = .agg [.v (.int .i64 a), .v (.int .i64 b), .v (.int .i64 c)] ∧ I64 a ∧ I64 b ∧ I64 c := by
  obtain ⟨ds, rfl, k⟩ := h.agg
  clear h
  obtain ⟨a, ds, rfl, ha, h⟩ := k.cons_
  obtain ⟨b, ds, rfl, hb, h⟩ := h.cons_
  obtain ⟨c, ds, rfl, hc, h⟩ := h.cons_
  obtain rfl := h.nil_
  obtain ⟨a, rfl, wa⟩ := ha.int_
  obtain ⟨b, rfl, wb⟩ := hb.int_
  obtain ⟨c, rfl, wc⟩ := hc.int_
  exact ⟨a, b, c, rfl, wf_i64 wa, wf_i64 wb, wf_i64 wc⟩
theorem code_bd (R : RS) (v : Int) (s : List Int) (fin : Bool) : 0 ≤ R.code v s fin ∧ R.code v s fin ≤ 5 := by unfold RS.code; (repeat' split) <;> omega

theorem vc_takes (x : D) (ps : List Pt) (b e : Int) (r s : List Int) (n m q : Int) : Cond Try.prog (fun _ => none) Try.f3 [.agg [.v (.int .i64 b), str r, x, .v (.int .i64 e)], str s, .agg [.v (.int .i64 n), .v (.int .i64 m), .v (.int .i64 q)]] [.v (.bool true)] = (((∃ (cs : List D), D.agg [D.v (Value.int IntKind.i64 b), str r, x, D.v (Value.int IntKind.i64 e)] = D.agg cs ∧ cs.length = 4) ∧ NotAgg (str s) ∧ (∃ (cs : List D), D.agg [D.v (Value.int IntKind.i64 n), D.v (Value.int IntKind.i64 m), D.v (Value.int IntKind.i64 q)] = D.agg cs ∧ cs.length = 3) ∧ True) ∧ ∃ (r_1 : D), PureD Try.prog 6 [D.agg [D.v (Value.int IntKind.i64 b), str r, x]] [r_1] ∧ fits [(false, [none])] [r_1] ∧ ∃ (r_2 : D), D.un UnOp.not r_1 = some r_2 ∧ ∃ (b_1 : Bool), r_2 = D.v (Value.bool b_1) ∧ (b_1 = false → ∃ (r_3 : D), D.lenT TypeDesc.string (str s) = some r_3 ∧ ∃ (r_4 : D), D.bin BinOp.gtr r_3 (D.v (Value.int IntKind.i64 100)) = some r_4 ∧ ∃ (b_2 : Bool), r_4 = D.v (Value.bool b_2) ∧ (b_2 = true → ∃ (r : D), PureD Try.prog 7 [] [r] ∧ fits [(false, [none])] [r] ∧ ((∃ (y : Value), r = D.v y) ∧ True) ∧ [r] = [D.v (Value.bool true)]) ∧ (b_2 = false → ∃ (r_5 : D), PureD Try.prog 8 [D.agg [D.v (Value.int IntKind.i64 b), str r, x]] [r_5] ∧ fits [(true, [none, none, some 2])] [r_5] ∧ ∃ (r_6 : D), D.bin BinOp.and (D.v (Value.int IntKind.i64 q)) (D.v (Value.int IntKind.i64 1)) = some r_6 ∧ ∃ (r_7 : D), D.bin BinOp.eql r_6 (D.v (Value.int IntKind.i64 1)) = some r_7 ∧ ∃ (r_8 : D), ∃ (r_9 : D), ∃ (r_10 : D), ReadD Try.prog 9 [D.agg [r_5.cell 0, r_5.cell 1, r_5.cell 2, D.v (Value.int IntKind.i64 e)], D.v (Value.int IntKind.i64 n), str s, r_7] [r_8, r_9, r_10] ∧ ((∃ (cs : List D), r_8 = D.agg cs ∧ cs.length = [none, none, some 2, none].length) ∧ NotAgg r_9 ∧ NotAgg r_10 ∧ True) ∧ ∃ (r_11 : D), ∃ (r_12 : D), ∃ (r_13 : D), ReadD Try.prog 10 [D.agg [D.v (Value.int IntKind.i64 b), str r, x, D.v (Value.int IntKind.i64 e)], D.v (Value.int IntKind.i64 n), str s, r_7] [r_11, r_12, r_13] ∧ ((∃ (cs : List D), r_11 = D.agg cs ∧ cs.length = [none, none, some 2, none].length) ∧ NotAgg r_12 ∧ NotAgg r_13 ∧ True) ∧ ∃ (r_14 : D), ∃ (r_15 : D), ∃ (r_16 : D), PureD Try.prog 11 [D.agg [r_5.cell 0, r_5.cell 1, r_5.cell 2, D.v (Value.int IntKind.i64 e)], D.v (Value.int IntKind.i64 m)] [r_14, r_15, r_16] ∧ fits [(true, [none, none, some 2, none]), (false, [none]), (false, [none])] [r_14, r_15, r_16] ∧ ∃ (r_17 : D), ∃ (r_18 : D), ∃ (r_19 : D), ReadD Try.prog 12 [D.agg [D.v (Value.int IntKind.i64 b), str r, x, D.v (Value.int IntKind.i64 e)], D.v (Value.int IntKind.i64 m)] [r_17, r_18, r_19] ∧ ((∃ (cs : List D), r_17 = D.agg cs ∧ cs.length = [none, none, some 2, none].length) ∧ NotAgg r_18 ∧ NotAgg r_19 ∧ True) ∧ ∃ (r_20 : D), PureD Try.prog 13 [D.agg [r_5.cell 0, r_5.cell 1, r_5.cell 2, D.v (Value.int IntKind.i64 e)]] [r_20] ∧ fits [(false, [none])] [r_20] ∧ ∃ (r_21 : D), PureD Try.prog 14 [D.agg [D.v (Value.int IntKind.i64 b), str r, x, D.v (Value.int IntKind.i64 e)]] [r_21] ∧ fits [(false, [none])] [r_21] ∧ ∃ (r_22 : D), D.bin BinOp.neq r_20 r_21 = some r_22 ∧ ∃ (b_3 : Bool), r_22 = D.v (Value.bool b_3) ∧ (b_3 = false → ∃ (r_23 : D), PureD Try.prog 15 [D.agg [r_5.cell 0, r_5.cell 1, r_5.cell 2, D.v (Value.int IntKind.i64 e)]] [r_23] ∧ fits [(false, [none])] [r_23] ∧ ∃ (r_24 : D), PureD Try.prog 16 [D.agg [D.v (Value.int IntKind.i64 b), str r, x, D.v (Value.int IntKind.i64 e)]] [r_24] ∧ fits [(false, [none])] [r_24] ∧ ∃ (r_25 : D), r_23.bne r_24 = some r_25 ∧ ∃ (b_4 : Bool), r_25 = D.v (Value.bool b_4) ∧ (b_4 = false → ∃ (r_26 : D), PureD Try.prog 17 [D.agg [r_5.cell 0, r_5.cell 1, r_5.cell 2, D.v (Value.int IntKind.i64 e)]] [r_26] ∧ fits [(false, [none])] [r_26] ∧ ∃ (r_27 : D), PureD Try.prog 18 [D.agg [D.v (Value.int IntKind.i64 b), str r, x, D.v (Value.int IntKind.i64 e)]] [r_27] ∧ fits [(false, [none])] [r_27] ∧ ∃ (r_28 : D), r_26.bne r_27 = some r_28 ∧ ∃ (b_5 : Bool), r_28 = D.v (Value.bool b_5) ∧ (b_5 = false → ∃ (r_29 : D), PureD Try.prog 14 [D.agg [D.v (Value.int IntKind.i64 b), str r, x, D.v (Value.int IntKind.i64 e)]] [r_29] ∧ fits [(false, [none])] [r_29] ∧ ∃ (r_30 : D), D.bin BinOp.eql r_29 (D.v (Value.int IntKind.i64 0)) = some r_30 ∧ ∃ (b_6 : Bool), r_30 = D.v (Value.bool b_6) ∧ (b_6 = true → ∃ (r_31 : D), PureD Try.prog 19 [D.agg [r_5.cell 0, r_5.cell 1, r_5.cell 2, D.v (Value.int IntKind.i64 e)]] [r_31] ∧ fits [(false, [none])] [r_31] ∧ ∃ (r_32 : D), PureD Try.prog 20 [D.agg [D.v (Value.int IntKind.i64 b), str r, x, D.v (Value.int IntKind.i64 e)]] [r_32] ∧ fits [(false, [none])] [r_32] ∧ ∃ (r_33 : D), D.bin BinOp.neq r_31 r_32 = some r_33 ∧ ∃ (b_7 : Bool), r_33 = D.v (Value.bool b_7) ∧ (b_7 = true → (True ∧ True) ∧ [D.v (Value.bool false)] = [D.v (Value.bool true)]) ∧ (b_7 = false → ∃ (r_34 : D), PureD Try.prog 22 [D.agg [r_8.cell 0, r_8.cell 1, r_8.cell 2, r_8.cell 3]] [r_34] ∧ fits [(true, [none, none, some 2, none])] [r_34] ∧ ∃ (r_35 : D), PureD Try.prog 21 [D.agg [r_34.cell 0, r_34.cell 1, r_34.cell 2, r_34.cell 3], D.agg [r_11.cell 0, r_11.cell 1, r_11.cell 2, r_11.cell 3]] [r_35] ∧ fits [(false, [none])] [r_35] ∧ ∃ (b_8 : Bool), r_35 = D.v (Value.bool b_8) ∧ (b_8 = true → ∃ (r_36 : D), D.bin BinOp.eql r_9 r_12 = some r_36 ∧ ∃ (b_9 : Bool), r_36 = D.v (Value.bool b_9) ∧ (b_9 = true → ∃ (r_37 : D), D.conv IntKind.i64 r_10 = some r_37 ∧ ∃ (r_38 : D), D.bin BinOp.eql r_37 r_13 = some r_38 ∧ ∃ (b_10 : Bool), r_38 = D.v (Value.bool b_10) ∧ (b_10 = true → ∃ (r_39 : D), PureD Try.prog 22 [D.agg [r_14.cell 0, r_14.cell 1, r_14.cell 2, r_14.cell 3]] [r_39] ∧ fits [(true, [none, none, some 2, none])] [r_39] ∧ ∃ (r_40 : D), PureD Try.prog 21 [D.agg [r_39.cell 0, r_39.cell 1, r_39.cell 2, r_39.cell 3], D.agg [r_17.cell 0, r_17.cell 1, r_17.cell 2, r_17.cell 3]] [r_40] ∧ fits [(false, [none])] [r_40] ∧ ∃ (b_11 : Bool), r_40 = D.v (Value.bool b_11) ∧ (b_11 = true → ∃ (r_41 : D), D.bin BinOp.eql r_15 r_18 = some r_41 ∧ ∃ (b_12 : Bool), r_41 = D.v (Value.bool b_12) ∧ (b_12 = true → ∃ (r_42 : D), r_16.beq r_19 = some r_42 ∧ ∃ (b_13 : Bool), r_42 = D.v (Value.bool b_13) ∧ (b_13 = true → ∃ (r_43 : D), PureD Try.prog 23 [D.agg [r_5.cell 0, r_5.cell 1, r_5.cell 2, D.v (Value.int IntKind.i64 e)], D.agg [r_8.cell 0, r_8.cell 1, r_8.cell 2, r_8.cell 3]] [r_43] ∧ fits [(false, [none])] [r_43] ∧ ∃ (r_44 : D), PureD Try.prog 21 [D.agg [D.v (Value.int IntKind.i64 b), str r, x, D.v (Value.int IntKind.i64 e)], D.agg [r_11.cell 0, r_11.cell 1, r_11.cell 2, r_11.cell 3]] [r_44] ∧ fits [(false, [none])] [r_44] ∧ ∃ (r_45 : D), r_43.beq r_44 = some r_45 ∧ ∃ (b_14 : Bool), r_45 = D.v (Value.bool b_14) ∧ (b_14 = true → ∃ (r_46 : D), PureD Try.prog 24 [] [r_46] ∧ fits [(true, [none, none, some 2, none])] [r_46] ∧ ∃ (r_47 : D), PureD Try.prog 22 [D.agg [r_46.cell 0, r_46.cell 1, r_46.cell 2, r_46.cell 3]] [r_47] ∧ fits [(true, [none, none, some 2, none])] [r_47] ∧ ∃ (r_48 : D), PureD Try.prog 25 [] [r_48] ∧ fits [(true, [none, none, some 2, none])] [r_48] ∧ ∃ (r_49 : D), PureD Try.prog 21 [D.agg [r_47.cell 0, r_47.cell 1, r_47.cell 2, r_47.cell 3], D.agg [r_48.cell 0, r_48.cell 1, r_48.cell 2, r_48.cell 3]] [r_49] ∧ fits [(false, [none])] [r_49] ∧ ∃ (b_15 : Bool), r_49 = D.v (Value.bool b_15) ∧ (b_15 = true → ∃ (r_50 : D), PureD Try.prog 22 [D.agg [r_5.cell 0, r_5.cell 1, r_5.cell 2, D.v (Value.int IntKind.i64 e)]] [r_50] ∧ fits [(true, [none, none, some 2, none])] [r_50] ∧ ∃ (r_51 : D), PureD Try.prog 21 [D.agg [r_50.cell 0, r_50.cell 1, r_50.cell 2, r_50.cell 3], D.agg [D.v (Value.int IntKind.i64 b), str r, x, D.v (Value.int IntKind.i64 e)]] [r_51] ∧ fits [(false, [none])] [r_51] ∧ ∃ (b : Bool), r_51 = D.v (Value.bool b) ∧ (b = true → ∃ (r : D), PureD Try.prog 7 [] [r] ∧ fits [(false, [none])] [r] ∧ ((∃ (y : Value), r = D.v y) ∧ True) ∧ [r] = [D.v (Value.bool true)]) ∧ (b = false → (True ∧ True) ∧ [D.v (Value.bool false)] = [D.v (Value.bool true)])) ∧ (b_15 = false → (True ∧ True) ∧ [D.v (Value.bool false)] = [D.v (Value.bool true)])) ∧ (b_14 = false → (True ∧ True) ∧ [D.v (Value.bool false)] = [D.v (Value.bool true)])) ∧ (b_13 = false → (True ∧ True) ∧ [D.v (Value.bool false)] = [D.v (Value.bool true)])) ∧ (b_12 = false → (True ∧ True) ∧ [D.v (Value.bool false)] = [D.v (Value.bool true)])) ∧ (b_11 = false → (True ∧ True) ∧ [D.v (Value.bool false)] = [D.v (Value.bool true)])) ∧ (b_10 = false → (True ∧ True) ∧ [D.v (Value.bool false)] = [D.v (Value.bool true)])) ∧ (b_9 = false → (True ∧ True) ∧ [D.v (Value.bool false)] = [D.v (Value.bool true)])) ∧ (b_8 = false → (True ∧ True) ∧ [D.v (Value.bool false)] = [D.v (Value.bool true)]))) ∧ (b_6 = false → ∃ (r_31 : D), PureD Try.prog 22 [D.agg [r_8.cell 0, r_8.cell 1, r_8.cell 2, r_8.cell 3]] [r_31] ∧ fits [(true, [none, none, some 2, none])] [r_31] ∧ ∃ (r_32 : D), PureD Try.prog 21 [D.agg [r_31.cell 0, r_31.cell 1, r_31.cell 2, r_31.cell 3], D.agg [r_11.cell 0, r_11.cell 1, r_11.cell 2, r_11.cell 3]] [r_32] ∧ fits [(false, [none])] [r_32] ∧ ∃ (b_7 : Bool), r_32 = D.v (Value.bool b_7) ∧ (b_7 = true → ∃ (r_33 : D), D.bin BinOp.eql r_9 r_12 = some r_33 ∧ ∃ (b_8 : Bool), r_33 = D.v (Value.bool b_8) ∧ (b_8 = true → ∃ (r_34 : D), D.conv IntKind.i64 r_10 = some r_34 ∧ ∃ (r_35 : D), D.bin BinOp.eql r_34 r_13 = some r_35 ∧ ∃ (b_9 : Bool), r_35 = D.v (Value.bool b_9) ∧ (b_9 = true → ∃ (r_36 : D), PureD Try.prog 22 [D.agg [r_14.cell 0, r_14.cell 1, r_14.cell 2, r_14.cell 3]] [r_36] ∧ fits [(true, [none, none, some 2, none])] [r_36] ∧ ∃ (r_37 : D), PureD Try.prog 21 [D.agg [r_36.cell 0, r_36.cell 1, r_36.cell 2, r_36.cell 3], D.agg [r_17.cell 0, r_17.cell 1, r_17.cell 2, r_17.cell 3]] [r_37] ∧ fits [(false, [none])] [r_37] ∧ ∃ (b_10 : Bool), r_37 = D.v (Value.bool b_10) ∧ (b_10 = true → ∃ (r_38 : D), D.bin BinOp.eql r_15 r_18 = some r_38 ∧ ∃ (b_11 : Bool), r_38 = D.v (Value.bool b_11) ∧ (b_11 = true → ∃ (r_39 : D), r_16.beq r_19 = some r_39 ∧ ∃ (b_12 : Bool), r_39 = D.v (Value.bool b_12) ∧ (b_12 = true → ∃ (r_40 : D), PureD Try.prog 23 [D.agg [r_5.cell 0, r_5.cell 1, r_5.cell 2, D.v (Value.int IntKind.i64 e)], D.agg [r_8.cell 0, r_8.cell 1, r_8.cell 2, r_8.cell 3]] [r_40] ∧ fits [(false, [none])] [r_40] ∧ ∃ (r_41 : D), PureD Try.prog 21 [D.agg [D.v (Value.int IntKind.i64 b), str r, x, D.v (Value.int IntKind.i64 e)], D.agg [r_11.cell 0, r_11.cell 1, r_11.cell 2, r_11.cell 3]] [r_41] ∧ fits [(false, [none])] [r_41] ∧ ∃ (r_42 : D), r_40.beq r_41 = some r_42 ∧ ∃ (b_13 : Bool), r_42 = D.v (Value.bool b_13) ∧ (b_13 = true → ∃ (r_43 : D), PureD Try.prog 24 [] [r_43] ∧ fits [(true, [none, none, some 2, none])] [r_43] ∧ ∃ (r_44 : D), PureD Try.prog 22 [D.agg [r_43.cell 0, r_43.cell 1, r_43.cell 2, r_43.cell 3]] [r_44] ∧ fits [(true, [none, none, some 2, none])] [r_44] ∧ ∃ (r_45 : D), PureD Try.prog 25 [] [r_45] ∧ fits [(true, [none, none, some 2, none])] [r_45] ∧ ∃ (r_46 : D), PureD Try.prog 21 [D.agg [r_44.cell 0, r_44.cell 1, r_44.cell 2, r_44.cell 3], D.agg [r_45.cell 0, r_45.cell 1, r_45.cell 2, r_45.cell 3]] [r_46] ∧ fits [(false, [none])] [r_46] ∧ ∃ (b_14 : Bool), r_46 = D.v (Value.bool b_14) ∧ (b_14 = true → ∃ (r_47 : D), PureD Try.prog 22 [D.agg [r_5.cell 0, r_5.cell 1, r_5.cell 2, D.v (Value.int IntKind.i64 e)]] [r_47] ∧ fits [(true, [none, none, some 2, none])] [r_47] ∧ ∃ (r_48 : D), PureD Try.prog 21 [D.agg [r_47.cell 0, r_47.cell 1, r_47.cell 2, r_47.cell 3], D.agg [D.v (Value.int IntKind.i64 b), str r, x, D.v (Value.int IntKind.i64 e)]] [r_48] ∧ fits [(false, [none])] [r_48] ∧ ∃ (b : Bool), r_48 = D.v (Value.bool b) ∧ (b = true → ∃ (r : D), PureD Try.prog 7 [] [r] ∧ fits [(false, [none])] [r] ∧ ((∃ (y : Value), r = D.v y) ∧ True) ∧ [r] = [D.v (Value.bool true)]) ∧ (b = false → (True ∧ True) ∧ [D.v (Value.bool false)] = [D.v (Value.bool true)])) ∧ (b_14 = false → (True ∧ True) ∧ [D.v (Value.bool false)] = [D.v (Value.bool true)])) ∧ (b_13 = false → (True ∧ True) ∧ [D.v (Value.bool false)] = [D.v (Value.bool true)])) ∧ (b_12 = false → (True ∧ True) ∧ [D.v (Value.bool false)] = [D.v (Value.bool true)])) ∧ (b_11 = false → (True ∧ True) ∧ [D.v (Value.bool false)] = [D.v (Value.bool true)])) ∧ (b_10 = false → (True ∧ True) ∧ [D.v (Value.bool false)] = [D.v (Value.bool true)])) ∧ (b_9 = false → (True ∧ True) ∧ [D.v (Value.bool false)] = [D.v (Value.bool true)])) ∧ (b_8 = false → (True ∧ True) ∧ [D.v (Value.bool false)] = [D.v (Value.bool true)])) ∧ (b_7 = false → (True ∧ True) ∧ [D.v (Value.bool false)] = [D.v (Value.bool true)]))) ∧ (b_5 = true → (True ∧ True) ∧ [D.v (Value.bool false)] = [D.v (Value.bool true)])) ∧ (b_4 = true → (True ∧ True) ∧ [D.v (Value.bool false)] = [D.v (Value.bool true)])) ∧ (b_3 = true → (True ∧ True) ∧ [D.v (Value.bool false)] = [D.v (Value.bool true)]))) ∧ (b_1 = true → ∃ (r : D), PureD Try.prog 7 [] [r] ∧ fits [(false, [none])] [r] ∧ ((∃ (y : Value), r = D.v y) ∧ True) ∧ [r] = [D.v (Value.bool true)])) := by kernel_rfl
set_option maxHeartbeats 32000000 in
theorem takes (x : D) (ps : List Pt) (b e : Int) (r s : List Int) (n m q : Int) (hX : IsL 2 (ps.map ptD) x) (hr : Bytes r) (hs : Bytes s) (hP : BytesL ps) (hn : I64 n) : PureD Try.prog 3 [.agg [.v (.int .i64 b), str r, x, .v (.int .i64 e)], str s, .agg [.v (.int .i64 n), .v (.int .i64 m), .v (.int .i64 q)]] [.v (.bool true)] := by
  refine pure_cond (Lp := (fun _ => none)) (by kernel_rfl) Try.func3 (by kernel_rfl) (by kernel_rfl) ?_
  rw [vc_takes x ps b e r s n m q]
  have awake := awake
  cases hl1 : lightF r ps
  · have LT1 := light x ps b r hX
    rw [hl1] at LT1
    repeat' (first
      | (refine ex_some (by simp (disch := omega) only [bin_shr, bin_shl, bin_and, bin_or, bin_xor, len_str, toStr_ofL, bin_add, bin_sub, bin_mul, bin_quo, bin_rem, bin_lss, bin_leq, bin_gtr, bin_geq, bin_eql, bin_neq, eqs_cn, eqs_ci, eqs_cb, eqs_cs, Option.map_some, lenT_ofL, lst_ofL, lstSz_ofL, chunk_one, lst_nil, lst_sl, lstSz_sl, lstSz_nil, Bool.and_true, Bool.true_and, Bool.and_false, Bool.false_and, beq_self_eq_true, beq_bb, bne_bb, un_not, un_neg, conv_int, min2_int, max2_int, w64, w32, wu8, wu16, wu32, wu64, tdiv_nn, tmod_nn, cell_zero, cell_succ, cell_v, cells_v, cells_agg, Bool.not_true, Bool.not_false, Int.reduceLT, Int.reduceLE, Int.reduceEq, Int.reduceNeg, Int.reduceAdd, Int.reduceSub, Int.reduceMul, intOf_v, decide_true, decide_false]; rfl) ?_)
      | (refine ex_bool ?_)
      | (refine ⟨_, awake, ?_⟩)
      | (refine ⟨_, LT1, ?_⟩)
      | (refine And.intro ?_ ?_)
      | (intro hx; have hprop := (show ∀ (p : Prop), p → True from fun _ _ => True.intro) _ hx; clear hprop; first | (cases hx; done) | (exfalso; revert hx; simp (disch := omega) only [decide_eq_true_eq, decide_eq_false_iff_not, Bool.not_eq_true', Bool.not_eq_false', Bool.and_eq_true, Bool.and_eq_false_iff, Int.not_lt, Int.not_le, ne_eq, not_false_eq_true, not_true_eq_false, reduceCtorEq, Bool.true_eq_false, Bool.false_eq_true, beq_iff_eq, bne_iff_ne, beq_eq_false_iff_ne, false_or, or_false, true_and, and_true]; done) | (simp (disch := omega) only [decide_eq_true_eq, decide_eq_false_iff_not, Bool.not_eq_true', Bool.not_eq_false', Bool.and_eq_true, Bool.and_eq_false_iff, Int.not_lt, Int.not_le, ne_eq, not_false_eq_true, not_true_eq_false, reduceCtorEq, Bool.true_eq_false, Bool.false_eq_true, beq_iff_eq, bne_iff_ne, beq_eq_false_iff_ne, false_or, or_false, true_and, and_true] at hx; first | (exfalso; omega) | skip) | skip)
      | trivial
      | exact fit_ofL _ _
      | (simp (disch := omega) only [notAgg_v, notAgg_sl, plain_v, fits, fitsOne, fitsCells, xsOf, cell_zero, cell_succ, List.range, List.range.loop, List.map, cond_true, cond_false, D.v.injEq, exists_eq', exists_eq, and_self, and_true, true_and, D.agg.injEq, List.length, exists_eq_left', D.sl.injEq, reduceCtorEq, false_or, true_or, or_true, or_false, cell_zero, cell_succ, cell_v, cells_v, cells_agg, List.length_cons, List.length_nil]; done))
    all_goals first
      | (exfalso; omega)
      | omega
      | exact fitP hX
      | exact plainP hX
      | exact fit_ofL _ _
      | exact plain_ofL (pts_plain _)
      | exact hX.notAgg
      | exact .inl rfl
      | exact notAgg_v _
      | exact ⟨_, rfl⟩
      | exact ⟨_, rfl, rfl⟩
      | rfl
      | assumption
      | (simp; done)
      | fail
  · have LT1 := light x ps b r hX
    rw [hl1] at LT1
    by_cases hsl : s.length ≤ 100
    · obtain ⟨a1, a2, hPA⟩ := light_all hl1 hP
      have OX := isL_ofL 2 (ps.map ptD)
      have OW1 := ownS x ps b r hX (by omega)
      obtain ⟨fin, hfin⟩ : ∃ fin : Bool, fin = decide (bitsI .and .i64 q 1 = 1) := ⟨_, rfl⟩
      obtain ⟨R, hR⟩ : ∃ R : RS, R = ⟨⟨b, r, ps⟩, e⟩ := ⟨_, rfl⟩
      have g1 : R.S.ps = ps := by rw [hR]
      have g2 : R.S.b = b := by rw [hR]
      have g3 : R.S.r = r := by rw [hR]
      have g4 : R.e = e := by rw [hR]
      obtain ⟨y1, hY1, P1⟩ := rk_put_c (R := R) (x := ofL 2 (ps.map ptD)) (v := n) (s := s) (fin := fin) (by rw [g1]; exact OX) (by rw [g1]; exact hPA) (by rw [g1]; omega) (by rw [g3]; omega) (by omega) hn
      obtain ⟨y2, hY2, P2⟩ := rr_put_c (R := R) (x := x) (v := n) (s := s) (fin := fin) (by rw [g1]; exact hX) (by rw [g1]; exact hPA) (by rw [g1]; omega) (by rw [g3]; omega) (by rw [g3]; exact hr) (by omega) hs hn
      obtain ⟨k1, k2, k3, k4⟩ := put_keepR (R := R) (v := n) (s := s) (fin := fin) (by rw [g1]; exact hPA) (by rw [g1]; omega) (by rw [g3]; omega) (by rw [g3]; exact hr) hs
      rw [g2, g3, g4] at P1 P2
      have hT : -9000200000 ≤ R.num n s fin ∧ R.num n s fin ≤ 9000200000 := by
        have h1 := heldF_le k1 k2 k4
        have h2 := heldF_le (r := R.S.r) (ps := R.S.ps) (by rw [g1]; exact hPA) (by rw [g1]; omega) (by rw [g3]; omega)
        simp only [RS.num, SS.tot]; omega
      have hcd := code_bd R n s fin
      generalize R.num n s fin = tt at P1 P2 hT
      generalize R.code n s fin = cd at P1 P2 hcd
      generalize R.put n s fin = T at *
      obtain ⟨⟨tb, tr, tp⟩, te⟩ := T
      simp only at P1 P2 hY1 hY2 k1 k2 k3 k4
      subst hfin
      clear hR g1 g2 g3 g4 R
      have RD1 := rkread _ ps b r e m OX hPA (by omega) (by omega) hr
      have RD2 := rrread x ps b r e m hX hPA (by omega) (by omega) hr
      have hbt := hr.take (readN b r ps m)
      have hbd := hr.drop (readN b r ps m)
      have hdl : (r.drop (readN b r ps m)).length ≤ 100000 := by rw [List.length_drop]; omega
      generalize (wholeF b (r.drop (readN b r ps m)).length ps e && decide ((r.drop (readN b r ps m)).length = 0)) = en at RD1 RD2
      generalize r.drop (readN b r ps m) = rd at *
      generalize r.take (readN b r ps m) = rt at *
      have hq := bin_seql hbt hbt
      simp only [decide_true] at hq
      have CK := rkcheck _ ps b r e OX hPA (by omega) (by omega)
      have RCK := rkrcheck x ps b r e hX hPA (by omega) (by omega)
      have hckb := chkR_bd b r.length ps e
      have WH := whole _ ps b r e OX hPA (by omega) (by omega)
      have RWH := rwhole x ps b r e hX hPA (by omega) (by omega)
      have EN1 := ended _ ps b r e OX hPA (by omega) (by omega) hr
      have REN1 := rended x ps b r e hX hPA (by omega) (by omega) hr
      have B1 := rkback y1 tp tb tr te hY1 (by omega)
      have M1 := rrsame _ y2 tp tp tb tb te te tr tr (isL_ofL 2 _) hY2 (by omega) (by omega) k1 k1 k3 k3
      have B2 := rkback _ ps b rd e OX (by omega)
      have M2 := rrsame _ x ps ps b b e e rd rd (isL_ofL 2 _) hX (by omega) (by omega) hPA hPA hbd hbd
      have SM1 := rksame _ y1 ps tp b tb e te r tr OX hY1 (by omega) (by omega) hPA k1 hr k3
      have SM2 := rrsame x y2 ps tp b tb e te r tr hX hY2 (by omega) (by omega) hPA k1 hr k3
      have NW := rknew
      have RNW := rrnew
      have B3 := rkback (.v nilS) [] 0 [] (-1) (.inr ⟨rfl, rfl⟩) (Nat.zero_le _)
      have M3 := rrsame _ (.v nilS) [] [] 0 0 (-1) (-1) [] [] (isL_ofL 2 _) (.inr ⟨rfl, rfl⟩) (Nat.zero_le _) (Nat.zero_le _) allB_nil allB_nil Bytes.nil Bytes.nil
      have B4 := rkback _ ps b r e OX (by omega)
      have M4 := rrsame _ x ps ps b b e e r r (isL_ofL 2 _) hX (by omega) (by omega) hPA hPA hr hr
      rw [sameS_self] at M1 M2 M3 M4
      simp only [decide_true, Bool.and_true] at M1 M2 M3 M4
      generalize (sameS b tb r tr ps tp && decide (e = te)) = sm at SM1 SM2
      generalize (wholeF b r.length ps e && decide (r.length = 0)) = ee at EN1 REN1
      generalize wholeF b r.length ps e = ww at WH RWH
      have R1 := RD1
      have R2 := RD2
      clear RD1 RD2
      have hne : True := trivial
      by_cases hz : chkR b r.length ps e = 0
      · rw [hz] at CK RCK
        have hF : chkF b r.length ps = 0 := by
          by_cases h : chkF b r.length ps = 0
          · exact h
          · rw [chkR_bad h] at hz; exact absurd hz h
        have ho : (SS.mk b r ps).Ok := chk_ok.1 hF
        have HI := high _ ps b r e OX ho hPA
        have RHI := rhigh x ps b r e hX ho hPA
        generalize highF b ps = hg at HI RHI
        repeat' (first
          | (refine ex_some (by simp (disch := omega) only [bin_shr, bin_shl, bin_and, bin_or, bin_xor, len_str, toStr_ofL, bin_add, bin_sub, bin_mul, bin_quo, bin_rem, bin_lss, bin_leq, bin_gtr, bin_geq, bin_eql, bin_neq, eqs_cn, eqs_ci, eqs_cb, eqs_cs, Option.map_some, lenT_ofL, lst_ofL, lstSz_ofL, chunk_one, lst_nil, lst_sl, lstSz_sl, lstSz_nil, Bool.and_true, Bool.true_and, Bool.and_false, Bool.false_and, beq_self_eq_true, beq_bb, bne_bb, un_not, un_neg, conv_int, min2_int, max2_int, w64, w32, wu8, wu16, wu32, wu64, tdiv_nn, tmod_nn, cell_zero, cell_succ, cell_v, cells_v, cells_agg, Bool.not_true, Bool.not_false, Int.reduceLT, Int.reduceLE, Int.reduceEq, Int.reduceNeg, Int.reduceAdd, Int.reduceSub, Int.reduceMul, intOf_v, decide_true, decide_false, hq, bin_and, hne]; rfl) ?_)
          | (refine ex_bool ?_)
          | (refine ⟨_, _, _, P1, ?_⟩)
          | (refine ⟨_, _, _, P2, ?_⟩)
          | (refine ⟨_, _, _, R1, ?_⟩)
          | (refine ⟨_, _, _, R2, ?_⟩)
          | (refine ⟨_, awake, ?_⟩)
          | (refine ⟨_, LT1, ?_⟩)
          | (refine ⟨_, OW1, ?_⟩)
          | (refine ⟨_, CK, ?_⟩)
          | (refine ⟨_, RCK, ?_⟩)
          | (refine ⟨_, WH, ?_⟩)
          | (refine ⟨_, RWH, ?_⟩)
          | (refine ⟨_, EN1, ?_⟩)
          | (refine ⟨_, REN1, ?_⟩)
          | (refine ⟨_, B1, ?_⟩)
          | (refine ⟨_, M1, ?_⟩)
          | (refine ⟨_, B2, ?_⟩)
          | (refine ⟨_, M2, ?_⟩)
          | (refine ⟨_, SM1, ?_⟩)
          | (refine ⟨_, SM2, ?_⟩)
          | (refine ⟨_, NW, ?_⟩)
          | (refine ⟨_, RNW, ?_⟩)
          | (refine ⟨_, B3, ?_⟩)
          | (refine ⟨_, M3, ?_⟩)
          | (refine ⟨_, B4, ?_⟩)
          | (refine ⟨_, M4, ?_⟩)
          | (refine ⟨_, HI, ?_⟩)
          | (refine ⟨_, RHI, ?_⟩)
          | (refine And.intro ?_ ?_)
          | (intro hx; have hprop := (show ∀ (p : Prop), p → True from fun _ _ => True.intro) _ hx; clear hprop; first | (cases hx; done) | (exfalso; revert hx; simp (disch := omega) only [decide_eq_true_eq, decide_eq_false_iff_not, Bool.not_eq_true', Bool.not_eq_false', Bool.and_eq_true, Bool.and_eq_false_iff, Int.not_lt, Int.not_le, ne_eq, not_false_eq_true, not_true_eq_false, reduceCtorEq, Bool.true_eq_false, Bool.false_eq_true, beq_iff_eq, bne_iff_ne, beq_eq_false_iff_ne, false_or, or_false, true_and, and_true, hq, bin_and, hne]; done) | (simp (disch := omega) only [decide_eq_true_eq, decide_eq_false_iff_not, Bool.not_eq_true', Bool.not_eq_false', Bool.and_eq_true, Bool.and_eq_false_iff, Int.not_lt, Int.not_le, ne_eq, not_false_eq_true, not_true_eq_false, reduceCtorEq, Bool.true_eq_false, Bool.false_eq_true, beq_iff_eq, bne_iff_ne, beq_eq_false_iff_ne, false_or, or_false, true_and, and_true, hq, bin_and, hne] at hx; first | (exfalso; omega) | skip) | skip)
          | trivial
          | exact fit_ofL _ _
          | (simp (disch := omega) only [notAgg_v, notAgg_sl, plain_v, fits, fitsOne, fitsCells, xsOf, cell_zero, cell_succ, List.range, List.range.loop, List.map, cond_true, cond_false, D.v.injEq, exists_eq', exists_eq, and_self, and_true, true_and, D.agg.injEq, List.length, exists_eq_left', D.sl.injEq, reduceCtorEq, false_or, true_or, or_true, or_false, cell_zero, cell_succ, cell_v, cells_v, cells_agg, List.length_cons, List.length_nil, hq, bin_and, hne]; done))
        all_goals first
          | (exfalso; omega)
          | omega
          | exact fitP hX
          | exact plainP hX
          | exact fitP OX
          | exact plainP OX
          | exact fitP hY1
          | exact plainP hY1
          | exact fitP hY2
          | exact plainP hY2
          | exact hY1.notAgg
          | exact hY2.notAgg
          | exact fit_ofL _ _
          | exact plain_ofL (pts_plain _)
          | exact hX.notAgg
          | exact .inl rfl
          | exact notAgg_v _
          | exact ⟨_, rfl⟩
          | exact ⟨_, rfl, rfl⟩
          | rfl
          | assumption
          | (simp; done)
          | fail
      · generalize chkR b r.length ps e = ck at *
        repeat' (first
          | (refine ex_some (by simp (disch := omega) only [bin_shr, bin_shl, bin_and, bin_or, bin_xor, len_str, toStr_ofL, bin_add, bin_sub, bin_mul, bin_quo, bin_rem, bin_lss, bin_leq, bin_gtr, bin_geq, bin_eql, bin_neq, eqs_cn, eqs_ci, eqs_cb, eqs_cs, Option.map_some, lenT_ofL, lst_ofL, lstSz_ofL, chunk_one, lst_nil, lst_sl, lstSz_sl, lstSz_nil, Bool.and_true, Bool.true_and, Bool.and_false, Bool.false_and, beq_self_eq_true, beq_bb, bne_bb, un_not, un_neg, conv_int, min2_int, max2_int, w64, w32, wu8, wu16, wu32, wu64, tdiv_nn, tmod_nn, cell_zero, cell_succ, cell_v, cells_v, cells_agg, Bool.not_true, Bool.not_false, Int.reduceLT, Int.reduceLE, Int.reduceEq, Int.reduceNeg, Int.reduceAdd, Int.reduceSub, Int.reduceMul, intOf_v, decide_true, decide_false, hq, bin_and, hne]; rfl) ?_)
          | (refine ex_bool ?_)
          | (refine ⟨_, _, _, P1, ?_⟩)
          | (refine ⟨_, _, _, P2, ?_⟩)
          | (refine ⟨_, _, _, R1, ?_⟩)
          | (refine ⟨_, _, _, R2, ?_⟩)
          | (refine ⟨_, awake, ?_⟩)
          | (refine ⟨_, LT1, ?_⟩)
          | (refine ⟨_, OW1, ?_⟩)
          | (refine ⟨_, CK, ?_⟩)
          | (refine ⟨_, RCK, ?_⟩)
          | (refine ⟨_, WH, ?_⟩)
          | (refine ⟨_, RWH, ?_⟩)
          | (refine ⟨_, EN1, ?_⟩)
          | (refine ⟨_, REN1, ?_⟩)
          | (refine ⟨_, B1, ?_⟩)
          | (refine ⟨_, M1, ?_⟩)
          | (refine ⟨_, B2, ?_⟩)
          | (refine ⟨_, M2, ?_⟩)
          | (refine ⟨_, SM1, ?_⟩)
          | (refine ⟨_, SM2, ?_⟩)
          | (refine ⟨_, NW, ?_⟩)
          | (refine ⟨_, RNW, ?_⟩)
          | (refine ⟨_, B3, ?_⟩)
          | (refine ⟨_, M3, ?_⟩)
          | (refine ⟨_, B4, ?_⟩)
          | (refine ⟨_, M4, ?_⟩)
          | (refine And.intro ?_ ?_)
          | (intro hx; have hprop := (show ∀ (p : Prop), p → True from fun _ _ => True.intro) _ hx; clear hprop; first | (cases hx; done) | (exfalso; revert hx; simp (disch := omega) only [decide_eq_true_eq, decide_eq_false_iff_not, Bool.not_eq_true', Bool.not_eq_false', Bool.and_eq_true, Bool.and_eq_false_iff, Int.not_lt, Int.not_le, ne_eq, not_false_eq_true, not_true_eq_false, reduceCtorEq, Bool.true_eq_false, Bool.false_eq_true, beq_iff_eq, bne_iff_ne, beq_eq_false_iff_ne, false_or, or_false, true_and, and_true, hq, bin_and, hne]; done) | (simp (disch := omega) only [decide_eq_true_eq, decide_eq_false_iff_not, Bool.not_eq_true', Bool.not_eq_false', Bool.and_eq_true, Bool.and_eq_false_iff, Int.not_lt, Int.not_le, ne_eq, not_false_eq_true, not_true_eq_false, reduceCtorEq, Bool.true_eq_false, Bool.false_eq_true, beq_iff_eq, bne_iff_ne, beq_eq_false_iff_ne, false_or, or_false, true_and, and_true, hq, bin_and, hne] at hx; first | (exfalso; omega) | skip) | skip)
          | trivial
          | exact fit_ofL _ _
          | (simp (disch := omega) only [notAgg_v, notAgg_sl, plain_v, fits, fitsOne, fitsCells, xsOf, cell_zero, cell_succ, List.range, List.range.loop, List.map, cond_true, cond_false, D.v.injEq, exists_eq', exists_eq, and_self, and_true, true_and, D.agg.injEq, List.length, exists_eq_left', D.sl.injEq, reduceCtorEq, false_or, true_or, or_true, or_false, cell_zero, cell_succ, cell_v, cells_v, cells_agg, List.length_cons, List.length_nil, hq, bin_and, hne]; done))
        all_goals first
          | (exfalso; omega)
          | omega
          | exact fitP hX
          | exact plainP hX
          | exact fitP OX
          | exact plainP OX
          | exact fitP hY1
          | exact plainP hY1
          | exact fitP hY2
          | exact plainP hY2
          | exact hY1.notAgg
          | exact hY2.notAgg
          | exact fit_ofL _ _
          | exact plain_ofL (pts_plain _)
          | exact hX.notAgg
          | exact .inl rfl
          | exact notAgg_v _
          | exact ⟨_, rfl⟩
          | exact ⟨_, rfl, rfl⟩
          | rfl
          | assumption
          | (simp; done)
          | fail
    · skip
      repeat' (first
        | (refine ex_some (by simp (disch := omega) only [bin_shr, bin_shl, bin_and, bin_or, bin_xor, len_str, toStr_ofL, bin_add, bin_sub, bin_mul, bin_quo, bin_rem, bin_lss, bin_leq, bin_gtr, bin_geq, bin_eql, bin_neq, eqs_cn, eqs_ci, eqs_cb, eqs_cs, Option.map_some, lenT_ofL, lst_ofL, lstSz_ofL, chunk_one, lst_nil, lst_sl, lstSz_sl, lstSz_nil, Bool.and_true, Bool.true_and, Bool.and_false, Bool.false_and, beq_self_eq_true, beq_bb, bne_bb, un_not, un_neg, conv_int, min2_int, max2_int, w64, w32, wu8, wu16, wu32, wu64, tdiv_nn, tmod_nn, cell_zero, cell_succ, cell_v, cells_v, cells_agg, Bool.not_true, Bool.not_false, Int.reduceLT, Int.reduceLE, Int.reduceEq, Int.reduceNeg, Int.reduceAdd, Int.reduceSub, Int.reduceMul, intOf_v, decide_true, decide_false]; rfl) ?_)
        | (refine ex_bool ?_)
        | (refine ⟨_, awake, ?_⟩)
        | (refine ⟨_, LT1, ?_⟩)
        | (refine And.intro ?_ ?_)
        | (intro hx; have hprop := (show ∀ (p : Prop), p → True from fun _ _ => True.intro) _ hx; clear hprop; first | (cases hx; done) | (exfalso; revert hx; simp (disch := omega) only [decide_eq_true_eq, decide_eq_false_iff_not, Bool.not_eq_true', Bool.not_eq_false', Bool.and_eq_true, Bool.and_eq_false_iff, Int.not_lt, Int.not_le, ne_eq, not_false_eq_true, not_true_eq_false, reduceCtorEq, Bool.true_eq_false, Bool.false_eq_true, beq_iff_eq, bne_iff_ne, beq_eq_false_iff_ne, false_or, or_false, true_and, and_true]; done) | (simp (disch := omega) only [decide_eq_true_eq, decide_eq_false_iff_not, Bool.not_eq_true', Bool.not_eq_false', Bool.and_eq_true, Bool.and_eq_false_iff, Int.not_lt, Int.not_le, ne_eq, not_false_eq_true, not_true_eq_false, reduceCtorEq, Bool.true_eq_false, Bool.false_eq_true, beq_iff_eq, bne_iff_ne, beq_eq_false_iff_ne, false_or, or_false, true_and, and_true] at hx; first | (exfalso; omega) | skip) | skip)
        | trivial
        | exact fit_ofL _ _
        | (simp (disch := omega) only [notAgg_v, notAgg_sl, plain_v, fits, fitsOne, fitsCells, xsOf, cell_zero, cell_succ, List.range, List.range.loop, List.map, cond_true, cond_false, D.v.injEq, exists_eq', exists_eq, and_self, and_true, true_and, D.agg.injEq, List.length, exists_eq_left', D.sl.injEq, reduceCtorEq, false_or, true_or, or_true, or_false, cell_zero, cell_succ, cell_v, cells_v, cells_agg, List.length_cons, List.length_nil]; done))
      all_goals first
        | (exfalso; omega)
        | omega
        | exact fitP hX
        | exact plainP hX
        | exact fit_ofL _ _
        | exact plain_ofL (pts_plain _)
        | exact hX.notAgg
        | exact .inl rfl
        | exact notAgg_v _
        | exact ⟨_, rfl⟩
        | exact ⟨_, rfl, rfl⟩
        | rfl
        | assumption
        | (simp; done)
        | fail


theorem law_RasmTakes (xs : List D) (h : All2 TypedA [(true, [.int .i64, .str, .sl true [.int .i64, .str], .int .i64]), (false, [.str]), (true, [.int .i64, .int .i64, .int .i64])] xs) : PureD Try.prog 3 xs [.v (.bool true)] := by
  obtain ⟨x, xs, rfl, hx, h⟩ := h.cons_
  obtain ⟨y, xs, rfl, hy, h⟩ := h.cons_
  obtain ⟨z, xs, rfl, hz, h⟩ := h.cons_
  obtain rfl := h.nil_
  obtain ⟨b, r, x, ps, e, rfl, hX, _, hr, hP⟩ := typed_st hx
  obtain ⟨s, rfl, _⟩ := hy.one.str_
  obtain ⟨n, m, q, rfl, hn, _, _⟩ := typed_i3 hz
  rw [str_of]
  exact takes x ps b e r (bytesOf s) n m q hX hr (bytesOf_bd s) hP hn

end Go.Proofs.Ytjdemohgegldaaa