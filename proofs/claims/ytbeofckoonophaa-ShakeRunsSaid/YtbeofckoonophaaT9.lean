/-
  Layer 13: the law ShakeRuns.
-/
import Derived.Test.YtbeofckoonophaaT1
import Derived.Test.YtbeofckoonophaaT2
import Derived.Test.YtbeofckoonophaaT3
import Derived.Test.YtbeofckoonophaaT4
import Derived.Test.YtbeofckoonophaaT5
import Derived.Test.YtbeofckoonophaaT6
import Derived.Test.YtbeofckoonophaaT7
import Derived.Test.YtbeofckoonophaaT8
namespace Go.Proofs.Ytbeofckoonophaa
open Go.RowKit
set_option linter.unusedSimpArgs false
set_option linter.unusedVariables false


def norm (g : Sg) : Sg := ⟨g.fl, g.pa, g.ep, g.sq, g.ak, g.wi, ofL 2 (prs g.zs), g.zs, g.s⟩
theorem norm_ok {g : Sg} (h : SgOk g) : SgOk (norm g) := ⟨isL_ofL _ _, h.hs, h.f0, h.f1, h.q0, h.q1, h.a0, h.a1⟩
theorem run_norm (pt eo mi : Int) : ∀ (p : Int × Int) (l : List Sg), runG pt eo mi p (l.map norm) = runG pt eo mi p l
  | p, [] => rfl
  | p, g :: l => run_norm pt eo mi (onG pt eo mi p g) l
theorem app_takeG {l : List Sg} {k : Nat} (hk : k < l.length) : (ofL 8 (((l.take k).map norm).map sgD)).app 8 [sgD (norm (l.getD k default))] = ofL 8 (((l.take (k + 1)).map norm).map sgD) := by
  rw [app_ofL, take_last hk]
  simp only [List.map_append, List.map_cons, List.map_nil]
theorem take_over {α : Type} (l : List α) : l.take (l.length + 1) = l := List.take_of_length_le (by omega)
theorem run_bd {pt eo mi : Int} : ∀ {p : Int × Int} {l : List Sg}, Bd p → (∀ g ∈ l, SgOk g) → Bd (runG pt eo mi p l)
  | _, [], h, _ => h
  | p, g :: l, h, hg => run_bd (p := onG pt eo mi p g) (l := l) (onG_bd h (hg g (by simp))) (fun x hx => hg x (by simp [hx]))
theorem outD_form2 (st pt eo mi he : Int) (h0 : 0 ≤ he) (h1 : he < 4294967296) : ∃ o0 o1 o2 o3 o4 o5 : Int, outD st pt eo mi he = .agg [.v (.int .u8 o0), .v (.int .i64 o1), .v (.int .i64 o2), .v (.int .u32 o3), .v (.int .u32 o4), .v (.int .i64 o5), .v nilS, .v (.string ⟨⟨[]⟩⟩)] ∧ 0 ≤ o0 ∧ o0 < 256 := by
  unfold outD
  split
  · split
    · exact ⟨_, _, _, _, _, _, rfl, by omega, by omega⟩
    · exact ⟨_, _, _, _, _, _, rfl, by omega, by omega⟩
  · exact ⟨_, _, _, _, _, _, rfl, by omega, by omega⟩
theorem ch8 (a b c d e f g h : D) : chunks true 8 1 [a, b, c, d, e, f, g, h] = [.agg [a, b, c, d, e, f, g, h]] := rfl

theorem vc_runsS (p : Int × Int) (pt eo mi : Int) (y : D) (l : List Sg) : Cond Try.prog (fun k => if k = 6 then some ⟨[8], [7], [1, 2, 5, 6], [(5, [0, 1, 2, 3, 4], []), (6, [0, 1, 2, 3, 4], [])]⟩ else none) Try.f3 [.agg [.v (.int .u8 p.1), .v (.int .i64 pt), .v (.int .i64 eo), .v (.int .u32 mi), .v (.int .u32 p.2)], y] [.v (.bool true)] = (((∃ (cs : List D), D.agg [D.v (Value.int IntKind.u8 p.fst), D.v (Value.int IntKind.i64 pt), D.v (Value.int IntKind.i64 eo), D.v (Value.int IntKind.u32 mi), D.v (Value.int IntKind.u32 p.snd)] = D.agg cs ∧ cs.length = 5) ∧ NotAgg y ∧ True) ∧ ∃ (r : D), PureD Try.prog 7 [y] [r] ∧ fits [(false, [none])] [r] ∧ ∃ (r_1 : D), D.un UnOp.not r = some r_1 ∧ ∃ (b : Bool), r_1 = D.v (Value.bool b) ∧ (b = true → ∃ (r : D), PureD Try.prog 8 [] [r] ∧ fits [(false, [none])] [r] ∧ ((∃ (y : Value), r = D.v y) ∧ True) ∧ [r] = [D.v (Value.bool true)]) ∧ (b = false → ∃ (I : List D → Prop), ∃ (μ : List D → Nat), ((D.v (Value.int IntKind.i64 0) = D.v (Value.int IntKind.i64 0) ∧ true = true ∧ y = y ∧ (true = true ∧ true = true) ∧ (true = true ∧ true = true) ∧ (true = true ∧ true = true) ∧ True) ∧ ((true = true ∧ D.v nilS = D.v nilS) ∧ (D.v (Value.int IntKind.u8 p.fst) = D.v (Value.int IntKind.u8 p.fst) ∧ D.v (Value.int IntKind.i64 pt) = D.v (Value.int IntKind.i64 pt) ∧ D.v (Value.int IntKind.i64 eo) = D.v (Value.int IntKind.i64 eo) ∧ D.v (Value.int IntKind.u32 mi) = D.v (Value.int IntKind.u32 mi) ∧ D.v (Value.int IntKind.u32 p.snd) = D.v (Value.int IntKind.u32 p.snd) ∧ True) ∧ (D.v (Value.int IntKind.u8 p.fst) = D.v (Value.int IntKind.u8 p.fst) ∧ D.v (Value.int IntKind.i64 pt) = D.v (Value.int IntKind.i64 pt) ∧ D.v (Value.int IntKind.i64 eo) = D.v (Value.int IntKind.i64 eo) ∧ D.v (Value.int IntKind.u32 mi) = D.v (Value.int IntKind.u32 mi) ∧ D.v (Value.int IntKind.u32 p.snd) = D.v (Value.int IntKind.u32 p.snd) ∧ True) ∧ (D.v (Value.int IntKind.u8 p.fst) = D.v (Value.int IntKind.u8 p.fst) ∧ D.v (Value.int IntKind.i64 pt) = D.v (Value.int IntKind.i64 pt) ∧ D.v (Value.int IntKind.i64 eo) = D.v (Value.int IntKind.i64 eo) ∧ D.v (Value.int IntKind.u32 mi) = D.v (Value.int IntKind.u32 mi) ∧ D.v (Value.int IntKind.u32 p.snd) = D.v (Value.int IntKind.u32 p.snd) ∧ True) ∧ True) ∧ I [D.v (Value.int IntKind.i64 0), D.v (Value.int IntKind.u8 p.fst), D.v (Value.int IntKind.i64 pt), D.v (Value.int IntKind.i64 eo), D.v (Value.int IntKind.u32 mi), D.v (Value.int IntKind.u32 p.snd), D.v (Value.int IntKind.u8 p.fst), D.v (Value.int IntKind.i64 pt), D.v (Value.int IntKind.i64 eo), D.v (Value.int IntKind.u32 mi), D.v (Value.int IntKind.u32 p.snd), D.v nilS]) ∧ ∀ (r r_2 r_3 r_4 r_5 r_6 r_7 r_8 r_9 r_10 r_11 r_12 : D), I [r, r_2, r_3, r_4, r_5, r_6, r_7, r_8, r_9, r_10, r_11, r_12] → ∃ (r_13 : D), D.lenT (TypeDesc.slice 37) y = some r_13 ∧ ∃ (r_14 : D), D.bin BinOp.leq r r_13 = some r_14 ∧ ∃ (b : Bool), r_14 = D.v (Value.bool b) ∧ (b = true → ∃ (r_15 : D), ∃ (r_16 : D), PureD Try.prog 9 [D.agg [r_2, r_3, r_4, r_5, r_6]] [r_15, r_16] ∧ fits [(true, [none, none, none, none, none, none, some 2, none]), (false, [none])] [r_15, r_16] ∧ ∃ (r_17 : D), ∃ (r_18 : D), PureD Try.prog 10 [D.agg [r_7, r_8, r_9, r_10, r_11]] [r_17, r_18] ∧ fits [(true, [none, none, none, none, none, none, some 2, none]), (false, [none])] [r_17, r_18] ∧ ∃ (r_19 : Bool), eqs [EqK.i, EqK.i, EqK.i, EqK.i, EqK.i] [r_2, r_3, r_4, r_5, r_6] [r_7, r_8, r_9, r_10, r_11] = some r_19 ∧ ∃ (b : Bool), D.v (Value.bool (match r_19 with | true => false | false => true)) = D.v (Value.bool b) ∧ (b = false → ∃ (r_20 : D), PureD Try.prog 12 [D.agg [r_15.cell 0, r_15.cell 1, r_15.cell 2, r_15.cell 3, r_15.cell 4, r_15.cell 5, r_15.cell 6, r_15.cell 7]] [r_20] ∧ fits [(true, [none, none, none, none, none, none, some 2, none])] [r_20] ∧ ∃ (r_21 : D), PureD Try.prog 11 [D.agg [r_20.cell 0, r_20.cell 1, r_20.cell 2, r_20.cell 3, r_20.cell 4, r_20.cell 5, r_20.cell 6, r_20.cell 7], D.agg [r_17.cell 0, r_17.cell 1, r_17.cell 2, r_17.cell 3, r_17.cell 4, r_17.cell 5, r_17.cell 6, r_17.cell 7]] [r_21] ∧ fits [(false, [none])] [r_21] ∧ ∃ (r_22 : D), D.un UnOp.not r_21 = some r_22 ∧ ∃ (b : Bool), r_22 = D.v (Value.bool b) ∧ (b = false → ∃ (r_23 : D), r_16.bne r_18 = some r_23 ∧ ∃ (b : Bool), r_23 = D.v (Value.bool b) ∧ (b = false → ∃ (r_24 : D), PureD Try.prog 13 [D.agg [r_2, r_3, r_4, r_5, r_6]] [r_24] ∧ fits [(false, [none])] [r_24] ∧ ∃ (r_25 : D), PureD Try.prog 14 [D.agg [r_7, r_8, r_9, r_10, r_11]] [r_25] ∧ fits [(false, [none])] [r_25] ∧ ∃ (r_26 : D), D.bin BinOp.neq r_24 r_25 = some r_26 ∧ ∃ (b : Bool), r_26 = D.v (Value.bool b) ∧ (b = false → ∃ (r_27 : D), PureD Try.prog 15 [D.agg [r_2, r_3, r_4, r_5, r_6]] [r_27] ∧ fits [(true, [none, none, none, none, none])] [r_27] ∧ ∃ (r_28 : D), PureD Try.prog 16 [D.agg [r_7, r_8, r_9, r_10, r_11]] [r_28] ∧ fits [(true, [none, none, none, none, none])] [r_28] ∧ ∃ (r_29 : Bool), eqs [EqK.i, EqK.i, EqK.i, EqK.i, EqK.i] [r_27.cell 0, r_27.cell 1, r_27.cell 2, r_27.cell 3, r_27.cell 4] [r_28.cell 0, r_28.cell 1, r_28.cell 2, r_28.cell 3, r_28.cell 4] = some r_29 ∧ ∃ (b : Bool), D.v (Value.bool (match r_29 with | true => false | false => true)) = D.v (Value.bool b) ∧ (b = false → ∃ (r_30 : D), PureD Try.prog 17 [D.agg [r_2, r_3, r_4, r_5, r_6]] [r_30] ∧ fits [(true, [none, none, none, none, none])] [r_30] ∧ ∃ (r_31 : D), PureD Try.prog 18 [D.agg [r_7, r_8, r_9, r_10, r_11]] [r_31] ∧ fits [(true, [none, none, none, none, none])] [r_31] ∧ ∃ (r_32 : Bool), eqs [EqK.i, EqK.i, EqK.i, EqK.i, EqK.i] [r_30.cell 0, r_30.cell 1, r_30.cell 2, r_30.cell 3, r_30.cell 4] [r_31.cell 0, r_31.cell 1, r_31.cell 2, r_31.cell 3, r_31.cell 4] = some r_32 ∧ ∃ (b : Bool), D.v (Value.bool (match r_32 with | true => false | false => true)) = D.v (Value.bool b) ∧ (b = true → (True ∧ True) ∧ [D.v (Value.bool false)] = [D.v (Value.bool true)]) ∧ (b = false → ∃ (r_33 : D), D.lenT (TypeDesc.slice 37) y = some r_33 ∧ ∃ (r_34 : D), D.bin BinOp.lss r r_33 = some r_34 ∧ ∃ (b : Bool), r_34 = D.v (Value.bool b) ∧ (b = true → D.inb 8 y r ∧ 0 + 8 ≤ (y.at_ r).cells.length ∧ ∃ (r_35 : D), PureD Try.prog 19 [D.agg [(y.at_ r).cell (0 + 0), (y.at_ r).cell (0 + 1), (y.at_ r).cell (0 + 2), (y.at_ r).cell (0 + 3), (y.at_ r).cell (0 + 4), (y.at_ r).cell (0 + 5), (y.at_ r).cell (0 + 6), (y.at_ r).cell (0 + 7)]] [r_35] ∧ fits [(true, [none, none, none, none, none, none, some 2, none])] [r_35] ∧ ∃ (r_36 : D), PureD Try.prog 20 [D.agg [r_2, r_3, r_4, r_5, r_6], D.agg [r_35.cell 0, r_35.cell 1, r_35.cell 2, r_35.cell 3, r_35.cell 4, r_35.cell 5, r_35.cell 6, r_35.cell 7]] [r_36] ∧ fits [(false, [none])] [r_36] ∧ D.inb 8 y r ∧ 0 + 8 ≤ (y.at_ r).cells.length ∧ ∃ (r_37 : D), PureD Try.prog 21 [D.agg [r_7, r_8, r_9, r_10, r_11], D.agg [(y.at_ r).cell (0 + 0), (y.at_ r).cell (0 + 1), (y.at_ r).cell (0 + 2), (y.at_ r).cell (0 + 3), (y.at_ r).cell (0 + 4), (y.at_ r).cell (0 + 5), (y.at_ r).cell (0 + 6), (y.at_ r).cell (0 + 7)]] [r_37] ∧ fits [(false, [none])] [r_37] ∧ ∃ (r_38 : D), r_36.bne r_37 = some r_38 ∧ ∃ (b : Bool), r_38 = D.v (Value.bool b) ∧ (b = true → (True ∧ True) ∧ [D.v (Value.bool false)] = [D.v (Value.bool true)]) ∧ (b = false → ∃ (ls : List D), r_12.lst = some ls ∧ ∃ (lx : List D), D.lstSz 8 (D.sl 8 (chunks true 8 1 [r_35.cell 0, r_35.cell 1, r_35.cell 2, r_35.cell 3, r_35.cell 4, r_35.cell 5, r_35.cell 6, r_35.cell 7])) = some lx ∧ (ls.length + lx.length) * 80 ≤ 1099511627776 ∧ ∃ (r_39 : D), PureD Try.prog 22 [D.agg [r_2, r_3, r_4, r_5, r_6], D.agg [r_35.cell 0, r_35.cell 1, r_35.cell 2, r_35.cell 3, r_35.cell 4, r_35.cell 5, r_35.cell 6, r_35.cell 7]] [r_39] ∧ fits [(true, [none, none, none, none, none])] [r_39] ∧ D.inb 8 y r ∧ 0 + 8 ≤ (y.at_ r).cells.length ∧ ∃ (r_40 : D), PureD Try.prog 23 [D.agg [r_7, r_8, r_9, r_10, r_11], D.agg [(y.at_ r).cell (0 + 0), (y.at_ r).cell (0 + 1), (y.at_ r).cell (0 + 2), (y.at_ r).cell (0 + 3), (y.at_ r).cell (0 + 4), (y.at_ r).cell (0 + 5), (y.at_ r).cell (0 + 6), (y.at_ r).cell (0 + 7)]] [r_40] ∧ fits [(true, [none, none, none, none, none])] [r_40] ∧ ∃ (r_41 : D), D.bin BinOp.add r (D.v (Value.int IntKind.i64 1)) = some r_41 ∧ (r_41 = r_41 ∧ true = true ∧ y = y ∧ (true = true ∧ true = true) ∧ (true = true ∧ true = true) ∧ (true = true ∧ true = true) ∧ True) ∧ ((true = true ∧ D.app 8 r_12 lx = D.app 8 r_12 lx) ∧ (r_39.cell 0 = r_39.cell 0 ∧ r_39.cell 1 = r_39.cell 1 ∧ r_39.cell 2 = r_39.cell 2 ∧ r_39.cell 3 = r_39.cell 3 ∧ r_39.cell 4 = r_39.cell 4 ∧ True) ∧ (r_40.cell 0 = r_40.cell 0 ∧ r_40.cell 1 = r_40.cell 1 ∧ r_40.cell 2 = r_40.cell 2 ∧ r_40.cell 3 = r_40.cell 3 ∧ r_40.cell 4 = r_40.cell 4 ∧ True) ∧ (D.v (Value.int IntKind.u8 p.fst) = D.v (Value.int IntKind.u8 p.fst) ∧ D.v (Value.int IntKind.i64 pt) = D.v (Value.int IntKind.i64 pt) ∧ D.v (Value.int IntKind.i64 eo) = D.v (Value.int IntKind.i64 eo) ∧ D.v (Value.int IntKind.u32 mi) = D.v (Value.int IntKind.u32 mi) ∧ D.v (Value.int IntKind.u32 p.snd) = D.v (Value.int IntKind.u32 p.snd) ∧ True) ∧ True) ∧ I [r_41, r_39.cell 0, r_39.cell 1, r_39.cell 2, r_39.cell 3, r_39.cell 4, r_40.cell 0, r_40.cell 1, r_40.cell 2, r_40.cell 3, r_40.cell 4, D.app 8 r_12 lx] ∧ μ [r_41, r_39.cell 0, r_39.cell 1, r_39.cell 2, r_39.cell 3, r_39.cell 4, r_40.cell 0, r_40.cell 1, r_40.cell 2, r_40.cell 3, r_40.cell 4, D.app 8 r_12 lx] < μ [r, r_2, r_3, r_4, r_5, r_6, r_7, r_8, r_9, r_10, r_11, r_12])) ∧ (b = false → ∃ (r_35 : D), D.bin BinOp.add r (D.v (Value.int IntKind.i64 1)) = some r_35 ∧ (r_35 = r_35 ∧ true = true ∧ y = y ∧ (true = true ∧ true = true) ∧ (true = true ∧ true = true) ∧ (true = true ∧ true = true) ∧ True) ∧ ((true = true ∧ r_12 = r_12) ∧ (r_2 = r_2 ∧ r_3 = r_3 ∧ r_4 = r_4 ∧ r_5 = r_5 ∧ r_6 = r_6 ∧ True) ∧ (r_7 = r_7 ∧ r_8 = r_8 ∧ r_9 = r_9 ∧ r_10 = r_10 ∧ r_11 = r_11 ∧ True) ∧ (D.v (Value.int IntKind.u8 p.fst) = D.v (Value.int IntKind.u8 p.fst) ∧ D.v (Value.int IntKind.i64 pt) = D.v (Value.int IntKind.i64 pt) ∧ D.v (Value.int IntKind.i64 eo) = D.v (Value.int IntKind.i64 eo) ∧ D.v (Value.int IntKind.u32 mi) = D.v (Value.int IntKind.u32 mi) ∧ D.v (Value.int IntKind.u32 p.snd) = D.v (Value.int IntKind.u32 p.snd) ∧ True) ∧ True) ∧ I [r_35, r_2, r_3, r_4, r_5, r_6, r_7, r_8, r_9, r_10, r_11, r_12] ∧ μ [r_35, r_2, r_3, r_4, r_5, r_6, r_7, r_8, r_9, r_10, r_11, r_12] < μ [r, r_2, r_3, r_4, r_5, r_6, r_7, r_8, r_9, r_10, r_11, r_12]))) ∧ (b = true → (True ∧ True) ∧ [D.v (Value.bool false)] = [D.v (Value.bool true)])) ∧ (b = true → (True ∧ True) ∧ [D.v (Value.bool false)] = [D.v (Value.bool true)])) ∧ (b = true → (True ∧ True) ∧ [D.v (Value.bool false)] = [D.v (Value.bool true)])) ∧ (b = true → (True ∧ True) ∧ [D.v (Value.bool false)] = [D.v (Value.bool true)])) ∧ (b = true → (True ∧ True) ∧ [D.v (Value.bool false)] = [D.v (Value.bool true)])) ∧ (b = false → ∃ (r : D), PureD Try.prog 24 [D.agg [D.v (Value.int IntKind.u8 p.fst), D.v (Value.int IntKind.i64 pt), D.v (Value.int IntKind.i64 eo), D.v (Value.int IntKind.u32 mi), D.v (Value.int IntKind.u32 p.snd)], r_12] [r] ∧ fits [(true, [none, none, none, none, none])] [r] ∧ ∃ (r_15 : Bool), eqs [EqK.i, EqK.i, EqK.i, EqK.i, EqK.i] [r.cell 0, r.cell 1, r.cell 2, r.cell 3, r.cell 4] [r_7, r_8, r_9, r_10, r_11] = some r_15 ∧ ∃ (b : Bool), D.v (Value.bool r_15) = D.v (Value.bool b) ∧ (b = true → ∃ (r : D), PureD Try.prog 25 [D.v (Value.int IntKind.i64 pt), D.v (Value.int IntKind.i64 eo), D.v (Value.int IntKind.u32 mi)] [r] ∧ fits [(true, [none, none, none, none, none])] [r] ∧ ∃ (r_16 : D), PureD Try.prog 26 [D.v (Value.int IntKind.i64 pt), D.v (Value.int IntKind.i64 eo), D.v (Value.int IntKind.u32 mi)] [r_16] ∧ fits [(true, [none, none, none, none, none])] [r_16] ∧ ∃ (r_17 : Bool), eqs [EqK.i, EqK.i, EqK.i, EqK.i, EqK.i] [r.cell 0, r.cell 1, r.cell 2, r.cell 3, r.cell 4] [r_16.cell 0, r_16.cell 1, r_16.cell 2, r_16.cell 3, r_16.cell 4] = some r_17 ∧ ∃ (b : Bool), D.v (Value.bool r_17) = D.v (Value.bool b) ∧ (b = true → ∃ (r : D), PureD Try.prog 8 [] [r] ∧ fits [(false, [none])] [r] ∧ ((∃ (y : Value), r = D.v y) ∧ True) ∧ [r] = [D.v (Value.bool true)]) ∧ (b = false → (True ∧ True) ∧ [D.v (Value.bool false)] = [D.v (Value.bool true)])) ∧ (b = false → (True ∧ True) ∧ [D.v (Value.bool false)] = [D.v (Value.bool true)])))) := by kernel_rfl
set_option maxHeartbeats 16000000 in
theorem runsS (p : Int × Int) (pt eo mi : Int) (y : D) (l : List Sg) (hp : Bd p) (m0 : 0 ≤ mi) (m1 : mi < 4294967296) (hL : IsL 8 (l.map sgD) y) (hall : ∀ g ∈ l, SgOk g) (hlt : lightF l = true) : PureD Try.prog 3 [.agg [.v (.int .u8 p.1), .v (.int .i64 pt), .v (.int .i64 eo), .v (.int .u32 mi), .v (.int .u32 p.2)], y] [.v (.bool true)] := by
  refine pure_cond (Lp := (fun k => if k = 6 then some ⟨[8], [7], [1, 2, 5, 6], [(5, [0, 1, 2, 3, 4], []), (6, [0, 1, 2, 3, 4], [])]⟩ else none)) (by kernel_rfl) Try.func3 (by kernel_rfl) (by kernel_rfl) ?_
  rw [vc_runsS p pt eo mi y l]
  obtain ⟨hll, hsm⟩ := light_all hlt
  have LT := lightS y l hL hall hll
  rw [hlt] at LT
  simp only [hL.lenT, hL.notAgg, List.length_map, Option.some.injEq, exists_eq_left']
  have e1 : True := trivial
  have s1 : True := trivial
  repeat' (first
    | (refine ex_some (by simp (disch := omega) only [bin_shr, bin_shl, bin_and, bin_or, bin_xor, len_str, toStr_ofL, bin_add, bin_sub, bin_mul, bin_quo, bin_rem, bin_lss, bin_leq, bin_gtr, bin_geq, bin_eql, bin_neq, eqs_cn, eqs_ci, eqs_cb, eqs_cs, Option.map_some, lenT_ofL, lst_ofL, lstSz_ofL, chunk_one, lst_nil, lst_sl, lstSz_sl, lstSz_nil, Bool.and_true, Bool.true_and, Bool.and_false, Bool.false_and, beq_self_eq_true, beq_bb, bne_bb, un_not, un_neg, conv_int, min2_int, max2_int, w64, w32, wu8, wu16, wu32, wu64, tdiv_nn, tmod_nn, cell_zero, cell_succ, cell_v, cells_v, cells_agg, Bool.not_true, Bool.not_false, Int.reduceLT, Int.reduceLE, Int.reduceEq, Int.reduceNeg, Int.reduceAdd, Int.reduceSub, Int.reduceMul, intOf_v, decide_true, decide_false, e1, s1, hL.lenT, List.length_map, app_ofL, lst_ofL, ch8]; rfl) ?_)
    | (refine ex_bool ?_)
    | (refine ⟨_, awake, ?_⟩)
    | (refine ⟨_, LT, ?_⟩)
    | (refine ⟨_, _, OU, ?_⟩)
    | (refine ⟨_, _, OR, ?_⟩)
    | (refine ⟨_, BK, ?_⟩)
    | (refine ⟨_, SM, ?_⟩)
    | (refine ⟨_, C1, ?_⟩)
    | (refine ⟨_, C2, ?_⟩)
    | (refine ⟨_, A1, ?_⟩)
    | (refine ⟨_, A2, ?_⟩)
    | (refine ⟨_, K1, ?_⟩)
    | (refine ⟨_, K2, ?_⟩)
    | (refine ⟨_, OWN, ?_⟩)
    | (refine ⟨_, FI, ?_⟩)
    | (refine ⟨_, FR, ?_⟩)
    | (refine ⟨_, ON, ?_⟩)
    | (refine ⟨_, ONR, ?_⟩)
    | (refine ⟨_, RUN, ?_⟩)
    | (refine ⟨_, NW, ?_⟩)
    | (refine ⟨_, NR, ?_⟩)
    | (refine ⟨(fun r => ∃ (k : Nat), k ≤ l.length + 1 ∧ Bd (runG pt eo mi p (l.take k)) ∧ r = [.v (.int .i64 (k : Nat)), .v (.int .u8 (runG pt eo mi p (l.take k)).1), .v (.int .i64 pt), .v (.int .i64 eo), .v (.int .u32 mi), .v (.int .u32 (runG pt eo mi p (l.take k)).2), .v (.int .u8 (runG pt eo mi p (l.take k)).1), .v (.int .i64 pt), .v (.int .i64 eo), .v (.int .u32 mi), .v (.int .u32 (runG pt eo mi p (l.take k)).2), ofL 8 (((l.take k).map norm).map sgD)]), leftN (l.length + 1), ?_⟩)
    | (refine fun (r1 r2 r3 r4 r5 r6 r7 r8 r9 r10 r11 r12 : D) (hI : (fun r => ∃ (k : Nat), k ≤ l.length + 1 ∧ Bd (runG pt eo mi p (l.take k)) ∧ r = [.v (.int .i64 (k : Nat)), .v (.int .u8 (runG pt eo mi p (l.take k)).1), .v (.int .i64 pt), .v (.int .i64 eo), .v (.int .u32 mi), .v (.int .u32 (runG pt eo mi p (l.take k)).2), .v (.int .u8 (runG pt eo mi p (l.take k)).1), .v (.int .i64 pt), .v (.int .i64 eo), .v (.int .u32 mi), .v (.int .u32 (runG pt eo mi p (l.take k)).2), ofL 8 (((l.take k).map norm).map sgD)]) [r1, r2, r3, r4, r5, r6, r7, r8, r9, r10, r11, r12]) => ?_; obtain ⟨k, hk, hbd, hl0⟩ := hI; simp only [List.cons.injEq, and_true] at hl0; obtain ⟨rfl, rfl, rfl, rfl, rfl, rfl, rfl, rfl, rfl, rfl, rfl, rfl⟩ := hl0; by_cases hlt : k < l.length <;> first | (have hk1 : k < l.length := (by omega); have e1 := sgs_at hL hk1; have i1 := sgs_inb hL hk1; have hg := hall _ (mem_getD hk1); have hgl := hsm _ (mem_getD hk1); have hr := run_last pt eo mi p hk1; have s1 := app_takeG hk1; generalize l.getD k default = g at e1 hg hgl hr s1; have hbd2 := onG_bd (pt := pt) (eo := eo) (mi := mi) hbd hg; rw [← hr] at hbd2; generalize hq : runG pt eo mi p (l.take k) = q at *; obtain ⟨q1, q2⟩ := q; have OU := out q1 pt eo mi q2 hbd.1.1 hbd.1.2 m0 m1 hbd.2.1 hbd.2.2; have OR := rout q1 pt eo mi q2 hbd.1.1 hbd.1.2 m0 m1 hbd.2.1 hbd.2.2; obtain ⟨o0, o1, o2, o3, o4, o5, hform, ho0, ho1⟩ := outD_form2 q1 pt eo mi q2 hbd.2.1 hbd.2.2; rw [hform] at OU OR; clear hform; generalize outB q1 pt eo q2 = ob at OU OR; have BK := backS o0 o1 o2 o3 o4 o5 (.v nilS) [] [] isN (by simp) Bytes.nil (by simp) ho0 ho1; have SM := rsameT o0 o1 o2 o3 o4 o5 (ofL 2 (prs [])) [] [] (.v nilS) (isL_ofL _ _) (by simp) Bytes.nil (by simp) ho0 ho1 isN; have C1 := scheck q1 pt eo mi q2 hbd.1.1 hbd.1.2 m0 m1 hbd.2.1 hbd.2.2; have C2 := srcheck q1 pt eo mi q2 hbd.1.1 hbd.1.2 m0 m1 hbd.2.1 hbd.2.2; generalize shChk q1 pt eo q2 = ck at C1 C2; have A1 := ask q1 pt eo mi q2 hbd.1.1 hbd.1.2 m0 m1 hbd.2.1 hbd.2.2; have A2 := rask q1 pt eo mi q2 hbd.1.1 hbd.1.2 m0 m1 hbd.2.1 hbd.2.2; generalize askF q1 pt eo q2 = ak2 at A1 A2; have K1 := kill q1 pt eo mi q2 hbd.1.1 hbd.1.2 m0 m1 hbd.2.1 hbd.2.2; have K2 := rkill q1 pt eo mi q2 hbd.1.1 hbd.1.2 m0 m1 hbd.2.1 hbd.2.2; generalize killF q1 pt eo q2 = kl at K1 K2; have OWN := ownS g.fl g.pa g.ep g.sq g.ak g.wi g.x g.zs g.s hg.hX (by omega) hg.hs (by omega) hg.f0 hg.f1; have FI := fitS q1 pt eo mi q2 g.fl g.pa g.ep g.sq g.ak g.wi (ofL 2 (prs g.zs)) g.zs g.s hbd.1.1 hbd.1.2 m0 m1 hbd.2.1 hbd.2.2 (isL_ofL _ _) (by omega) hg.hs (by omega) hg.f0 hg.f1; have FR := rfits q1 pt eo mi q2 g.fl g.pa g.ep g.sq g.ak g.wi g.x g.zs g.s hbd.1.1 hbd.1.2 m0 m1 hbd.2.1 hbd.2.2 hg.hX (by omega) hg.hs (by omega) hg.f0 hg.f1; generalize fitF pt eo g.fl g.pa g.ep g.ak g.wi g.zs.length g.s.length = fb at FI FR; have ON := on q1 pt eo mi q2 g.fl g.pa g.ep g.sq g.ak g.wi (ofL 2 (prs g.zs)) g.zs g.s hbd.1.1 hbd.1.2 m0 m1 hbd.2.1 hbd.2.2 (isL_ofL _ _) (by omega) hg.hs (by omega) hg.f0 hg.f1 hg.q0 hg.q1 hg.a0 hg.a1; have ONR := ron q1 pt eo mi q2 g.fl g.pa g.ep g.sq g.ak g.wi g.x g.zs g.s hbd.1.1 hbd.1.2 m0 m1 hbd.2.1 hbd.2.2 hg.hX (by omega) hg.hs (by omega) hg.f0 hg.f1 hg.q0 hg.q1 hg.a0 hg.a1; rw [show onF q1 pt eo mi q2 g.fl g.pa g.ep g.sq g.ak g.wi g.zs.length g.s.length = runG pt eo mi p (l.take (k + 1)) from hr.symm] at ON ONR; simp only [sgD, sgX] at e1; simp only [sgD, sgX, norm] at s1; simp only [e1, Nat.zero_add, cell_zero, cell_succ, cells_agg, List.length_cons, List.length_nil]; have inl : True := trivial) | (have hkk : l.length ≤ k := (by omega); rw [List.take_of_length_le hkk] at hbd; rw [List.take_of_length_le hkk]; have e1 : True := trivial; have s1 : True := trivial; rcases Nat.eq_or_lt_of_le hkk with hk2 | hk2; all_goals (first | (have hz : k = l.length := (by omega); generalize hq : runG pt eo mi p l = q at *; obtain ⟨q1, q2⟩ := q; have OU := out q1 pt eo mi q2 hbd.1.1 hbd.1.2 m0 m1 hbd.2.1 hbd.2.2; have OR := rout q1 pt eo mi q2 hbd.1.1 hbd.1.2 m0 m1 hbd.2.1 hbd.2.2; obtain ⟨o0, o1, o2, o3, o4, o5, hform, ho0, ho1⟩ := outD_form2 q1 pt eo mi q2 hbd.2.1 hbd.2.2; rw [hform] at OU OR; clear hform; generalize outB q1 pt eo q2 = ob at OU OR; have BK := backS o0 o1 o2 o3 o4 o5 (.v nilS) [] [] isN (by simp) Bytes.nil (by simp) ho0 ho1; have SM := rsameT o0 o1 o2 o3 o4 o5 (ofL 2 (prs [])) [] [] (.v nilS) (isL_ofL _ _) (by simp) Bytes.nil (by simp) ho0 ho1 isN; have C1 := scheck q1 pt eo mi q2 hbd.1.1 hbd.1.2 m0 m1 hbd.2.1 hbd.2.2; have C2 := srcheck q1 pt eo mi q2 hbd.1.1 hbd.1.2 m0 m1 hbd.2.1 hbd.2.2; generalize shChk q1 pt eo q2 = ck at C1 C2; have A1 := ask q1 pt eo mi q2 hbd.1.1 hbd.1.2 m0 m1 hbd.2.1 hbd.2.2; have A2 := rask q1 pt eo mi q2 hbd.1.1 hbd.1.2 m0 m1 hbd.2.1 hbd.2.2; generalize askF q1 pt eo q2 = ak2 at A1 A2; have K1 := kill q1 pt eo mi q2 hbd.1.1 hbd.1.2 m0 m1 hbd.2.1 hbd.2.2; have K2 := rkill q1 pt eo mi q2 hbd.1.1 hbd.1.2 m0 m1 hbd.2.1 hbd.2.2; generalize killF q1 pt eo q2 = kl at K1 K2; have ht : l.take (k + 1) = l := List.take_of_length_le (by omega); have inl3 : True := trivial) | (have hz : k = l.length + 1 := (by omega); have RUN := run_ p pt eo mi (ofL 8 ((l.map norm).map sgD)) (l.map norm) hp m0 m1 (isL_ofL _ _) (by simp; omega) (fun g hg => (by obtain ⟨g', h1, h2⟩ := List.mem_map.1 hg; subst h2; have := hsm g' h1; exact ⟨norm_ok (hall g' h1), by show g'.zs.length ≤ _; omega, by show g'.s.length ≤ _; omega⟩)); rw [run_norm] at RUN; have NW := new pt eo mi; have NR := rnew pt eo mi; have inl2 : True := trivial))))
    | (exact i1)
    | (refine ⟨(0 : Nat), Nat.zero_le _, hp, rfl⟩)
    | (have := inl; refine ⟨(k + 1 : Nat), by omega, hbd2, ?_⟩)
    | (have := inl3; refine ⟨(k + 1 : Nat), by omega, by rw [ht, hq]; exact hbd, ?_⟩)
    | (refine And.intro ?_ ?_)
    | (intro hx; have hprop := (show ∀ (p : Prop), p → True from fun _ _ => True.intro) _ hx; clear hprop; first | (cases hx; done) | (exfalso; revert hx; simp (disch := omega) only [decide_eq_true_eq, decide_eq_false_iff_not, Bool.not_eq_true', Bool.not_eq_false', Bool.and_eq_true, Bool.and_eq_false_iff, Int.not_lt, Int.not_le, ne_eq, not_false_eq_true, not_true_eq_false, reduceCtorEq, Bool.true_eq_false, Bool.false_eq_true, beq_iff_eq, bne_iff_ne, beq_eq_false_iff_ne, false_or, or_false, true_and, and_true, e1, s1, hL.lenT, List.length_map, app_ofL, lst_ofL, ch8]; done) | (simp (disch := omega) only [decide_eq_true_eq, decide_eq_false_iff_not, Bool.not_eq_true', Bool.not_eq_false', Bool.and_eq_true, Bool.and_eq_false_iff, Int.not_lt, Int.not_le, ne_eq, not_false_eq_true, not_true_eq_false, reduceCtorEq, Bool.true_eq_false, Bool.false_eq_true, beq_iff_eq, bne_iff_ne, beq_eq_false_iff_ne, false_or, or_false, true_and, and_true, e1, s1, hL.lenT, List.length_map, app_ofL, lst_ofL, ch8] at hx; first | (exfalso; omega) | skip) | skip)
    | trivial
    | exact fit_ofL _ _
    | (simp (disch := omega) only [notAgg_v, notAgg_sl, plain_v, fits, fitsOne, fitsCells, xsOf, cell_zero, cell_succ, List.range, List.range.loop, List.map, cond_true, cond_false, D.v.injEq, exists_eq', exists_eq, and_self, and_true, true_and, D.agg.injEq, List.length, exists_eq_left', D.sl.injEq, reduceCtorEq, false_or, true_or, or_true, or_false, cell_zero, cell_succ, cell_v, cells_v, cells_agg, List.length_cons, List.length_nil, e1, s1, hL.lenT, List.length_map, app_ofL, lst_ofL, ch8]; done))
  all_goals first
    | (exfalso; omega)
    | omega
    | rfl
    | exact fit_ofL _ _
    | exact str_v _
    | exact ⟨_, rfl⟩
    | exact plainP _
    | exact plain_v _
    | (simp only [leftN]; omega)
    | (simp only [prs_len, List.length_cons, List.length_nil, List.length_take]; omega)
    | (rw [s1]; first | done | rfl)
    | exact .inl rfl
    | (simp only [List.length_map, List.length_take, List.length_cons, List.length_nil]; omega)
    | (rw [ht, hq]; rfl)
    | (simp; done)
    | fail

set_option maxHeartbeats 4000000 in
theorem runsM (p : Int × Int) (pt eo mi : Int) (y : D) (l : List Sg) (hp : Bd p) (m0 : 0 ≤ mi) (m1 : mi < 4294967296) (hL : IsL 8 (l.map sgD) y) (hall : ∀ g ∈ l, SgOk g) (hlt : lightF l = false) : PureD Try.prog 3 [.agg [.v (.int .u8 p.1), .v (.int .i64 pt), .v (.int .i64 eo), .v (.int .u32 mi), .v (.int .u32 p.2)], y] [.v (.bool true)] := by
  refine pure_cond (Lp := (fun k => if k = 6 then some ⟨[8], [7], [1, 2, 5, 6], [(5, [0, 1, 2, 3, 4], []), (6, [0, 1, 2, 3, 4], [])]⟩ else none)) (by kernel_rfl) Try.func3 (by kernel_rfl) (by kernel_rfl) ?_
  rw [vc_runsS p pt eo mi y l]
  have LT : PureD Try.prog 7 [y] [.v (.bool false)] := by
    rw [← hlt]
    by_cases h : l.length ≤ 40
    · exact lightS y l hL hall h
    · exact lightM y l hL hall h
  simp only [hL.lenT, hL.notAgg, List.length_map, Option.some.injEq, exists_eq_left']
  have e1 : True := trivial
  have s1 : True := trivial
  repeat' (first
    | (refine ex_some (by simp (disch := omega) only [bin_shr, bin_shl, bin_and, bin_or, bin_xor, len_str, toStr_ofL, bin_add, bin_sub, bin_mul, bin_quo, bin_rem, bin_lss, bin_leq, bin_gtr, bin_geq, bin_eql, bin_neq, eqs_cn, eqs_ci, eqs_cb, eqs_cs, Option.map_some, lenT_ofL, lst_ofL, lstSz_ofL, chunk_one, lst_nil, lst_sl, lstSz_sl, lstSz_nil, Bool.and_true, Bool.true_and, Bool.and_false, Bool.false_and, beq_self_eq_true, beq_bb, bne_bb, un_not, un_neg, conv_int, min2_int, max2_int, w64, w32, wu8, wu16, wu32, wu64, tdiv_nn, tmod_nn, cell_zero, cell_succ, cell_v, cells_v, cells_agg, Bool.not_true, Bool.not_false, Int.reduceLT, Int.reduceLE, Int.reduceEq, Int.reduceNeg, Int.reduceAdd, Int.reduceSub, Int.reduceMul, intOf_v, decide_true, decide_false, e1, hL.lenT, List.length_map]; rfl) ?_)
    | (refine ex_bool ?_)
    | (refine ⟨_, awake, ?_⟩)
    | (refine ⟨_, LT, ?_⟩)
    | (refine And.intro ?_ ?_)
    | (intro hx; have hprop := (show ∀ (p : Prop), p → True from fun _ _ => True.intro) _ hx; clear hprop; first | (cases hx; done) | (exfalso; revert hx; simp (disch := omega) only [decide_eq_true_eq, decide_eq_false_iff_not, Bool.not_eq_true', Bool.not_eq_false', Bool.and_eq_true, Bool.and_eq_false_iff, Int.not_lt, Int.not_le, ne_eq, not_false_eq_true, not_true_eq_false, reduceCtorEq, Bool.true_eq_false, Bool.false_eq_true, beq_iff_eq, bne_iff_ne, beq_eq_false_iff_ne, false_or, or_false, true_and, and_true, e1, hL.lenT, List.length_map]; done) | (simp (disch := omega) only [decide_eq_true_eq, decide_eq_false_iff_not, Bool.not_eq_true', Bool.not_eq_false', Bool.and_eq_true, Bool.and_eq_false_iff, Int.not_lt, Int.not_le, ne_eq, not_false_eq_true, not_true_eq_false, reduceCtorEq, Bool.true_eq_false, Bool.false_eq_true, beq_iff_eq, bne_iff_ne, beq_eq_false_iff_ne, false_or, or_false, true_and, and_true, e1, hL.lenT, List.length_map] at hx; first | (exfalso; omega) | skip) | skip)
    | trivial
    | exact fit_ofL _ _
    | (simp (disch := omega) only [notAgg_v, notAgg_sl, plain_v, fits, fitsOne, fitsCells, xsOf, cell_zero, cell_succ, List.range, List.range.loop, List.map, cond_true, cond_false, D.v.injEq, exists_eq', exists_eq, and_self, and_true, true_and, D.agg.injEq, List.length, exists_eq_left', D.sl.injEq, reduceCtorEq, false_or, true_or, or_true, or_false, cell_zero, cell_succ, cell_v, cells_v, cells_agg, List.length_cons, List.length_nil, e1, hL.lenT, List.length_map]; done))
  all_goals first
    | (exfalso; omega)
    | omega
    | rfl
    | exact fit_ofL _ _
    | exact str_v _
    | exact ⟨_, rfl⟩
    | exact plainP _
    | exact plain_v _
    | (simp only [leftN]; omega)
    | (simp only [prs_len, List.length_cons, List.length_nil, List.length_take]; omega)
    | (rw [s1]; first | done | rfl)
    | exact .inl rfl
    | (simp only [List.length_map, List.length_take, List.length_cons, List.length_nil]; omega)
    | (rw [ht, hq]; rfl)
    | (simp; done)
    | fail


theorem law_ShakeRuns (xs : List D) (h : All2 TypedA [(true, [.int .u8, .int .i64, .int .i64, .int .u32, .int .u32]), (false, [.sl true [.int .u8, .int .i64, .int .i64, .int .u32, .int .u32, .int .i64, .sl true [.int .u32, .int .u32], .str]])] xs) : PureD Try.prog 3 xs [.v (.bool true)] := by
  obtain ⟨x, xs, rfl, hx, h⟩ := h.cons_
  obtain ⟨y, xs, rfl, hy, h⟩ := h.cons_
  obtain rfl := h.nil_
  obtain ⟨st, pt, eo, mi, he, rfl, hs, ⟨m0, m1⟩, hh⟩ := typed_sh hx
  obtain ⟨l, hL, hall⟩ := typed_sgs hy.one
  cases hlt : lightF l
  · exact runsM (st, he) pt eo mi y l ⟨hs, hh⟩ m0 m1 hL hall hlt
  · exact runsS (st, he) pt eo mi y l ⟨hs, hh⟩ m0 m1 hL hall hlt

end Go.Proofs.Ytbeofckoonophaa