/-
  Layer 12: what every right program does.
-/
import Derived.Test.YtoeefdjomhbnlaaT1
import Derived.Test.YtoeefdjomhbnlaaT2
import Derived.Test.YtoeefdjomhbnlaaT3
import Derived.Test.YtoeefdjomhbnlaaT4
import Derived.Test.YtoeefdjomhbnlaaT5
import Derived.Test.YtoeefdjomhbnlaaT6
import Derived.Test.YtoeefdjomhbnlaaT7
import Derived.Test.YtoeefdjomhbnlaaT8
import Derived.Test.YtoeefdjomhbnlaaT10
import Derived.Test.YtoeefdjomhbnlaaT11
import Derived.Test.YtoeefdjomhbnlaaT13
import Derived.Test.YtoeefdjomhbnlaaT15
import Derived.Test.YtoeefdjomhbnlaaT16
import Derived.Test.YtoeefdjomhbnlaaT17
import Derived.Test.YtoeefdjomhbnlaaT18
namespace Go.Proofs.Ytoeefdjomhbnlaa
open Go.RowKit
set_option linter.unusedSimpArgs false
set_option linter.unusedVariables false


theorem allB_nil : AllB [] := fun _ h => by cases h
theorem bytes_dec {l : List Int} (h : l.all (fun x => decide (0 ≤ x ∧ x < 256)) = true) : Bytes l := fun x hx => by simpa using (List.all_eq_true.1 h) x hx
theorem ok_dec {S : SS} (h : chkF S.b S.r.length S.ps = 0) : S.Ok := chk_ok.1 h
theorem allB_dec {l : List Pt} (h : l.all (fun p => p.2.all (fun x => decide (0 ≤ x ∧ x < 256)) && decide (p.2.length ≤ 100000)) = true) : AllB l := fun p hp => by
  have := (List.all_eq_true.1 h) p hp
  simp only [Bool.and_eq_true, decide_eq_true_eq] at this
  exact ⟨bytes_dec this.1, this.2⟩

theorem vc_awake  : Cond Try.prog (fun _ => none) Try.f9 [] [.v (.bool true)] = (True ∧ ∃ (r : D), PureD Try.prog 30 [] [r] ∧ fits [(true, [none, none, some 2])] [r] ∧ ∃ (r_1 : D), ∃ (r_2 : D), ReadD Try.prog 11 [D.agg [r.cell 0, r.cell 1, r.cell 2], D.v (Value.int IntKind.i64 2), D.v (Value.string { data := { toList := [99, 100] } })] [r_1, r_2] ∧ ((∃ (cs : List D), r_1 = D.agg cs ∧ cs.length = [none, none, some 2].length) ∧ NotAgg r_2 ∧ True) ∧ ∃ (r : D), ∃ (r_3 : D), ReadD Try.prog 11 [D.agg [r_1.cell 0, r_1.cell 1, r_1.cell 2], D.v (Value.int IntKind.i64 0), D.v (Value.string { data := { toList := [97, 98, 88] } })] [r, r_3] ∧ ((∃ (cs : List D), r = D.agg cs ∧ cs.length = [none, none, some 2].length) ∧ NotAgg r_3 ∧ True) ∧ ∃ (r_4 : D), ∃ (r_5 : D), PureD Try.prog 13 [D.agg [r.cell 0, r.cell 1, r.cell 2], D.v (Value.int IntKind.i64 3)] [r_4, r_5] ∧ fits [(true, [none, none, some 2]), (false, [none])] [r_4, r_5] ∧ ∃ (r_6 : D), D.bin BinOp.eql r_2 (D.v (Value.int IntKind.i64 2)) = some r_6 ∧ ∃ (b : Bool), r_6 = D.v (Value.bool b) ∧ (b = true → ∃ (r_7 : D), D.bin BinOp.eql r_3 (D.v (Value.int IntKind.i64 2)) = some r_7 ∧ ∃ (b : Bool), r_7 = D.v (Value.bool b) ∧ (b = true → ∃ (r_8 : D), D.lenT (TypeDesc.slice 70) (r_1.cell 2) = some r_8 ∧ ∃ (r_9 : D), D.bin BinOp.eql r_8 (D.v (Value.int IntKind.i64 1)) = some r_9 ∧ ∃ (b : Bool), r_9 = D.v (Value.bool b) ∧ (b = true → D.inb 2 (r_1.cell 2) (D.v (Value.int IntKind.i64 0)) ∧ 0 + 2 ≤ ((r_1.cell 2).at_ (D.v (Value.int IntKind.i64 0))).cells.length ∧ ∃ (r_10 : Bool), eqs [EqK.i, EqK.s] [((r_1.cell 2).at_ (D.v (Value.int IntKind.i64 0))).cell (0 + 0), ((r_1.cell 2).at_ (D.v (Value.int IntKind.i64 0))).cell (0 + 1)] [D.v (Value.int IntKind.i64 2), D.v (Value.string { data := { toList := [99, 100] } })] = some r_10 ∧ ∃ (b : Bool), D.v (Value.bool r_10) = D.v (Value.bool b) ∧ (b = true → ∃ (r_11 : D), PureD Try.prog 22 [D.agg [r_1.cell 0, r_1.cell 1, r_1.cell 2]] [r_11] ∧ fits [(false, [some 2])] [r_11] ∧ ∃ (r_12 : D), PureD Try.prog 21 [r_11] [r_12] ∧ fits [(false, [some 2])] [r_12] ∧ ∃ (r_13 : D), PureD Try.prog 20 [r_12, D.sl 2 (chunks true 2 1 [D.v (Value.int IntKind.i64 2), D.v (Value.int IntKind.i64 4)])] [r_13] ∧ fits [(false, [none])] [r_13] ∧ ∃ (b : Bool), r_13 = D.v (Value.bool b) ∧ (b = true → ∃ (r_14 : D), D.bin BinOp.eql (r.cell 0) (D.v (Value.int IntKind.i64 4)) = some r_14 ∧ ∃ (b : Bool), r_14 = D.v (Value.bool b) ∧ (b = true → ∃ (r_15 : D), D.bin BinOp.eql (r.cell 1) (D.v (Value.string { data := { toList := [97, 98, 99, 100] } })) = some r_15 ∧ ∃ (b : Bool), r_15 = D.v (Value.bool b) ∧ (b = true → ∃ (r_16 : D), D.bin BinOp.eql r_5 (D.v (Value.string { data := { toList := [97, 98, 99] } })) = some r_16 ∧ ∃ (b : Bool), r_16 = D.v (Value.bool b) ∧ (b = true → ∃ (r_17 : D), PureD Try.prog 26 [D.agg [r_4.cell 0, r_4.cell 1, r_4.cell 2]] [r_17] ∧ fits [(false, [none])] [r_17] ∧ ∃ (r_18 : D), D.bin BinOp.eql r_17 (D.v (Value.int IntKind.i64 4099)) = some r_18 ∧ ∃ (b : Bool), r_18 = D.v (Value.bool b) ∧ (b = true → ∃ (r_19 : D), PureD Try.prog 28 [D.agg [r_4.cell 0, r_4.cell 1, r_4.cell 2]] [r_19] ∧ fits [(false, [none])] [r_19] ∧ ∃ (r_20 : D), D.bin BinOp.eql r_19 (D.v (Value.int IntKind.i64 1)) = some r_20 ∧ ∃ (b : Bool), r_20 = D.v (Value.bool b) ∧ (b = true → ∃ (r_21 : D), PureD Try.prog 17 [D.agg [r_4.cell 0, r_4.cell 1, r_4.cell 2]] [r_21] ∧ fits [(false, [none])] [r_21] ∧ ∃ (r_22 : D), D.bin BinOp.eql r_21 (D.v (Value.int IntKind.i64 0)) = some r_22 ∧ ∃ (b : Bool), r_22 = D.v (Value.bool b) ∧ (b = true → ∃ (r_23 : D), PureD Try.prog 24 [D.agg [r_1.cell 0, r_1.cell 1, r_1.cell 2], D.v (Value.int IntKind.i64 0)] [r_23] ∧ fits [(false, [some 2])] [r_23] ∧ ∃ (r_24 : D), D.lenT (TypeDesc.slice 80) r_23 = some r_24 ∧ ∃ (r_25 : D), D.bin BinOp.eql r_24 (D.v (Value.int IntKind.i64 0)) = some r_25 ∧ ∃ (b : Bool), r_25 = D.v (Value.bool b) ∧ (b = true → ∃ (r_26 : D), PureD Try.prog 19 [D.agg [r_1.cell 0, r_1.cell 1, r_1.cell 2], D.agg [r_1.cell 0, r_1.cell 1, r_1.cell 2]] [r_26] ∧ fits [(false, [none])] [r_26] ∧ ∃ (b : Bool), r_26 = D.v (Value.bool b) ∧ (b = true → ∃ (r_27 : D), PureD Try.prog 19 [D.agg [r_1.cell 0, r_1.cell 1, r_1.cell 2], D.agg [r.cell 0, r.cell 1, r.cell 2]] [r_27] ∧ fits [(false, [none])] [r_27] ∧ ∃ (r : D), D.un UnOp.not r_27 = some r ∧ ∃ (b : Bool), r = D.v (Value.bool b) ∧ (b = true → ∃ (r : D), PureD Try.prog 17 [D.agg [D.v (Value.int IntKind.i64 0), D.v (Value.string { data := { toList := [] } }), D.sl 2 (chunks true 2 1 [D.v (Value.int IntKind.i64 0), D.v (Value.string { data := { toList := [] } })])]] [r] ∧ fits [(false, [none])] [r] ∧ ∃ (r_28 : D), D.bin BinOp.eql r (D.v (Value.int IntKind.i64 10)) = some r_28 ∧ ∃ (b : Bool), r_28 = D.v (Value.bool b) ∧ ∃ (b : Bool), r_28 = D.v (Value.bool b) ∧ ∃ (b : Bool), r_28 = D.v (Value.bool b) ∧ ∃ (b : Bool), r_28 = D.v (Value.bool b) ∧ ((∃ (y : Value), r_28 = D.v y) ∧ True) ∧ [r_28] = [D.v (Value.bool true)]) ∧ (b = false → (True ∧ True) ∧ [D.v (Value.bool false)] = [D.v (Value.bool true)])) ∧ (b = false → (True ∧ True) ∧ [D.v (Value.bool false)] = [D.v (Value.bool true)])) ∧ (b = false → (True ∧ True) ∧ [D.v (Value.bool false)] = [D.v (Value.bool true)])) ∧ (b = false → (True ∧ True) ∧ [D.v (Value.bool false)] = [D.v (Value.bool true)])) ∧ (b = false → (True ∧ True) ∧ [D.v (Value.bool false)] = [D.v (Value.bool true)])) ∧ (b = false → (True ∧ True) ∧ [D.v (Value.bool false)] = [D.v (Value.bool true)])) ∧ (b = false → (True ∧ True) ∧ [D.v (Value.bool false)] = [D.v (Value.bool true)])) ∧ (b = false → (True ∧ True) ∧ [D.v (Value.bool false)] = [D.v (Value.bool true)])) ∧ (b = false → (True ∧ True) ∧ [D.v (Value.bool false)] = [D.v (Value.bool true)])) ∧ (b = false → (True ∧ True) ∧ [D.v (Value.bool false)] = [D.v (Value.bool true)])) ∧ (b = false → (True ∧ True) ∧ [D.v (Value.bool false)] = [D.v (Value.bool true)])) ∧ (b = false → (True ∧ True) ∧ [D.v (Value.bool false)] = [D.v (Value.bool true)])) ∧ (b = false → (True ∧ True) ∧ [D.v (Value.bool false)] = [D.v (Value.bool true)])) ∧ (b = false → (True ∧ True) ∧ [D.v (Value.bool false)] = [D.v (Value.bool true)])) := by kernel_rfl
set_option maxHeartbeats 4000000 in
theorem awake   : PureD Try.prog 9 [] [.v (.bool true)] := by
  refine pure_cond (Lp := (fun _ => none)) (by kernel_rfl) Try.func9 (by kernel_rfl) (by kernel_rfl) ?_
  rw [vc_awake]
  have a0 : PureD Try.prog 30 [] [(D.agg [(D.v (Value.int .i64 0)), (D.v (Value.string ⟨#[]⟩)), (D.v (Value.slice none 0 0))])] := new
  have p1 : ReadD Try.prog 11 [(D.agg [(D.v (Value.int .i64 0)), (D.v (Value.string ⟨#[]⟩)), (D.v (Value.slice none 0 0))]), (D.v (Value.int .i64 2)), (D.v (Value.string ⟨#[99, 100]⟩))] [(D.agg [(D.v (Value.int .i64 0)), (D.v (Value.string ⟨#[]⟩)), (D.sl 2 [(D.agg [(D.v (Value.int .i64 2)), (D.v (Value.string ⟨#[99, 100]⟩))])])]), (D.v (Value.int .i64 2))] := put_yes (.v nilS) [] 0 [] [99, 100] 2 0 2 [] _ (.inr ⟨rfl, rfl⟩) allB_nil (by decide) (by decide) (ok_dec (by decide)) (by decide) (by decide) (by decide) (by decide) (by decide) rfl (by decide)
  have p2 : ReadD Try.prog 11 [(D.agg [(D.v (Value.int .i64 0)), (D.v (Value.string ⟨#[]⟩)), (D.sl 2 [(D.agg [(D.v (Value.int .i64 2)), (D.v (Value.string ⟨#[99, 100]⟩))])])]), (D.v (Value.int .i64 0)), (D.v (Value.string ⟨#[97, 98, 88]⟩))] [(D.agg [(D.v (Value.int .i64 4)), (D.v (Value.string ⟨#[97, 98, 99, 100]⟩)), (D.sl 2 [])]), (D.v (Value.int .i64 2))] := put_yes (.sl 2 [ptD (2, [99, 100])]) [(2, [99, 100])] 0 [] [97, 98, 88] 0 4 2 [97, 98, 99, 100] _ (.inl rfl) (allB_dec (by decide)) (by decide) (by decide) (ok_dec (by decide)) (by decide) (by decide) (by decide) (by decide) (by decide) rfl (by decide)
  have r1 : PureD Try.prog 13 [(D.agg [(D.v (Value.int .i64 4)), (D.v (Value.string ⟨#[97, 98, 99, 100]⟩)), (D.sl 2 [])]), (D.v (Value.int .i64 3))] [(D.agg [(D.v (Value.int .i64 4)), (D.v (Value.string ⟨#[100]⟩)), (D.sl 2 [])]), (D.v (Value.string ⟨#[97, 98, 99]⟩))] := read (.sl 2 []) [] 4 [97, 98, 99, 100] 3 (.inl rfl) allB_nil (by decide) (by decide)
  have c1 : PureD Try.prog 22 [(D.agg [(D.v (Value.int .i64 0)), (D.v (Value.string ⟨#[]⟩)), (D.sl 2 [(D.agg [(D.v (Value.int .i64 2)), (D.v (Value.string ⟨#[99, 100]⟩))])])])] [(D.sl 2 [(D.agg [(D.v (Value.int .i64 2)), (D.v (Value.int .i64 4))])])] := came (.sl 2 [ptD (2, [99, 100])]) [(2, [99, 100])] 0 [] (.inl rfl) (allB_dec (by decide)) (by decide) (by decide)
  have b1 : PureD Try.prog 21 [(D.sl 2 [(D.agg [(D.v (Value.int .i64 2)), (D.v (Value.int .i64 4))])])] [(D.sl 2 [(D.agg [(D.v (Value.int .i64 2)), (D.v (Value.int .i64 4))])])] := setBack (.sl 2 [ivD (2, 4)]) [(2, 4)] (.inl rfl) (by decide)
  have q1 : PureD Try.prog 20 [(D.sl 2 [(D.agg [(D.v (Value.int .i64 2)), (D.v (Value.int .i64 4))])]), D.sl 2 (chunks true 2 1 [(D.v (Value.int .i64 2)), (D.v (Value.int .i64 4))])] [(D.v (Value.bool true))] := setSame (.sl 2 [ivD (2, 4)]) (.sl 2 [ivD (2, 4)]) [(2, 4)] [(2, 4)] (.inl rfl) (.inl rfl) (by decide) (by decide)
  have l1 : PureD Try.prog 26 [(D.agg [(D.v (Value.int .i64 4)), (D.v (Value.string ⟨#[100]⟩)), (D.sl 2 [])])] [(D.v (Value.int .i64 4099))] := limit (.sl 2 []) [] 4 [100] (.inl rfl) (by decide) (by decide) (by decide)
  have h1 : PureD Try.prog 28 [(D.agg [(D.v (Value.int .i64 4)), (D.v (Value.string ⟨#[100]⟩)), (D.sl 2 [])])] [(D.v (Value.int .i64 1))] := held (.sl 2 []) [] 4 [100] (.inl rfl) allB_nil (by decide) (by decide)
  have k1 : PureD Try.prog 17 [(D.agg [(D.v (Value.int .i64 4)), (D.v (Value.string ⟨#[100]⟩)), (D.sl 2 [])])] [(D.v (Value.int .i64 0))] := check (.sl 2 []) [] 4 [100] (.inl rfl) allB_nil (by decide) (by decide)
  have bl : PureD Try.prog 24 [(D.agg [(D.v (Value.int .i64 0)), (D.v (Value.string ⟨#[]⟩)), (D.sl 2 [(D.agg [(D.v (Value.int .i64 2)), (D.v (Value.string ⟨#[99, 100]⟩))])])]), (D.v (Value.int .i64 0))] [(D.v (Value.slice none 0 0))] := blocks (.sl 2 [ptD (2, [99, 100])]) [(2, [99, 100])] 0 [] 0 (.inl rfl) (allB_dec (by decide)) (by decide) (by decide)
  have e1 : PureD Try.prog 19 [(D.agg [(D.v (Value.int .i64 0)), (D.v (Value.string ⟨#[]⟩)), (D.sl 2 [(D.agg [(D.v (Value.int .i64 2)), (D.v (Value.string ⟨#[99, 100]⟩))])])]), (D.agg [(D.v (Value.int .i64 0)), (D.v (Value.string ⟨#[]⟩)), (D.sl 2 [(D.agg [(D.v (Value.int .i64 2)), (D.v (Value.string ⟨#[99, 100]⟩))])])])] [(D.v (Value.bool true))] := same (.sl 2 [ptD (2, [99, 100])]) (.sl 2 [ptD (2, [99, 100])]) [(2, [99, 100])] [(2, [99, 100])] 0 0 [] [] (.inl rfl) (.inl rfl) (by decide) (by decide) (allB_dec (by decide)) (allB_dec (by decide)) Bytes.nil Bytes.nil
  have e2 : PureD Try.prog 19 [(D.agg [(D.v (Value.int .i64 0)), (D.v (Value.string ⟨#[]⟩)), (D.sl 2 [(D.agg [(D.v (Value.int .i64 2)), (D.v (Value.string ⟨#[99, 100]⟩))])])]), (D.agg [(D.v (Value.int .i64 4)), (D.v (Value.string ⟨#[97, 98, 99, 100]⟩)), (D.sl 2 [])])] [(D.v (Value.bool false))] := same (.sl 2 [ptD (2, [99, 100])]) (.sl 2 []) [(2, [99, 100])] [] 0 4 [] [97, 98, 99, 100] (.inl rfl) (.inl rfl) (by decide) (by decide) (allB_dec (by decide)) allB_nil Bytes.nil (bytes_dec (by decide))
  have k2 : PureD Try.prog 17 [D.agg [(D.v (Value.int .i64 0)), (D.v (Value.string ⟨#[]⟩)), D.sl 2 (chunks true 2 1 [(D.v (Value.int .i64 0)), (D.v (Value.string ⟨#[]⟩))])]] [(D.v (Value.int .i64 10))] := check (.sl 2 [ptD (0, [])]) [(0, [])] 0 [] (.inl rfl) (allB_dec (by decide)) (by decide) (by decide)
  repeat' (first
    | (refine ⟨_, a0, ?_⟩)
    | (refine ⟨_, _, a0, ?_⟩)
    | (refine ⟨_, _, _, a0, ?_⟩)
    | (refine ⟨_, p1, ?_⟩)
    | (refine ⟨_, _, p1, ?_⟩)
    | (refine ⟨_, _, _, p1, ?_⟩)
    | (refine ⟨_, p2, ?_⟩)
    | (refine ⟨_, _, p2, ?_⟩)
    | (refine ⟨_, _, _, p2, ?_⟩)
    | (refine ⟨_, r1, ?_⟩)
    | (refine ⟨_, _, r1, ?_⟩)
    | (refine ⟨_, _, _, r1, ?_⟩)
    | (refine ⟨_, c1, ?_⟩)
    | (refine ⟨_, _, c1, ?_⟩)
    | (refine ⟨_, _, _, c1, ?_⟩)
    | (refine ⟨_, b1, ?_⟩)
    | (refine ⟨_, _, b1, ?_⟩)
    | (refine ⟨_, _, _, b1, ?_⟩)
    | (refine ⟨_, q1, ?_⟩)
    | (refine ⟨_, _, q1, ?_⟩)
    | (refine ⟨_, _, _, q1, ?_⟩)
    | (refine ⟨_, l1, ?_⟩)
    | (refine ⟨_, _, l1, ?_⟩)
    | (refine ⟨_, _, _, l1, ?_⟩)
    | (refine ⟨_, h1, ?_⟩)
    | (refine ⟨_, _, h1, ?_⟩)
    | (refine ⟨_, _, _, h1, ?_⟩)
    | (refine ⟨_, k1, ?_⟩)
    | (refine ⟨_, _, k1, ?_⟩)
    | (refine ⟨_, _, _, k1, ?_⟩)
    | (refine ⟨_, bl, ?_⟩)
    | (refine ⟨_, _, bl, ?_⟩)
    | (refine ⟨_, _, _, bl, ?_⟩)
    | (refine ⟨_, e1, ?_⟩)
    | (refine ⟨_, _, e1, ?_⟩)
    | (refine ⟨_, _, _, e1, ?_⟩)
    | (refine ⟨_, e2, ?_⟩)
    | (refine ⟨_, _, e2, ?_⟩)
    | (refine ⟨_, _, _, e2, ?_⟩)
    | (refine ⟨_, k2, ?_⟩)
    | (refine ⟨_, _, k2, ?_⟩)
    | (refine ⟨_, _, _, k2, ?_⟩)
    | (refine ⟨_, rfl, ?_⟩)
    | (refine ⟨fun _ => ?_, fun hz => absurd hz (by decide)⟩)
    | (refine ⟨fun hz => absurd hz (by decide), fun _ => ?_⟩)
    | (refine ⟨fun _ => ?_, fun hz => absurd hz (by simp)⟩)
    | (refine ⟨fun hz => absurd hz (by simp), fun _ => ?_⟩)
    | (refine And.intro ?_ ?_)
    | exact True.intro
    | rfl
    | exact ⟨_, rfl⟩
    | exact ⟨_, rfl, rfl⟩
    | exact .inl rfl
    | exact .inr ⟨_, rfl⟩
    | exact notAgg_v _
    | exact notAgg_sl _ _
    | (refine ⟨_, _, _, rfl, rfl, ?_, ?_⟩)
    | (decide)
    | (simp; done)
    | fail)

end Go.Proofs.Ytoeefdjomhbnlaa