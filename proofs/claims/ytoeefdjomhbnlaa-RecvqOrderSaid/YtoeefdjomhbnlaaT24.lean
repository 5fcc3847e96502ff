/-
  Layer 12: the law RecvqOrder.
-/
import Derived.Test.YtoeefdjomhbnlaaT1
import Derived.Test.YtoeefdjomhbnlaaT2
import Derived.Test.YtoeefdjomhbnlaaT3
import Derived.Test.YtoeefdjomhbnlaaT4
import Derived.Test.YtoeefdjomhbnlaaT5
import Derived.Test.YtoeefdjomhbnlaaT6
import Derived.Test.YtoeefdjomhbnlaaT7
import Derived.Test.YtoeefdjomhbnlaaT8
import Derived.Test.YtoeefdjomhbnlaaT10
import Derived.Test.YtoeefdjomhbnlaaT11
import Derived.Test.YtoeefdjomhbnlaaT13
import Derived.Test.YtoeefdjomhbnlaaT15
import Derived.Test.YtoeefdjomhbnlaaT16
import Derived.Test.YtoeefdjomhbnlaaT17
import Derived.Test.YtoeefdjomhbnlaaT18
import Derived.Test.YtoeefdjomhbnlaaT19
import Derived.Test.YtoeefdjomhbnlaaT20
import Derived.Test.YtoeefdjomhbnlaaT21
import Derived.Test.YtoeefdjomhbnlaaT22
import Derived.Test.YtoeefdjomhbnlaaT23
namespace Go.Proofs.Ytoeefdjomhbnlaa
open Go.RowKit
set_option linter.unusedSimpArgs false
set_option linter.unusedVariables false


set_option maxRecDepth 20000
def tx5 (i : Nat) : Int := ((i * 5 + i / 256 : Nat) : Int) % 256
theorem tx5_b (i : Nat) : 0 ≤ tx5 i ∧ tx5 i < 256 := by unfold tx5; omega
def T5 : List Int := txt tx5 512
theorem T5_len : T5.length = 512 := txt_len _ _
theorem T5_b : Bytes T5 := txt_bytes tx5_b
theorem wr5 (i : Nat) : IntKind.u8.wrap ((i : Int) * 5 + (i : Int) / 256) = tx5 i := by
  rw [IntKind.wrap_u8]; unfold tx5; omega
theorem putA_F {S : SS} (h : S.Ok) (v n : Nat) (hv : v < 256) (s : List Int) : putA S v s = putF S v s := putA_ok h (by omega) (by omega) s
theorem pc_b {T : List Int} (h : Bytes T) (v n : Nat) : Bytes (pc T v n) := (h.drop _).take _
theorem nilB : BytesL (SS.mk 0 [] []).ps := fun _ h => by cases h
theorem put_k {S : SS} {x : D} {v n : Nat} {T : List Int} (hX : IsL 2 (S.ps.map ptD) x) (ho : S.Ok) (hB : BytesL S.ps) (hr : Bytes S.r) (hT : Bytes T) (hv : v < 256) (hn : n < 256) (hl : v + n ≤ T.length) :
    ∃ y, IsL 2 ((putF S v (pc T v n)).ps.map ptD) y ∧ (putF S v (pc T v n)).Ok ∧ BytesL (putF S v (pc T v n)).ps ∧ Bytes (putF S v (pc T v n)).r ∧ 0 ≤ ((putF S v (pc T v n)).tot : Int) - S.tot ∧ ((putF S v (pc T v n)).tot : Int) - S.tot ≤ 255 ∧
      ReadD Try.prog 11 [.agg [.v (.int .i64 S.b), str S.r, x], .v (.int .i64 v), str (pc T v n)] [.agg [.v (.int .i64 (putF S v (pc T v n)).b), str (putF S v (pc T v n)).r, y], .v (.int .i64 ((putF S v (pc T v n)).tot - S.tot))] := by
  have hP := ho.all hB
  have hln := ho.len
  have hrl := ho.r
  obtain ⟨y, h1, h2⟩ := put_c (S := S) (x := x) (v := v) (s := pc T v n) hX hP (by omega) (by omega) (by rw [pc_len hl]; omega) (by omega)
  rw [putA_F ho v n hv] at h1 h2
  have hk := putF_bytes ho hB hr (v := v) (pc_b hT v n)
  have ht := (run_put ho v (pc T v n)).2
  have hrn := run_len (pc T v n) S v
  rw [pc_len hl] at hrn
  exact ⟨y, h1, (put_ok ho _ _).ok, hk.1, hk.2, by omega, by omega, h2⟩

theorem vc_order (y : D) (l : List Ac) (a1 a2 a3 b1 b2 b3 : Nat) : Cond Try.prog (fun k => if k = 5 then some ⟨[8], [7], [0, 4, 5], []⟩ else if k = 11 then some ⟨[11], [], [0, 4, 5, 9, 10], [(10, [0, 1], [2])]⟩ else none) Try.f6 [y, .agg [.v (.int .u8 (a1 : Nat)), .v (.int .u8 (a2 : Nat)), .v (.int .u8 (a3 : Nat))], .agg [.v (.int .u8 (b1 : Nat)), .v (.int .u8 (b2 : Nat)), .v (.int .u8 (b3 : Nat))]] [.v (.bool true)] = ((NotAgg y ∧ (∃ (cs : List D), D.agg [D.v (Value.int IntKind.u8 ↑a1), D.v (Value.int IntKind.u8 ↑a2), D.v (Value.int IntKind.u8 ↑a3)] = D.agg cs ∧ cs.length = 3) ∧ (∃ (cs : List D), D.agg [D.v (Value.int IntKind.u8 ↑b1), D.v (Value.int IntKind.u8 ↑b2), D.v (Value.int IntKind.u8 ↑b3)] = D.agg cs ∧ cs.length = 3) ∧ True) ∧ ∃ (r : D), D.lenT (TypeDesc.slice 64) y = some r ∧ ∃ (r_1 : D), D.bin BinOp.gtr r (D.v (Value.int IntKind.i64 60)) = some r_1 ∧ ∃ (b : Bool), r_1 = D.v (Value.bool b) ∧ (b = true → ∃ (r : D), PureD Try.prog 9 [] [r] ∧ fits [(false, [none])] [r] ∧ ((∃ (y : Value), r = D.v y) ∧ True) ∧ [r] = [D.v (Value.bool true)]) ∧ (b = false → ∃ (I : List D → Prop), ∃ (μ : List D → Nat), ((D.v (Value.int IntKind.i64 0) = D.v (Value.int IntKind.i64 0) ∧ (true = true ∧ D.v (Value.int IntKind.i64 (Int.ofNat 0)) = D.v (Value.int IntKind.i64 (Int.ofNat 0)) ∧ true = true ∧ true = true) ∧ y = y ∧ (true = true ∧ true = true) ∧ (true = true ∧ true = true) ∧ True) ∧ ((true = true ∧ zrow 512 (Value.int IntKind.u8 0) = zrow 512 (Value.int IntKind.u8 0)) ∧ (D.v (Value.int IntKind.u8 ↑a1) = D.v (Value.int IntKind.u8 ↑a1) ∧ D.v (Value.int IntKind.u8 ↑a2) = D.v (Value.int IntKind.u8 ↑a2) ∧ D.v (Value.int IntKind.u8 ↑a3) = D.v (Value.int IntKind.u8 ↑a3) ∧ True) ∧ (D.v (Value.int IntKind.u8 ↑b1) = D.v (Value.int IntKind.u8 ↑b1) ∧ D.v (Value.int IntKind.u8 ↑b2) = D.v (Value.int IntKind.u8 ↑b2) ∧ D.v (Value.int IntKind.u8 ↑b3) = D.v (Value.int IntKind.u8 ↑b3) ∧ True) ∧ True) ∧ I [D.v (Value.int IntKind.i64 0), zrow 512 (Value.int IntKind.u8 0)]) ∧ ∀ (r r_2 : D), I [r, r_2] → ∃ (r_3 : D), D.bin BinOp.lss r (D.v (Value.int IntKind.i64 512)) = some r_3 ∧ ∃ (b : Bool), r_3 = D.v (Value.bool b) ∧ (b = true → ∃ (r_4 : D), D.bin BinOp.mul r (D.v (Value.int IntKind.i64 5)) = some r_4 ∧ ∃ (r_5 : D), D.bin BinOp.quo r (D.v (Value.int IntKind.i64 256)) = some r_5 ∧ ∃ (r_6 : D), D.bin BinOp.add r_4 r_5 = some r_6 ∧ ∃ (r_7 : D), D.conv IntKind.u8 r_6 = some r_7 ∧ (∃ (z : Int), r.intOf = some z ∧ 0 ≤ z ∧ z < 512) ∧ D.inb 1 r_2 r ∧ 0 + [r_7].length ≤ (r_2.at_ r).cells.length ∧ ((r_2.at_ r).isAgg' = true ∨ [r_7].length = 1) ∧ ∃ (r_8 : D), D.bin BinOp.add r (D.v (Value.int IntKind.i64 1)) = some r_8 ∧ (r_8 = r_8 ∧ (true = true ∧ D.v (Value.int IntKind.i64 (Int.ofNat 0)) = D.v (Value.int IntKind.i64 (Int.ofNat 0)) ∧ true = true ∧ true = true) ∧ y = y ∧ (true = true ∧ true = true) ∧ (true = true ∧ true = true) ∧ True) ∧ ((true = true ∧ r_2.setAt r 0 [r_7] = r_2.setAt r 0 [r_7]) ∧ (D.v (Value.int IntKind.u8 ↑a1) = D.v (Value.int IntKind.u8 ↑a1) ∧ D.v (Value.int IntKind.u8 ↑a2) = D.v (Value.int IntKind.u8 ↑a2) ∧ D.v (Value.int IntKind.u8 ↑a3) = D.v (Value.int IntKind.u8 ↑a3) ∧ True) ∧ (D.v (Value.int IntKind.u8 ↑b1) = D.v (Value.int IntKind.u8 ↑b1) ∧ D.v (Value.int IntKind.u8 ↑b2) = D.v (Value.int IntKind.u8 ↑b2) ∧ D.v (Value.int IntKind.u8 ↑b3) = D.v (Value.int IntKind.u8 ↑b3) ∧ True) ∧ True) ∧ I [r_8, r_2.setAt r 0 [r_7]] ∧ μ [r_8, r_2.setAt r 0 [r_7]] < μ [r, r_2]) ∧ (b = false → (∃ (es : List D), r_2 = D.sl 1 es ∧ es.length = 512) ∧ ∃ (r : D), r_2.toStr = some r ∧ ∃ (r_4 : D), PureD Try.prog 30 [] [r_4] ∧ fits [(true, [none, none, some 2])] [r_4] ∧ ∃ (I : List D → Prop), ∃ (μ : List D → Nat), ((D.v (Value.int IntKind.i64 0) = D.v (Value.int IntKind.i64 0) ∧ y = y ∧ (true = true ∧ true = true) ∧ (true = true ∧ true = true) ∧ r = r ∧ (true = true ∧ true = true) ∧ True) ∧ ((true = true ∧ r_4.cell 2 = r_4.cell 2) ∧ (r_4.cell 0 = r_4.cell 0 ∧ r_4.cell 1 = r_4.cell 1 ∧ true = true ∧ True) ∧ (D.v (Value.int IntKind.u8 ↑a1) = D.v (Value.int IntKind.u8 ↑a1) ∧ D.v (Value.int IntKind.u8 ↑a2) = D.v (Value.int IntKind.u8 ↑a2) ∧ D.v (Value.int IntKind.u8 ↑a3) = D.v (Value.int IntKind.u8 ↑a3) ∧ True) ∧ (D.v (Value.int IntKind.u8 ↑b1) = D.v (Value.int IntKind.u8 ↑b1) ∧ D.v (Value.int IntKind.u8 ↑b2) = D.v (Value.int IntKind.u8 ↑b2) ∧ D.v (Value.int IntKind.u8 ↑b3) = D.v (Value.int IntKind.u8 ↑b3) ∧ True) ∧ True) ∧ I [D.v (Value.int IntKind.i64 0), r_4.cell 0, r_4.cell 1, r_4.cell 2]) ∧ ∀ (r_5 r_6 r_7 r_8 : D), I [r_5, r_6, r_7, r_8] → ∃ (r_9 : D), D.lenT (TypeDesc.slice 64) y = some r_9 ∧ ∃ (r_10 : D), D.bin BinOp.lss r_5 r_9 = some r_10 ∧ ∃ (b : Bool), r_10 = D.v (Value.bool b) ∧ (b = true → D.inb 3 y r_5 ∧ 0 + 1 ≤ (y.at_ r_5).cells.length ∧ ∃ (r_11 : D), D.conv IntKind.i64 ((y.at_ r_5).cell 0) = some r_11 ∧ D.inb 3 y r_5 ∧ 0 + 1 ≤ (y.at_ r_5).cells.length ∧ D.inb 3 y r_5 ∧ 0 + 1 ≤ (y.at_ r_5).cells.length ∧ ∃ (r_12 : D), D.conv IntKind.i64 ((y.at_ r_5).cell 0) = some r_12 ∧ D.inb 3 y r_5 ∧ 0 + 1 + 1 ≤ (y.at_ r_5).cells.length ∧ ∃ (r_13 : D), D.conv IntKind.i64 ((y.at_ r_5).cell (0 + 1)) = some r_13 ∧ ∃ (r_14 : D), D.bin BinOp.add r_12 r_13 = some r_14 ∧ ∃ (r_15 : D), r.cutS (some ((y.at_ r_5).cell 0)) (some r_14) = some r_15 ∧ ∃ (r_16 : D), ∃ (r_17 : D), ReadD Try.prog 11 [D.agg [r_6, r_7, r_8], r_11, r_15] [r_16, r_17] ∧ ((∃ (cs : List D), r_16 = D.agg cs ∧ cs.length = [none, none, some 2].length) ∧ NotAgg r_17 ∧ True) ∧ D.inb 3 y r_5 ∧ 1 + 1 + 1 ≤ (y.at_ r_5).cells.length ∧ ∃ (r_18 : D), D.conv IntKind.i64 ((y.at_ r_5).cell (1 + 1)) = some r_18 ∧ ∃ (r_19 : D), ∃ (r_20 : D), PureD Try.prog 13 [D.agg [r_16.cell 0, r_16.cell 1, r_16.cell 2], r_18] [r_19, r_20] ∧ fits [(true, [none, none, some 2]), (false, [none])] [r_19, r_20] ∧ ∃ (r_21 : D), D.bin BinOp.add r_5 (D.v (Value.int IntKind.i64 1)) = some r_21 ∧ (r_21 = r_21 ∧ y = y ∧ (true = true ∧ true = true) ∧ (true = true ∧ true = true) ∧ r = r ∧ (true = true ∧ true = true) ∧ True) ∧ ((true = true ∧ r_19.cell 2 = r_19.cell 2) ∧ (r_19.cell 0 = r_19.cell 0 ∧ r_19.cell 1 = r_19.cell 1 ∧ true = true ∧ True) ∧ (D.v (Value.int IntKind.u8 ↑a1) = D.v (Value.int IntKind.u8 ↑a1) ∧ D.v (Value.int IntKind.u8 ↑a2) = D.v (Value.int IntKind.u8 ↑a2) ∧ D.v (Value.int IntKind.u8 ↑a3) = D.v (Value.int IntKind.u8 ↑a3) ∧ True) ∧ (D.v (Value.int IntKind.u8 ↑b1) = D.v (Value.int IntKind.u8 ↑b1) ∧ D.v (Value.int IntKind.u8 ↑b2) = D.v (Value.int IntKind.u8 ↑b2) ∧ D.v (Value.int IntKind.u8 ↑b3) = D.v (Value.int IntKind.u8 ↑b3) ∧ True) ∧ True) ∧ I [r_21, r_19.cell 0, r_19.cell 1, r_19.cell 2] ∧ μ [r_21, r_19.cell 0, r_19.cell 1, r_19.cell 2] < μ [r_5, r_6, r_7, r_8]) ∧ (b = false → ∃ (r_11 : D), D.conv IntKind.i64 (D.v (Value.int IntKind.u8 ↑a1)) = some r_11 ∧ ∃ (r_12 : D), D.conv IntKind.i64 (D.v (Value.int IntKind.u8 ↑a2)) = some r_12 ∧ ∃ (r_13 : D), D.bin BinOp.add r_11 r_12 = some r_13 ∧ ∃ (r_14 : D), r.cutS (some (D.v (Value.int IntKind.u8 ↑a1))) (some r_13) = some r_14 ∧ ∃ (r_15 : D), D.conv IntKind.i64 (D.v (Value.int IntKind.u8 ↑b1)) = some r_15 ∧ ∃ (r_16 : D), D.conv IntKind.i64 (D.v (Value.int IntKind.u8 ↑b2)) = some r_16 ∧ ∃ (r_17 : D), D.bin BinOp.add r_15 r_16 = some r_17 ∧ ∃ (r_18 : D), r.cutS (some (D.v (Value.int IntKind.u8 ↑b1))) (some r_17) = some r_18 ∧ ∃ (r : D), D.conv IntKind.i64 (D.v (Value.int IntKind.u8 ↑a1)) = some r ∧ ∃ (r_19 : D), ∃ (r_20 : D), ReadD Try.prog 11 [D.agg [r_6, r_7, r_8], r, r_14] [r_19, r_20] ∧ ((∃ (cs : List D), r_19 = D.agg cs ∧ cs.length = [none, none, some 2].length) ∧ NotAgg r_20 ∧ True) ∧ ∃ (r : D), D.conv IntKind.i64 (D.v (Value.int IntKind.u8 ↑b1)) = some r ∧ ∃ (r_21 : D), ∃ (r_22 : D), ReadD Try.prog 11 [D.agg [r_19.cell 0, r_19.cell 1, r_19.cell 2], r, r_18] [r_21, r_22] ∧ ((∃ (cs : List D), r_21 = D.agg cs ∧ cs.length = [none, none, some 2].length) ∧ NotAgg r_22 ∧ True) ∧ ∃ (r : D), D.conv IntKind.i64 (D.v (Value.int IntKind.u8 ↑b1)) = some r ∧ ∃ (r_23 : D), ∃ (r_24 : D), ReadD Try.prog 11 [D.agg [r_6, r_7, r_8], r, r_18] [r_23, r_24] ∧ ((∃ (cs : List D), r_23 = D.agg cs ∧ cs.length = [none, none, some 2].length) ∧ NotAgg r_24 ∧ True) ∧ ∃ (r : D), D.conv IntKind.i64 (D.v (Value.int IntKind.u8 ↑a1)) = some r ∧ ∃ (r_25 : D), ∃ (r_26 : D), ReadD Try.prog 11 [D.agg [r_23.cell 0, r_23.cell 1, r_23.cell 2], r, r_14] [r_25, r_26] ∧ ((∃ (cs : List D), r_25 = D.agg cs ∧ cs.length = [none, none, some 2].length) ∧ NotAgg r_26 ∧ True) ∧ ∃ (r : D), D.conv IntKind.i64 (D.v (Value.int IntKind.u8 ↑b1)) = some r ∧ ∃ (r_27 : D), ∃ (r_28 : D), ReadD Try.prog 11 [D.agg [r_25.cell 0, r_25.cell 1, r_25.cell 2], r, r_18] [r_27, r_28] ∧ ((∃ (cs : List D), r_27 = D.agg cs ∧ cs.length = [none, none, some 2].length) ∧ NotAgg r_28 ∧ True) ∧ ∃ (r : D), PureD Try.prog 19 [D.agg [r_21.cell 0, r_21.cell 1, r_21.cell 2], D.agg [r_25.cell 0, r_25.cell 1, r_25.cell 2]] [r] ∧ fits [(false, [none])] [r] ∧ ∃ (b : Bool), r = D.v (Value.bool b) ∧ (b = true → ∃ (r : D), D.bin BinOp.add r_20 r_22 = some r ∧ ∃ (r_29 : D), D.bin BinOp.add r_24 r_26 = some r_29 ∧ ∃ (r_30 : D), D.bin BinOp.eql r r_29 = some r_30 ∧ ∃ (b : Bool), r_30 = D.v (Value.bool b) ∧ (b = true → ∃ (r : D), D.bin BinOp.eql r_28 (D.v (Value.int IntKind.i64 0)) = some r ∧ ∃ (b : Bool), r = D.v (Value.bool b) ∧ (b = true → ∃ (r : D), PureD Try.prog 19 [D.agg [r_27.cell 0, r_27.cell 1, r_27.cell 2], D.agg [r_25.cell 0, r_25.cell 1, r_25.cell 2]] [r] ∧ fits [(false, [none])] [r] ∧ ∃ (b : Bool), r = D.v (Value.bool b) ∧ (b = true → ∃ (r : D), PureD Try.prog 9 [] [r] ∧ fits [(false, [none])] [r] ∧ ((∃ (y : Value), r = D.v y) ∧ True) ∧ [r] = [D.v (Value.bool true)]) ∧ (b = false → (True ∧ True) ∧ [D.v (Value.bool false)] = [D.v (Value.bool true)])) ∧ (b = false → (True ∧ True) ∧ [D.v (Value.bool false)] = [D.v (Value.bool true)])) ∧ (b = false → (True ∧ True) ∧ [D.v (Value.bool false)] = [D.v (Value.bool true)])) ∧ (b = false → (True ∧ True) ∧ [D.v (Value.bool false)] = [D.v (Value.bool true)]))))) := by kernel_rfl
set_option maxHeartbeats 16000000 in
theorem order (y : D) (l : List Ac) (a1 a2 a3 b1 b2 b3 : Nat) (hY : IsL 3 (l.map acD) y) (hB : ∀ a ∈ l, AcB a) (ha1 : a1 < 256) (ha2 : a2 < 256) (hb1 : b1 < 256) (hb2 : b2 < 256) : PureD Try.prog 6 [y, .agg [.v (.int .u8 (a1 : Nat)), .v (.int .u8 (a2 : Nat)), .v (.int .u8 (a3 : Nat))], .agg [.v (.int .u8 (b1 : Nat)), .v (.int .u8 (b2 : Nat)), .v (.int .u8 (b3 : Nat))]] [.v (.bool true)] := by
  refine pure_cond (Lp := (fun k => if k = 5 then some ⟨[8], [7], [0, 4, 5], []⟩ else if k = 11 then some ⟨[11], [], [0, 4, 5, 9, 10], [(10, [0, 1], [2])]⟩ else none)) (by kernel_rfl) Try.func6 (by kernel_rfl) (by kernel_rfl) ?_
  rw [vc_order y l a1 a2 a3 b1 b2 b3]
  have awake := awake
  have NW := new
  have h1 : True := trivial
  have s1 : True := trivial
  have hw : True := trivial
  repeat' (first
    | (refine ex_some (by simp (disch := omega) only [bin_shr, bin_shl, bin_and, bin_or, bin_xor, len_str, toStr_ofL, bin_add, bin_sub, bin_mul, bin_quo, bin_rem, bin_lss, bin_leq, bin_gtr, bin_geq, bin_eql, bin_neq, eqs_cn, eqs_ci, eqs_cb, eqs_cs, Option.map_some, lenT_ofL, lst_ofL, lstSz_ofL, chunk_one, lst_nil, lst_sl, lstSz_sl, lstSz_nil, Bool.and_true, Bool.true_and, Bool.and_false, Bool.false_and, beq_self_eq_true, beq_bb, bne_bb, un_not, un_neg, conv_int, min2_int, max2_int, w64, w32, wu8, wu16, wu32, wu64, tdiv_nn, tmod_nn, cell_zero, cell_succ, cell_v, cells_v, cells_agg, Bool.not_true, Bool.not_false, Int.reduceLT, Int.reduceLE, Int.reduceEq, Int.reduceNeg, Int.reduceAdd, Int.reduceSub, Int.reduceMul, intOf_v, decide_true, decide_false, hY.lenT, List.length_map, h1, s1, hw]; rfl) ?_)
    | (refine ex_bool ?_)
    | (refine ⟨_, awake, ?_⟩)
    | (refine ⟨_, NW, ?_⟩)
    | (exact i1)
    | (exact au_arr hI0.len)
    | (refine ⟨_, ts, ?_⟩)
    | (refine ⟨_, hcut, ?_⟩)
    | (refine ⟨_, cut1, ?_⟩)
    | (refine ⟨_, cut2, ?_⟩)
    | (refine ⟨_, _, P1, ?_⟩)
    | (refine ⟨_, _, P2, ?_⟩)
    | (refine ⟨_, _, P3, ?_⟩)
    | (refine ⟨_, _, P4, ?_⟩)
    | (refine ⟨_, _, P5, ?_⟩)
    | (refine ⟨_, _, R1, ?_⟩)
    | (refine ⟨_, SM1, ?_⟩)
    | (refine ⟨_, SM2, ?_⟩)
    | (have := outA; refine ⟨(fun m => ∃ (i : Nat) (S : SS) (z : D), i ≤ l.length ∧ S.Ok ∧ BytesL S.ps ∧ Bytes S.r ∧ IsL 2 (S.ps.map ptD) z ∧ m = [.v (.int .i64 (i : Nat)), .v (.int .i64 S.b), str S.r, z]), leftG l.length, ?_⟩)
    | (have := outA; refine fun (r5 r6 r9 r10 : D) (hI : (fun m => ∃ (i : Nat) (S : SS) (z : D), i ≤ l.length ∧ S.Ok ∧ BytesL S.ps ∧ Bytes S.r ∧ IsL 2 (S.ps.map ptD) z ∧ m = [.v (.int .i64 (i : Nat)), .v (.int .i64 S.b), str S.r, z]) [r5, r6, r9, r10]) => ?_; obtain ⟨i, S, z, hi, ho, hsb, hrb, hz, hl0⟩ := hI; simp only [List.cons.injEq, and_true] at hl0; obtain ⟨rfl, rfl, rfl, rfl⟩ := hl0; by_cases hlt : i < l.length <;> first | (have hk1 : i < l.length := (by omega); have h1 := ac_get hY hk1; have i1 := ac_inb hY hk1; have hb := ac_b hB hk1; generalize l.getD i (0, 0, 0) = c at h1 hb; obtain ⟨p, q, k⟩ := c; simp only [AcB] at hb; have hcut := pc_cut (T := T5) (v := p) (n := q) (by rw [T5_len]; omega) .u8; obtain ⟨y1, hY1, k1, k2, k3, k4, k5, P1⟩ := put_k hz ho hsb T5_b hb.1 hb.2.1 (by rw [T5_len]; omega) (hr := hrb); have R1 := read y1 _ (putF S p (pc T5 p q)).b (putF S p (pc T5 p q)).r (k : Nat) hY1 (k1.all k2) (by have := k1.len; omega) (by have := k1.r; omega); have K1 := (read_ok k1 (k := (k : Nat)) (by omega)).1; simp only [h1, acD, Nat.zero_add, cell_zero, cell_succ, cells_agg, List.length_cons, List.length_nil]; have inlB : True := trivial) | (have hkk : i = l.length := (by omega); have h1 : True := trivial; have cut1 := pc_cut (T := T5) (v := a1) (n := a2) (by rw [T5_len]; omega) .u8; have cut2 := pc_cut (T := T5) (v := b1) (n := b2) (by rw [T5_len]; omega) .u8; obtain ⟨x1, hX1, k11, k12, k13, k14, k15, P1⟩ := put_k hz ho hsb T5_b ha1 ha2 (by rw [T5_len]; omega) (hr := hrb); obtain ⟨x2, hX2, k21, k22, k23, k24, k25, P2⟩ := put_k hX1 k11 k12 T5_b hb1 hb2 (by rw [T5_len]; omega) (hr := k13); obtain ⟨y1, hY1, k31, k32, k33, k34, k35, P3⟩ := put_k hz ho hsb T5_b hb1 hb2 (by rw [T5_len]; omega) (hr := hrb); obtain ⟨y2, hY2, k41, k42, k43, k44, k45, P4⟩ := put_k hY1 k31 k32 T5_b ha1 ha2 (by rw [T5_len]; omega) (hr := k33); obtain ⟨x3, hX3, k51, k52, k53, k54, k55, P5⟩ := put_k hY2 k41 k42 T5_b hb1 hb2 (by rw [T5_len]; omega) (hr := k43); obtain ⟨c1, c2⟩ := comm ho (v := (a1 : Int)) (w := (b1 : Int)) (s := pc T5 a1 a2) (t := pc T5 b1 b2) (fun p c d => pc_agree (T := T5) (v := a1) (n := a2) (w := b1) (m := b2) p c d); rw [c1] at hX2 k21 k24 k25 P2; rw [c2] at hX3 k51 k54 k55 P5; clear c1 c2; generalize hYe : putF (putF S b1 (pc T5 b1 b2)) a1 (pc T5 a1 a2) = Y at hX2 k21 k24 k25 P2 hY2 k41 k42 k43 k44 k45 P4 hX3 k51 k54 k55 P5; clear hYe; have zz : ((Y.tot : Nat) : Int) - (Y.tot : Nat) = 0 := Int.sub_self _; rw [zz] at P5; have lY := k41.len; have SM1 := same x2 y2 Y.ps Y.ps Y.b Y.b Y.r Y.r hX2 hY2 (by omega) (by omega) (k41.all k42) (k41.all k42) k43 k43; have SM2 := same x3 y2 Y.ps Y.ps Y.b Y.b Y.r Y.r hX3 hY2 (by omega) (by omega) (k41.all k42) (k41.all k42) k43 k43; rw [sameS_self] at SM1 SM2; clear zz; generalize putF S a1 (pc T5 a1 a2) = X1 at *; generalize putF S b1 (pc T5 b1 b2) = Y1 at *; have e1 : ((X1.tot : Nat) : Int) - S.tot + (Y.tot - X1.tot) = (Y.tot : Int) - S.tot := (by omega); have e2 : ((Y1.tot : Nat) : Int) - S.tot + (Y.tot - Y1.tot) = (Y.tot : Int) - S.tot := (by omega); have outB : True := trivial))
    | (refine ⟨(fun l => ∃ (i : Nat) (A : List Int), i ≤ 512 ∧ TxI tx5 512 i A ∧ l = [.v (.int .i64 (i : Nat)), au A]), leftG 512, ?_⟩)
    | (refine fun (r7 r8 : D) (hI : (fun l => ∃ (i : Nat) (A : List Int), i ≤ 512 ∧ TxI tx5 512 i A ∧ l = [.v (.int .i64 (i : Nat)), au A]) [r7, r8]) => ?_; obtain ⟨i, A, hi, hI0, hl0⟩ := hI; simp only [List.cons.injEq, and_true] at hl0; obtain ⟨rfl, rfl⟩ := hl0; by_cases hlt : i < 512 <;> first | (have hk1 : i < 512 := (by omega); have g1 := au_get (A := A) (k := i) (by rw [hI0.len]; omega); have i1 := au_inb (A := A) (k := i) (by rw [hI0.len]; omega); have hst := hI0.step hk1; have s1 := fun v => au_set (A := A) (k := i) (by rw [hI0.len]; omega) v; have hw := wr5 i; simp only [g1]; have h1 : True := trivial; have inlA : True := trivial) | (have hkk : i = 512 := (by omega); subst hkk; have hA := hI0.all; subst hA; have ts := au_str (txt tx5 512); have hw : True := trivial; have s1 : True := trivial; have h1 : True := trivial; have outA : True := trivial))
    | (have := inlB; exact ⟨i + 1, readF (putF S p (pc T5 p q)) (k : Nat), y1, by omega, K1, k2, k3.drop _, hY1, rfl⟩)
    | (have := inlA; exact ⟨i + 1, _, (by omega), hst, (by rw [s1]; rfl)⟩)
    | (have := outA; exact ⟨0, ⟨0, [], []⟩, .v nilS, Nat.zero_le _, ok0, nilB, Bytes.nil, .inr ⟨rfl, rfl⟩, rfl⟩)
    | (exact ⟨0, List.replicate 512 0, Nat.zero_le _, TxI.zero _ _, by rw [← au_zero]; rfl⟩)
    | (refine And.intro ?_ ?_)
    | (intro hx; have hprop := (show ∀ (p : Prop), p → True from fun _ _ => True.intro) _ hx; clear hprop; first | (cases hx; done) | (exfalso; revert hx; simp (disch := omega) only [decide_eq_true_eq, decide_eq_false_iff_not, Bool.not_eq_true', Bool.not_eq_false', Bool.and_eq_true, Bool.and_eq_false_iff, Int.not_lt, Int.not_le, ne_eq, not_false_eq_true, not_true_eq_false, reduceCtorEq, Bool.true_eq_false, Bool.false_eq_true, beq_iff_eq, bne_iff_ne, beq_eq_false_iff_ne, false_or, or_false, true_and, and_true, hY.lenT, List.length_map, h1, s1, hw]; done) | (simp (disch := omega) only [decide_eq_true_eq, decide_eq_false_iff_not, Bool.not_eq_true', Bool.not_eq_false', Bool.and_eq_true, Bool.and_eq_false_iff, Int.not_lt, Int.not_le, ne_eq, not_false_eq_true, not_true_eq_false, reduceCtorEq, Bool.true_eq_false, Bool.false_eq_true, beq_iff_eq, bne_iff_ne, beq_eq_false_iff_ne, false_or, or_false, true_and, and_true, hY.lenT, List.length_map, h1, s1, hw] at hx; first | (exfalso; omega) | skip) | skip)
    | trivial
    | exact fit_ofL _ _
    | (simp (disch := omega) only [notAgg_v, notAgg_sl, plain_v, fits, fitsOne, fitsCells, xsOf, cell_zero, cell_succ, List.range, List.range.loop, List.map, cond_true, cond_false, D.v.injEq, exists_eq', exists_eq, and_self, and_true, true_and, D.agg.injEq, List.length, exists_eq_left', D.sl.injEq, reduceCtorEq, false_or, true_or, or_true, or_false, cell_zero, cell_succ, cell_v, cells_v, cells_agg, List.length_cons, List.length_nil, hY.lenT, List.length_map, h1, s1, hw]; done))
  all_goals first
    | (exfalso; omega)
    | omega
    | exact hY.notAgg
    | exact notAgg_v _
    | exact ⟨_, rfl⟩
    | exact ⟨_, rfl, rfl⟩
    | rfl
    | assumption
    | exact au_arr hI0.len
    | (simp only [leftG]; omega)
    | (rw [h1]; show _ ≤ 3; omega)
    | exact fitP hX1
    | exact fitP hX2
    | exact fitP hX3
    | exact fitP hY1
    | exact fitP hY2
    | exact .inl rfl
    | exact Nat.le_of_ble_eq_true rfl
    | (simp; done)
    | fail


theorem law_RecvqOrder (xs : List D) (h : All2 TypedA [(false, [.sl true [.int .u8, .int .u8, .int .u8]]), (true, [.int .u8, .int .u8, .int .u8]), (true, [.int .u8, .int .u8, .int .u8])] xs) : PureD Try.prog 6 xs [.v (.bool true)] := by
  obtain ⟨x, xs, rfl, hx, h⟩ := h.cons_
  obtain ⟨y, xs, rfl, hy, h⟩ := h.cons_
  obtain ⟨z, xs, rfl, hz, h⟩ := h.cons_
  obtain rfl := h.nil_
  obtain ⟨l, hL, hl⟩ := typed_acs hx.one
  obtain ⟨dy, rfl, ky⟩ := hy.agg
  obtain ⟨dz, rfl, kz⟩ := hz.agg
  obtain ⟨⟨a1, a2, a3⟩, e1, w1⟩ := cells_ac ky
  obtain ⟨⟨b1, b2, b3⟩, e2, w2⟩ := cells_ac kz
  rw [e1, e2]
  exact order x l a1 a2 a3 b1 b2 b3 hL hl w1.1 w1.2.1 w2.1 w2.2.1

end Go.Proofs.Ytoeefdjomhbnlaa