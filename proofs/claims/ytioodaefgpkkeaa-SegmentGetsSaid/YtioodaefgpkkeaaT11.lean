/-
  Layer 7: a segment is read, by the document.
-/
import Derived.Test.YtioodaefgpkkeaaT1
import Derived.Test.YtioodaefgpkkeaaT2
import Derived.Test.YtioodaefgpkkeaaT3
import Derived.Test.YtioodaefgpkkeaaT4
import Derived.Test.YtioodaefgpkkeaaT5
import Derived.Test.YtioodaefgpkkeaaT6
import Derived.Test.YtioodaefgpkkeaaT7
import Derived.Test.YtioodaefgpkkeaaT8
import Derived.Test.YtioodaefgpkkeaaT9
import Derived.Test.YtioodaefgpkkeaaT10
namespace Go.Proofs.Ytioodaefgpkkeaa
open Go.RowKit
set_option linter.unusedSimpArgs false
set_option linter.unusedVariables false


set_option maxHeartbeats 16000000
def cK (t : List Int) : Nat → Int × Int
  | 0 => (0, 0)
  | 1 => (g1 t).1
  | 2 => (g2 t).1
  | 3 => (g3 t).1
  | 4 => (g4 t).1
  | 5 => (g5 t).1
  | 6 => (g6 t).1
  | _ => (g7 t).1
def nK (t : List Int) : Nat → List Int
  | 0 => []
  | 1 => [(vN (g1 t).2)]
  | 2 => [(vN (g1 t).2), (vN (g2 t).2)]
  | 3 => [(vN (g1 t).2), (vN (g2 t).2), (vN (g3 t).2)]
  | 4 => [(vN (g1 t).2), (vN (g2 t).2), (vN (g3 t).2), (vN (g4 t).2)]
  | 5 => [(vN (g1 t).2), (vN (g2 t).2), (vN (g3 t).2), (vN (g4 t).2), (vN (g5 t).2)]
  | 6 => [(vN (g1 t).2), (vN (g2 t).2), (vN (g3 t).2), (vN (g4 t).2), (vN (g5 t).2), (vN (g6 t).2)]
  | _ => [(vN (g1 t).2), (vN (g2 t).2), (vN (g3 t).2), (vN (g4 t).2), (vN (g5 t).2), (vN (g6 t).2), (vN (g7 t).2)]

theorem at7_0 (a b c d e f g : Int) : (ofL 1 (ints .i64 [a, b, c, d, e, f, g])).at_ (.v (.int .i64 0)) = .v (.int .i64 a) := rfl
theorem at7_1 (a b c d e f g : Int) : (ofL 1 (ints .i64 [a, b, c, d, e, f, g])).at_ (.v (.int .i64 1)) = .v (.int .i64 b) := rfl
theorem at7_2 (a b c d e f g : Int) : (ofL 1 (ints .i64 [a, b, c, d, e, f, g])).at_ (.v (.int .i64 2)) = .v (.int .i64 c) := rfl
theorem at7_3 (a b c d e f g : Int) : (ofL 1 (ints .i64 [a, b, c, d, e, f, g])).at_ (.v (.int .i64 3)) = .v (.int .i64 d) := rfl
theorem at7_4 (a b c d e f g : Int) : (ofL 1 (ints .i64 [a, b, c, d, e, f, g])).at_ (.v (.int .i64 4)) = .v (.int .i64 e) := rfl
theorem at7_5 (a b c d e f g : Int) : (ofL 1 (ints .i64 [a, b, c, d, e, f, g])).at_ (.v (.int .i64 5)) = .v (.int .i64 f) := rfl
theorem at7_6 (a b c d e f g : Int) : (ofL 1 (ints .i64 [a, b, c, d, e, f, g])).at_ (.v (.int .i64 6)) = .v (.int .i64 g) := rfl
theorem wu8m (x : Int) : IntKind.u8.wrap x = x % 256 := rfl
theorem nb_bad {l : List Int} {p : Int × Int} (h : p.2 ≠ 0) (n : Int) : nb l p n = (p, []) := by unfold nb cuF; rw [if_pos h]
theorem rb_stuck {l : List Int} {p : Int × Int} {k : Nat} (h : (rbF l k p).1.2 ≠ 0) : ∀ j, (rbF l (k + j) p).1 = (rbF l k p).1
  | 0 => rfl
  | j + 1 => by
    have ih := rb_stuck h j
    show (blk1 l (rbF l (k + j) p).1).1 = _
    rw [ih]
    unfold blk1
    rw [nb_bad h, nb_bad h]
theorem gb_of {t : List Int} {k : Nat} (hk : k ≤ (vN (g7 t).2).toNat) (h : ¬ (k < (vN (g7 t).2).toNat ∧ (rbF t k (g7 t).1).1.2 = 0)) : (rbF t k (g7 t).1).1 = (gb t).1 ∧ (gD t = 0 → k = (vN (g7 t).2).toNat) := by
  by_cases he : (rbF t k (g7 t).1).1.2 = 0
  · have : k = (vN (g7 t).2).toNat := by omega
    subst this
    exact ⟨rfl, fun _ => rfl⟩
  · have h1 : (gb t).1 = (rbF t k (g7 t).1).1 := by
      have := rb_stuck he ((vN (g7 t).2).toNat - k)
      rw [show k + ((vN (g7 t).2).toNat - k) = (vN (g7 t).2).toNat by omega] at this
      exact this
    refine ⟨h1.symm, fun hd => ?_⟩
    exfalso
    rw [← h1] at he
    have e8 : g8 t = ((gb t).1, []) := nb_bad he 1
    have e9 : (g9 t).1 = (gb t).1 := by
      show (nb t (g8 t).1 (vN (g8 t).2)).1 = _
      rw [e8, nb_bad he]
    unfold gD doF at hd
    rw [e9, if_pos he] at hd
    exact he hd

theorem vc_rgetD (s : List Int) : Cond Try.prog (fun k => if k = 8 then some ⟨[9], [8], [2, 6, 7], [(6, [0, 1, 2], [])]⟩ else if k = 15 then some ⟨[13], [], [2, 6, 8, 12], [(6, [0, 1, 2], []), (12, [0, 1, 2, 3, 4, 5, 7], [6])]⟩ else none) Try.f20 [str s] [getR s, .v (.int .i64 (getE s))] = ((NotAgg (str s) ∧ True) ∧ ∃ (r : D), ∃ (r_1 : D), PureD Try.prog 36 [str s] [r, r_1] ∧ fits [(false, [none]), (false, [none])] [r, r_1] ∧ ∃ (r_2 : D), D.bin BinOp.neq r_1 (D.v (Value.int IntKind.i64 0)) = some r_2 ∧ ∃ (b : Bool), r_2 = D.v (Value.bool b) ∧ (b = true → (True ∧ True ∧ True ∧ True ∧ True ∧ True ∧ PlainD (D.v nilS) ∧ True ∧ (∃ (y : Value), r_1 = D.v y) ∧ True) ∧ [D.agg [D.v (Value.int IntKind.u8 0), D.v (Value.int IntKind.i64 0), D.v (Value.int IntKind.i64 0), D.v (Value.int IntKind.u32 0), D.v (Value.int IntKind.u32 0), D.v (Value.int IntKind.i64 0), D.v nilS, D.v (Value.string { data := { toList := [] } })], r_1] = [getR s, D.v (Value.int IntKind.i64 (getE s))]) ∧ (b = false → ∃ (r_3 : D), PureD Try.prog 37 [r] [r_3] ∧ fits [(true, [none, none, none])] [r_3] ∧ ∃ (r : D), PureD Try.prog 25 [] [r] ∧ fits [(false, [some 1])] [r] ∧ ∃ (I : List D → Prop), ∃ (μ : List D → Nat), ((D.v (Value.int IntKind.i64 0) = D.v (Value.int IntKind.i64 0) ∧ true = true ∧ (true = true ∧ true = true) ∧ (true = true ∧ true = true) ∧ true = true ∧ True) ∧ ((true = true ∧ D.v nilS = D.v nilS) ∧ (r_3.cell 0 = r_3.cell 0 ∧ r_3.cell 1 = r_3.cell 1 ∧ r_3.cell 2 = r_3.cell 2 ∧ True) ∧ (D.v (Value.int IntKind.u8 0) = D.v (Value.int IntKind.u8 0) ∧ D.v (Value.int IntKind.i64 0) = D.v (Value.int IntKind.i64 0) ∧ D.v (Value.int IntKind.i64 0) = D.v (Value.int IntKind.i64 0) ∧ D.v (Value.int IntKind.u32 0) = D.v (Value.int IntKind.u32 0) ∧ D.v (Value.int IntKind.u32 0) = D.v (Value.int IntKind.u32 0) ∧ D.v (Value.int IntKind.i64 0) = D.v (Value.int IntKind.i64 0) ∧ true = true ∧ D.v (Value.string { data := { toList := [] } }) = D.v (Value.string { data := { toList := [] } }) ∧ True) ∧ (true = true ∧ r = r) ∧ (true = true ∧ D.v (Value.slice none 0 0) = D.v (Value.slice none 0 0)) ∧ True) ∧ I [D.v (Value.int IntKind.i64 0), r_3.cell 0, r_3.cell 1, r_3.cell 2, D.v nilS]) ∧ ∀ (r_4 r_5 r_6 r_7 r_8 : D), I [r_4, r_5, r_6, r_7, r_8] → ∃ (r_9 : D), D.lenT (TypeDesc.slice 3) r = some r_9 ∧ ∃ (r_10 : D), D.bin BinOp.lss r_4 r_9 = some r_10 ∧ ∃ (b : Bool), r_10 = D.v (Value.bool b) ∧ (b = true → D.inb 1 r r_4 ∧ 0 + 1 ≤ (r.at_ r_4).cells.length ∧ ∃ (r_11 : D), ∃ (r_12 : D), PureD Try.prog 38 [D.agg [r_5, r_6, r_7], (r.at_ r_4).cell 0] [r_11, r_12] ∧ fits [(true, [none, none, none]), (false, [none])] [r_11, r_12] ∧ ∃ (ls : List D), r_8.lst = some ls ∧ ∃ (lx : List D), D.lstSz 1 (D.sl 1 (chunks false 1 1 [r_12])) = some lx ∧ (ls.length + lx.length) * 8 ≤ 1099511627776 ∧ ∃ (r_13 : D), D.bin BinOp.add r_4 (D.v (Value.int IntKind.i64 1)) = some r_13 ∧ (r_13 = r_13 ∧ true = true ∧ (true = true ∧ true = true) ∧ (true = true ∧ true = true) ∧ true = true ∧ True) ∧ ((true = true ∧ D.app 1 r_8 lx = D.app 1 r_8 lx) ∧ (r_11.cell 0 = r_11.cell 0 ∧ r_11.cell 1 = r_11.cell 1 ∧ r_11.cell 2 = r_11.cell 2 ∧ True) ∧ (D.v (Value.int IntKind.u8 0) = D.v (Value.int IntKind.u8 0) ∧ D.v (Value.int IntKind.i64 0) = D.v (Value.int IntKind.i64 0) ∧ D.v (Value.int IntKind.i64 0) = D.v (Value.int IntKind.i64 0) ∧ D.v (Value.int IntKind.u32 0) = D.v (Value.int IntKind.u32 0) ∧ D.v (Value.int IntKind.u32 0) = D.v (Value.int IntKind.u32 0) ∧ D.v (Value.int IntKind.i64 0) = D.v (Value.int IntKind.i64 0) ∧ true = true ∧ D.v (Value.string { data := { toList := [] } }) = D.v (Value.string { data := { toList := [] } }) ∧ True) ∧ (true = true ∧ r = r) ∧ (true = true ∧ D.v (Value.slice none 0 0) = D.v (Value.slice none 0 0)) ∧ True) ∧ I [r_13, r_11.cell 0, r_11.cell 1, r_11.cell 2, D.app 1 r_8 lx] ∧ μ [r_13, r_11.cell 0, r_11.cell 1, r_11.cell 2, D.app 1 r_8 lx] < μ [r_4, r_5, r_6, r_7, r_8]) ∧ (b = false → D.inb 1 r_8 (D.v (Value.int IntKind.i64 0)) ∧ 0 + 1 ≤ (r_8.at_ (D.v (Value.int IntKind.i64 0))).cells.length ∧ ∃ (r : D), D.conv IntKind.u8 ((r_8.at_ (D.v (Value.int IntKind.i64 0))).cell 0) = some r ∧ D.inb 1 r_8 (D.v (Value.int IntKind.i64 1)) ∧ 0 + 1 ≤ (r_8.at_ (D.v (Value.int IntKind.i64 1))).cells.length ∧ D.inb 1 r_8 (D.v (Value.int IntKind.i64 2)) ∧ 0 + 1 ≤ (r_8.at_ (D.v (Value.int IntKind.i64 2))).cells.length ∧ D.inb 1 r_8 (D.v (Value.int IntKind.i64 3)) ∧ 0 + 1 ≤ (r_8.at_ (D.v (Value.int IntKind.i64 3))).cells.length ∧ ∃ (r_11 : D), D.conv IntKind.u32 ((r_8.at_ (D.v (Value.int IntKind.i64 3))).cell 0) = some r_11 ∧ D.inb 1 r_8 (D.v (Value.int IntKind.i64 4)) ∧ 0 + 1 ≤ (r_8.at_ (D.v (Value.int IntKind.i64 4))).cells.length ∧ ∃ (r_12 : D), D.conv IntKind.u32 ((r_8.at_ (D.v (Value.int IntKind.i64 4))).cell 0) = some r_12 ∧ D.inb 1 r_8 (D.v (Value.int IntKind.i64 5)) ∧ 0 + 1 ≤ (r_8.at_ (D.v (Value.int IntKind.i64 5))).cells.length ∧ ∃ (I : List D → Prop), ∃ (μ : List D → Nat), ((D.v (Value.int IntKind.i64 0) = D.v (Value.int IntKind.i64 0) ∧ (true = true ∧ true = true) ∧ (true = true ∧ true = true) ∧ true = true ∧ (true = true ∧ true = true) ∧ True) ∧ ((true = true ∧ D.v nilS = D.v nilS) ∧ (r_5 = r_5 ∧ r_6 = r_6 ∧ r_7 = r_7 ∧ True) ∧ (r = r ∧ (r_8.at_ (D.v (Value.int IntKind.i64 1))).cell 0 = (r_8.at_ (D.v (Value.int IntKind.i64 1))).cell 0 ∧ (r_8.at_ (D.v (Value.int IntKind.i64 2))).cell 0 = (r_8.at_ (D.v (Value.int IntKind.i64 2))).cell 0 ∧ r_11 = r_11 ∧ r_12 = r_12 ∧ (r_8.at_ (D.v (Value.int IntKind.i64 5))).cell 0 = (r_8.at_ (D.v (Value.int IntKind.i64 5))).cell 0 ∧ true = true ∧ D.v (Value.string { data := { toList := [] } }) = D.v (Value.string { data := { toList := [] } }) ∧ True) ∧ (D.v (Value.int IntKind.u8 0) = D.v (Value.int IntKind.u8 0) ∧ D.v (Value.int IntKind.i64 0) = D.v (Value.int IntKind.i64 0) ∧ D.v (Value.int IntKind.i64 0) = D.v (Value.int IntKind.i64 0) ∧ D.v (Value.int IntKind.u32 0) = D.v (Value.int IntKind.u32 0) ∧ D.v (Value.int IntKind.u32 0) = D.v (Value.int IntKind.u32 0) ∧ D.v (Value.int IntKind.i64 0) = D.v (Value.int IntKind.i64 0) ∧ true = true ∧ D.v (Value.string { data := { toList := [] } }) = D.v (Value.string { data := { toList := [] } }) ∧ True) ∧ (true = true ∧ r_8 = r_8) ∧ (true = true ∧ D.v (Value.slice none 0 0) = D.v (Value.slice none 0 0)) ∧ True) ∧ I [D.v (Value.int IntKind.i64 0), r_5, r_6, r_7, r, (r_8.at_ (D.v (Value.int IntKind.i64 1))).cell 0, (r_8.at_ (D.v (Value.int IntKind.i64 2))).cell 0, r_11, r_12, (r_8.at_ (D.v (Value.int IntKind.i64 5))).cell 0, D.v (Value.string { data := { toList := [] } }), D.v nilS]) ∧ ∀ (r r_13 r_14 r_15 r_16 r_17 r_18 r_19 r_20 r_21 r_22 r_23 : D), I [r, r_13, r_14, r_15, r_16, r_17, r_18, r_19, r_20, r_21, r_22, r_23] → D.inb 1 r_8 (D.v (Value.int IntKind.i64 6)) ∧ 0 + 1 ≤ (r_8.at_ (D.v (Value.int IntKind.i64 6))).cells.length ∧ ∃ (r_24 : D), D.bin BinOp.lss r ((r_8.at_ (D.v (Value.int IntKind.i64 6))).cell 0) = some r_24 ∧ ∃ (b : Bool), r_24 = D.v (Value.bool b) ∧ (b = true → ∃ (r_25 : D), D.bin BinOp.eql r_15 (D.v (Value.int IntKind.i64 0)) = some r_25 ∧ ∃ (b : Bool), r_25 = D.v (Value.bool b) ∧ (b = true → ∃ (r_26 : D), ∃ (r_27 : D), PureD Try.prog 38 [D.agg [r_13, r_14, r_15], D.v (Value.int IntKind.i64 4)] [r_26, r_27] ∧ fits [(true, [none, none, none]), (false, [none])] [r_26, r_27] ∧ ∃ (r_28 : D), ∃ (r_29 : D), PureD Try.prog 38 [D.agg [r_26.cell 0, r_26.cell 1, r_26.cell 2], D.v (Value.int IntKind.i64 4)] [r_28, r_29] ∧ fits [(true, [none, none, none]), (false, [none])] [r_28, r_29] ∧ ∃ (r_30 : D), D.conv IntKind.u32 r_27 = some r_30 ∧ ∃ (r_31 : D), D.conv IntKind.u32 r_29 = some r_31 ∧ ∃ (ls : List D), r_23.lst = some ls ∧ ∃ (lx : List D), D.lstSz 2 (D.sl 2 (chunks true 2 1 [r_30, r_31])) = some lx ∧ (ls.length + lx.length) * 8 ≤ 1099511627776 ∧ ∃ (r_32 : D), D.bin BinOp.add r (D.v (Value.int IntKind.i64 1)) = some r_32 ∧ (r_32 = r_32 ∧ (true = true ∧ true = true) ∧ (true = true ∧ true = true) ∧ true = true ∧ (true = true ∧ true = true) ∧ True) ∧ ((true = true ∧ D.app 2 r_23 lx = D.app 2 r_23 lx) ∧ (r_28.cell 0 = r_28.cell 0 ∧ r_28.cell 1 = r_28.cell 1 ∧ r_28.cell 2 = r_28.cell 2 ∧ True) ∧ (r_16 = r_16 ∧ r_17 = r_17 ∧ r_18 = r_18 ∧ r_19 = r_19 ∧ r_20 = r_20 ∧ r_21 = r_21 ∧ true = true ∧ r_22 = r_22 ∧ True) ∧ (D.v (Value.int IntKind.u8 0) = D.v (Value.int IntKind.u8 0) ∧ D.v (Value.int IntKind.i64 0) = D.v (Value.int IntKind.i64 0) ∧ D.v (Value.int IntKind.i64 0) = D.v (Value.int IntKind.i64 0) ∧ D.v (Value.int IntKind.u32 0) = D.v (Value.int IntKind.u32 0) ∧ D.v (Value.int IntKind.u32 0) = D.v (Value.int IntKind.u32 0) ∧ D.v (Value.int IntKind.i64 0) = D.v (Value.int IntKind.i64 0) ∧ true = true ∧ D.v (Value.string { data := { toList := [] } }) = D.v (Value.string { data := { toList := [] } }) ∧ True) ∧ (true = true ∧ r_8 = r_8) ∧ (true = true ∧ D.v (Value.slice none 0 0) = D.v (Value.slice none 0 0)) ∧ True) ∧ I [r_32, r_28.cell 0, r_28.cell 1, r_28.cell 2, r_16, r_17, r_18, r_19, r_20, r_21, r_22, D.app 2 r_23 lx] ∧ μ [r_32, r_28.cell 0, r_28.cell 1, r_28.cell 2, r_16, r_17, r_18, r_19, r_20, r_21, r_22, D.app 2 r_23 lx] < μ [r, r_13, r_14, r_15, r_16, r_17, r_18, r_19, r_20, r_21, r_22, r_23]) ∧ (b = false → ∃ (r : D), ∃ (r_26 : D), PureD Try.prog 38 [D.agg [r_13, r_14, r_15], D.v (Value.int IntKind.i64 1)] [r, r_26] ∧ fits [(true, [none, none, none]), (false, [none])] [r, r_26] ∧ ∃ (r_27 : D), ∃ (r_28 : D), PureD Try.prog 39 [D.agg [r.cell 0, r.cell 1, r.cell 2], r_26] [r_27, r_28] ∧ fits [(true, [none, none, none]), (false, [none])] [r_27, r_28] ∧ ∃ (r : D), PureD Try.prog 40 [D.agg [r_27.cell 0, r_27.cell 1, r_27.cell 2]] [r] ∧ fits [(false, [none])] [r] ∧ ∃ (r_29 : D), D.bin BinOp.neq r (D.v (Value.int IntKind.i64 0)) = some r_29 ∧ ∃ (b : Bool), r_29 = D.v (Value.bool b) ∧ (b = true → ∃ (r : D), PureD Try.prog 40 [D.agg [r_27.cell 0, r_27.cell 1, r_27.cell 2]] [r] ∧ fits [(false, [none])] [r] ∧ (True ∧ True ∧ True ∧ True ∧ True ∧ True ∧ PlainD (D.v nilS) ∧ True ∧ (∃ (y : Value), r = D.v y) ∧ True) ∧ [D.agg [D.v (Value.int IntKind.u8 0), D.v (Value.int IntKind.i64 0), D.v (Value.int IntKind.i64 0), D.v (Value.int IntKind.u32 0), D.v (Value.int IntKind.u32 0), D.v (Value.int IntKind.i64 0), D.v nilS, D.v (Value.string { data := { toList := [] } })], r] = [getR s, D.v (Value.int IntKind.i64 (getE s))]) ∧ (b = false → ∃ (r : D), PureD Try.prog 12 [D.agg [r_16, r_17, r_18, r_19, r_20, r_21, r_23, r_28]] [r] ∧ fits [(false, [none])] [r] ∧ ∃ (r_30 : D), D.bin BinOp.neq r (D.v (Value.int IntKind.i64 0)) = some r_30 ∧ ∃ (b : Bool), r_30 = D.v (Value.bool b) ∧ (b = true → ∃ (r : D), PureD Try.prog 12 [D.agg [r_16, r_17, r_18, r_19, r_20, r_21, r_23, r_28]] [r] ∧ fits [(false, [none])] [r] ∧ (True ∧ True ∧ True ∧ True ∧ True ∧ True ∧ PlainD (D.v nilS) ∧ True ∧ (∃ (y : Value), r = D.v y) ∧ True) ∧ [D.agg [D.v (Value.int IntKind.u8 0), D.v (Value.int IntKind.i64 0), D.v (Value.int IntKind.i64 0), D.v (Value.int IntKind.u32 0), D.v (Value.int IntKind.u32 0), D.v (Value.int IntKind.i64 0), D.v nilS, D.v (Value.string { data := { toList := [] } })], r] = [getR s, D.v (Value.int IntKind.i64 (getE s))]) ∧ (b = false → ((∃ (y : Value), r_16 = D.v y) ∧ (∃ (y : Value), r_17 = D.v y) ∧ (∃ (y : Value), r_18 = D.v y) ∧ (∃ (y : Value), r_19 = D.v y) ∧ (∃ (y : Value), r_20 = D.v y) ∧ (∃ (y : Value), r_21 = D.v y) ∧ PlainD r_23 ∧ (∃ (y : Value), r_28 = D.v y) ∧ True ∧ True) ∧ [D.agg [r_16, r_17, r_18, r_19, r_20, r_21, r_23, r_28], D.v (Value.int IntKind.i64 0)] = [getR s, D.v (Value.int IntKind.i64 (getE s))])))) ∧ (b = false → ∃ (r : D), ∃ (r_25 : D), PureD Try.prog 38 [D.agg [r_13, r_14, r_15], D.v (Value.int IntKind.i64 1)] [r, r_25] ∧ fits [(true, [none, none, none]), (false, [none])] [r, r_25] ∧ ∃ (r_26 : D), ∃ (r_27 : D), PureD Try.prog 39 [D.agg [r.cell 0, r.cell 1, r.cell 2], r_25] [r_26, r_27] ∧ fits [(true, [none, none, none]), (false, [none])] [r_26, r_27] ∧ ∃ (r : D), PureD Try.prog 40 [D.agg [r_26.cell 0, r_26.cell 1, r_26.cell 2]] [r] ∧ fits [(false, [none])] [r] ∧ ∃ (r_28 : D), D.bin BinOp.neq r (D.v (Value.int IntKind.i64 0)) = some r_28 ∧ ∃ (b : Bool), r_28 = D.v (Value.bool b) ∧ (b = true → ∃ (r : D), PureD Try.prog 40 [D.agg [r_26.cell 0, r_26.cell 1, r_26.cell 2]] [r] ∧ fits [(false, [none])] [r] ∧ (True ∧ True ∧ True ∧ True ∧ True ∧ True ∧ PlainD (D.v nilS) ∧ True ∧ (∃ (y : Value), r = D.v y) ∧ True) ∧ [D.agg [D.v (Value.int IntKind.u8 0), D.v (Value.int IntKind.i64 0), D.v (Value.int IntKind.i64 0), D.v (Value.int IntKind.u32 0), D.v (Value.int IntKind.u32 0), D.v (Value.int IntKind.i64 0), D.v nilS, D.v (Value.string { data := { toList := [] } })], r] = [getR s, D.v (Value.int IntKind.i64 (getE s))]) ∧ (b = false → ∃ (r : D), PureD Try.prog 12 [D.agg [r_16, r_17, r_18, r_19, r_20, r_21, r_23, r_27]] [r] ∧ fits [(false, [none])] [r] ∧ ∃ (r_29 : D), D.bin BinOp.neq r (D.v (Value.int IntKind.i64 0)) = some r_29 ∧ ∃ (b : Bool), r_29 = D.v (Value.bool b) ∧ (b = true → ∃ (r : D), PureD Try.prog 12 [D.agg [r_16, r_17, r_18, r_19, r_20, r_21, r_23, r_27]] [r] ∧ fits [(false, [none])] [r] ∧ (True ∧ True ∧ True ∧ True ∧ True ∧ True ∧ PlainD (D.v nilS) ∧ True ∧ (∃ (y : Value), r = D.v y) ∧ True) ∧ [D.agg [D.v (Value.int IntKind.u8 0), D.v (Value.int IntKind.i64 0), D.v (Value.int IntKind.i64 0), D.v (Value.int IntKind.u32 0), D.v (Value.int IntKind.u32 0), D.v (Value.int IntKind.i64 0), D.v nilS, D.v (Value.string { data := { toList := [] } })], r] = [getR s, D.v (Value.int IntKind.i64 (getE s))]) ∧ (b = false → ((∃ (y : Value), r_16 = D.v y) ∧ (∃ (y : Value), r_17 = D.v y) ∧ (∃ (y : Value), r_18 = D.v y) ∧ (∃ (y : Value), r_19 = D.v y) ∧ (∃ (y : Value), r_20 = D.v y) ∧ (∃ (y : Value), r_21 = D.v y) ∧ PlainD r_23 ∧ (∃ (y : Value), r_27 = D.v y) ∧ True ∧ True) ∧ [D.agg [r_16, r_17, r_18, r_19, r_20, r_21, r_23, r_27], D.v (Value.int IntKind.i64 0)] = [getR s, D.v (Value.int IntKind.i64 (getE s))])))))) := by kernel_rfl
set_option maxHeartbeats 16000000 in
theorem rgetD (s : List Int) (hs : Bytes s) (hl : s.length ≤ 100000) (hE : getE s = gD (unF s).1) (hR : getR s = zS) (hu : (unF s).2 = 0) (hd : gD (unF s).1 ≠ 0) : PureD Try.prog 20 [str s] [getR s, .v (.int .i64 (getE s))] := by
  refine pure_cond (Lp := (fun k => if k = 8 then some ⟨[9], [8], [2, 6, 7], [(6, [0, 1, 2], [])]⟩ else if k = 15 then some ⟨[13], [], [2, 6, 8, 12], [(6, [0, 1, 2], []), (12, [0, 1, 2, 3, 4, 5, 7], [6])]⟩ else none)) (by kernel_rfl) Try.func20 (by kernel_rfl) (by kernel_rfl) ?_
  rw [vc_rgetD s]
  have UN := runseal s hs hl
  have hB := un_bytes hs
  have ht : (unF s).1.length ≤ 100000 := Nat.le_trans (un_len s) hl
  generalize getE s = e at hE ⊢
  generalize getR s = R at hR ⊢
  subst hE
  subst hR
  generalize unF s = q at UN hB ht hu hd ⊢
  obtain ⟨t, u⟩ := q
  simp only at UN hB ht hu hd ⊢
  subst hu
  have OP := ropn t
  have WD := widths
  have b1 : 0 ≤ vN (g1 t).2 ∧ vN (g1 t).2 < 256 := v1_bd hB _
  have b4 : 0 ≤ vN (g4 t).2 ∧ vN (g4 t).2 < 4294967296 := v4_bd hB _
  have b5 : 0 ≤ vN (g5 t).2 ∧ vN (g5 t).2 < 4294967296 := v4_bd hB _
  have b7 : 0 ≤ vN (g7 t).2 ∧ vN (g7 t).2 < 256 := v1_bd hB _
  have hgc := gC_bd t
  unfold zS
  repeat' (first
    | (refine ex_some (by simp (disch := omega) only [bin_shr, bin_shl, bin_and, bin_or, bin_xor, len_str, toStr_ofL, bin_add, bin_sub, bin_mul, bin_quo, bin_rem, bin_lss, bin_leq, bin_gtr, bin_geq, bin_eql, bin_neq, eqs_cn, eqs_ci, eqs_cb, eqs_cs, Option.map_some, lenT_ofL, lst_ofL, lstSz_ofL, chunk_one, lst_nil, lst_sl, lstSz_sl, lstSz_nil, Bool.and_true, Bool.true_and, Bool.and_false, Bool.false_and, beq_self_eq_true, beq_bb, bne_bb, un_not, un_neg, conv_int, min2_int, max2_int, w64, w32, wu8, wu16, wu32, wu64, tdiv_nn, tmod_nn, cell_zero, cell_succ, cell_v, cells_v, cells_agg, Bool.not_true, Bool.not_false, Int.reduceLT, Int.reduceLE, Int.reduceEq, Int.reduceNeg, Int.reduceAdd, Int.reduceSub, Int.reduceMul, intOf_v, decide_true, decide_false, at7_0, at7_1, at7_2, at7_3, at7_4, at7_5, at7_6, len7w, app_ofL, lst_ofL, lstSz_ofL, prs_len, ints_length, ch2]; rfl) ?_)
    | (refine ex_bool ?_)
    | (refine ⟨_, _, UN, ?_⟩)
    | (refine ⟨_, OP, ?_⟩)
    | (refine ⟨_, WD, ?_⟩)
    | (refine ⟨_, _, RN, ?_⟩)
    | (refine ⟨_, _, RM, ?_⟩)
    | (refine ⟨_, _, RT, ?_⟩)
    | (refine ⟨_, RD, ?_⟩)
    | (refine ⟨_, RC, ?_⟩)
    | (have := out1; refine ⟨(fun r => ∃ k : Nat, k ≤ (vN (g7 t).2).toNat ∧ r = [.v (.int .i64 (k : Nat)), str t, .v (.int .i64 (rbF t k (g7 t).1).1.1), .v (.int .i64 (rbF t k (g7 t).1).1.2), .v (.int .u8 (vN (g1 t).2)), .v (.int .i64 (vN (g2 t).2)), .v (.int .i64 (vN (g3 t).2)), .v (.int .u32 (vN (g4 t).2)), .v (.int .u32 (vN (g5 t).2)), .v (.int .i64 (vN (g6 t).2)), str [], ofL 2 (prs (rbF t k (g7 t).1).2)]), leftN (vN (g7 t).2).toNat, ?_⟩)
    | (have := out1; refine fun (r1 r2 r3 r4 r5 r6 r7 r8 r9 r10 r11 r12 : D) (hI : (fun r => ∃ k : Nat, k ≤ (vN (g7 t).2).toNat ∧ r = [.v (.int .i64 (k : Nat)), str t, .v (.int .i64 (rbF t k (g7 t).1).1.1), .v (.int .i64 (rbF t k (g7 t).1).1.2), .v (.int .u8 (vN (g1 t).2)), .v (.int .i64 (vN (g2 t).2)), .v (.int .i64 (vN (g3 t).2)), .v (.int .u32 (vN (g4 t).2)), .v (.int .u32 (vN (g5 t).2)), .v (.int .i64 (vN (g6 t).2)), str [], ofL 2 (prs (rbF t k (g7 t).1).2)]) [r1, r2, r3, r4, r5, r6, r7, r8, r9, r10, r11, r12]) => ?_; obtain ⟨k, hk, hl0⟩ := hI; simp only [List.cons.injEq, and_true] at hl0; obtain ⟨rfl, rfl, rfl, rfl, rfl, rfl, rfl, rfl, rfl, rfl, rfl, rfl⟩ := hl0; by_cases hlt : k < (vN (g7 t).2).toNat ∧ (rbF t k (g7 t).1).1.2 = 0 <;> first | (have hin2 := out1; have hk1 : k < (vN (g7 t).2).toNat := (by omega); have he1 : (rbF t k (g7 t).1).1.2 = 0 := hlt.2; have okq := rb_ok ht (g7_ok ht) k; have hrl := rb_len t (g7 t).1 k; have hst : rbF t (k + 1) (g7 t).1 = ((blk1 t (rbF t k (g7 t).1).1).1, (rbF t k (g7 t).1).2 ++ [(blk1 t (rbF t k (g7 t).1).1).2]) := rfl; clear hlt; generalize rbF t k (g7 t).1 = q at okq hrl hst he1; obtain ⟨q, zs⟩ := q; simp only [blk1] at okq hrl hst he1; have RN := rnumber t q.1 q.2 4 okq.1 okq.2 hB (by omega) (by omega) (by omega); rw [show cuF t q.1 q.2 4 true = nb t q 4 from rfl] at RN; have ok2 := nb_ok ht okq (n := 4) (by omega) (by omega); have bv1 := v4_bd hB q; have bv2 := v4_bd hB (nb t q 4).1; have RM := rnumber t (nb t q 4).1.1 (nb t q 4).1.2 4 ok2.1 ok2.2 hB (by omega) (by omega) (by omega); rw [show cuF t (nb t q 4).1.1 (nb t q 4).1.2 4 true = nb t (nb t q 4).1 4 from rfl] at RM; have inlb : True := trivial) | (have hin2 := out1; have hgo := gb_of hk hlt; have hrl := rb_len t (g7 t).1 k; have hcond : (k : Int) < vN (g7 t).2 → (rbF t k (g7 t).1).1.2 = 0 → False := fun h1 h2 => hlt ⟨(by omega), h2⟩; have hzs : gD t = 0 → (rbF t k (g7 t).1).2 = (gb t).2 := fun h => (by rw [hgo.2 h]; rfl); clear hlt; generalize rbF t k (g7 t).1 = q at hgo hrl hcond hzs; obtain ⟨q, zs⟩ := q; simp only at hgo hrl hcond hzs; obtain ⟨rfl, hgk⟩ := hgo; have RN := rnumber t (gb t).1.1 (gb t).1.2 1 (gb_ok ht).1 (gb_ok ht).2 hB (by omega) (by omega) (by omega); rw [show cuF t (gb t).1.1 (gb t).1.2 1 true = g8 t from rfl] at RN; have b8 : 0 ≤ vN (g8 t).2 ∧ vN (g8 t).2 < 256 := v1_bd hB _; have RT := rtake t (g8 t).1.1 (g8 t).1.2 (vN (g8 t).2) (g8_ok ht).1 (g8_ok ht).2 hB (by omega) (by omega); rw [show decide (0 ≤ vN (g8 t).2) = true from decide_eq_true b8.1, show cuF t (g8 t).1.1 (g8 t).1.2 (vN (g8 t).2) true = g9 t from rfl] at RT; have RD := rdone t (g9 t).1.1 (g9 t).1.2 (g9_ok hB ht).1 (g9_ok hB ht).2 hB (by omega); rw [show doF t (g9 t).1.1 (g9 t).1.2 = gD t from rfl] at RD; have RC := rcheck (vN (g1 t).2) (vN (g2 t).2) (vN (g3 t).2) (vN (g4 t).2) (vN (g5 t).2) (vN (g6 t).2) (ofL 2 (prs zs)) zs (g9 t).2 (isL_ofL _ _) (by omega) (nb_bytes hB _ _) (by have := g9_len hB; omega) b1.1 b1.2; have hin3 : True := trivial; have hd2 : gD t ≠ 0 := hd))
    | (refine ⟨(fun r => ∃ k : Nat, k ≤ 7 ∧ r = [.v (.int .i64 (k : Nat)), str t, .v (.int .i64 (cK t k).1), .v (.int .i64 (cK t k).2), ofL 1 (ints .i64 (nK t k))]), leftN 7, ?_⟩)
    | (refine fun (r1 r2 r3 r4 r5 : D) (hI : (fun r => ∃ k : Nat, k ≤ 7 ∧ r = [.v (.int .i64 (k : Nat)), str t, .v (.int .i64 (cK t k).1), .v (.int .i64 (cK t k).2), ofL 1 (ints .i64 (nK t k))]) [r1, r2, r3, r4, r5]) => ?_; obtain ⟨k, hk, hl0⟩ := hI; simp only [List.cons.injEq, and_true] at hl0; obtain ⟨rfl, rfl, rfl, rfl, rfl⟩ := hl0; by_cases hlt : k < 7 <;> first | (have hk1 : k < 7 := (by omega); have hkc : k = 0 ∨ k = 1 ∨ k = 2 ∨ k = 3 ∨ k = 4 ∨ k = 5 ∨ k = 6 := (by omega); rcases hkc with hk2 | hk2 | hk2 | hk2 | hk2 | hk2 | hk2; all_goals (first | (have hz0 : k = 0 := (by omega); subst hz0; simp only [cK, nK]; have RN := rnumber t (0, 0).1 (0, 0).2 1 (cu0 (l := t)).1 (cu0 (l := t)).2 hB (by omega) (by omega) (by omega); rw [show cuF t (0, 0).1 (0, 0).2 1 true = g1 t from rfl] at RN; have inl0 : True := trivial) | (have hz1 : k = 1 := (by omega); subst hz1; simp only [cK, nK]; have RN := rnumber t (g1 t).1.1 (g1 t).1.2 1 (g1_ok ht).1 (g1_ok ht).2 hB (by omega) (by omega) (by omega); rw [show cuF t (g1 t).1.1 (g1 t).1.2 1 true = g2 t from rfl] at RN; have inl1 : True := trivial) | (have hz2 : k = 2 := (by omega); subst hz2; simp only [cK, nK]; have RN := rnumber t (g2 t).1.1 (g2 t).1.2 2 (g2_ok ht).1 (g2_ok ht).2 hB (by omega) (by omega) (by omega); rw [show cuF t (g2 t).1.1 (g2 t).1.2 2 true = g3 t from rfl] at RN; have inl2 : True := trivial) | (have hz3 : k = 3 := (by omega); subst hz3; simp only [cK, nK]; have RN := rnumber t (g3 t).1.1 (g3 t).1.2 4 (g3_ok ht).1 (g3_ok ht).2 hB (by omega) (by omega) (by omega); rw [show cuF t (g3 t).1.1 (g3 t).1.2 4 true = g4 t from rfl] at RN; have inl3 : True := trivial) | (have hz4 : k = 4 := (by omega); subst hz4; simp only [cK, nK]; have RN := rnumber t (g4 t).1.1 (g4 t).1.2 4 (g4_ok ht).1 (g4_ok ht).2 hB (by omega) (by omega) (by omega); rw [show cuF t (g4 t).1.1 (g4 t).1.2 4 true = g5 t from rfl] at RN; have inl4 : True := trivial) | (have hz5 : k = 5 := (by omega); subst hz5; simp only [cK, nK]; have RN := rnumber t (g5 t).1.1 (g5 t).1.2 2 (g5_ok ht).1 (g5_ok ht).2 hB (by omega) (by omega) (by omega); rw [show cuF t (g5 t).1.1 (g5 t).1.2 2 true = g6 t from rfl] at RN; have inl5 : True := trivial) | (have hz6 : k = 6 := (by omega); subst hz6; simp only [cK, nK]; have RN := rnumber t (g6 t).1.1 (g6 t).1.2 1 (g6_ok ht).1 (g6_ok ht).2 hB (by omega) (by omega) (by omega); rw [show cuF t (g6 t).1.1 (g6 t).1.2 1 true = g7 t from rfl] at RN; have inl6 : True := trivial))) | (have hkk : k = 7 := (by omega); subst hkk; simp only [cK, nK]; have out1 : True := trivial))
    | (have := inlb; refine ⟨(k + 1 : Nat), by omega, ?_⟩)
    | (have := inl0; refine ⟨1, by omega, ?_⟩)
    | (have := inl1; refine ⟨2, by omega, ?_⟩)
    | (have := inl2; refine ⟨3, by omega, ?_⟩)
    | (have := inl3; refine ⟨4, by omega, ?_⟩)
    | (have := inl4; refine ⟨5, by omega, ?_⟩)
    | (have := inl5; refine ⟨6, by omega, ?_⟩)
    | (have := inl6; refine ⟨7, by omega, ?_⟩)
    | (have := out1; refine ⟨(0 : Nat), Nat.zero_le _, rfl⟩)
    | (refine ⟨(0 : Nat), Nat.zero_le _, rfl⟩)
    | (exact ⟨_, _, _, rfl, rfl, by omega, (by show (_ : Int) < ((7 : Nat) : Int); omega)⟩)
    | (refine And.intro ?_ ?_)
    | (intro hx; have hprop := (show ∀ (p : Prop), p → True from fun _ _ => True.intro) _ hx; clear hprop; first | (cases hx; done) | (exfalso; revert hx; simp (disch := omega) only [decide_eq_true_eq, decide_eq_false_iff_not, Bool.not_eq_true', Bool.not_eq_false', Bool.and_eq_true, Bool.and_eq_false_iff, Int.not_lt, Int.not_le, ne_eq, not_false_eq_true, not_true_eq_false, reduceCtorEq, Bool.true_eq_false, Bool.false_eq_true, beq_iff_eq, bne_iff_ne, beq_eq_false_iff_ne, false_or, or_false, true_and, and_true, at7_0, at7_1, at7_2, at7_3, at7_4, at7_5, at7_6, len7w, app_ofL, lst_ofL, lstSz_ofL, prs_len, ints_length, ch2]; done) | (simp (disch := omega) only [decide_eq_true_eq, decide_eq_false_iff_not, Bool.not_eq_true', Bool.not_eq_false', Bool.and_eq_true, Bool.and_eq_false_iff, Int.not_lt, Int.not_le, ne_eq, not_false_eq_true, not_true_eq_false, reduceCtorEq, Bool.true_eq_false, Bool.false_eq_true, beq_iff_eq, bne_iff_ne, beq_eq_false_iff_ne, false_or, or_false, true_and, and_true, at7_0, at7_1, at7_2, at7_3, at7_4, at7_5, at7_6, len7w, app_ofL, lst_ofL, lstSz_ofL, prs_len, ints_length, ch2] at hx; first | (exfalso; omega) | skip) | skip)
    | trivial
    | exact fit_ofL _ _
    | (simp (disch := omega) only [notAgg_v, notAgg_sl, plain_v, fits, fitsOne, fitsCells, xsOf, cell_zero, cell_succ, List.range, List.range.loop, List.map, cond_true, cond_false, D.v.injEq, exists_eq', exists_eq, and_self, and_true, true_and, D.agg.injEq, List.length, exists_eq_left', D.sl.injEq, reduceCtorEq, false_or, true_or, or_true, or_false, cell_zero, cell_succ, cell_v, cells_v, cells_agg, List.length_cons, List.length_nil, at7_0, at7_1, at7_2, at7_3, at7_4, at7_5, at7_6, len7w, app_ofL, lst_ofL, lstSz_ofL, prs_len, ints_length, ch2]; done))
  all_goals first
    | (exfalso; omega)
    | omega
    | rfl
    | exact ⟨_, rfl⟩
    | exact notAgg_v _
    | exact fit_ofL _ _
    | exact .inl rfl
    | exact plainP _
    | exact plain_v _
    | (simp only [leftN]; omega)
    | exact plain_ofL (ints_plain _ _)
    | (show 0 + 1 ≤ 1; omega)
    | (simp only [ints_length, prs_len, List.length_cons, List.length_nil]; omega)
    | (rw [hst]; simp only [app_ofL, prs, List.map_append, List.map_cons, List.map_nil]; rfl)
    | (exfalso; exact hcond (by omega) (by assumption))
    | exact .inr ⟨_, rfl⟩
    | (simp; done)
    | fail

set_option maxHeartbeats 16000000 in
theorem rgetC (s : List Int) (hs : Bytes s) (hl : s.length ≤ 100000) (hE : getE s = gC (unF s).1) (hR : getR s = zS) (hu : (unF s).2 = 0) (hd : gD (unF s).1 = 0) (hc : gC (unF s).1 ≠ 0) : PureD Try.prog 20 [str s] [getR s, .v (.int .i64 (getE s))] := by
  refine pure_cond (Lp := (fun k => if k = 8 then some ⟨[9], [8], [2, 6, 7], [(6, [0, 1, 2], [])]⟩ else if k = 15 then some ⟨[13], [], [2, 6, 8, 12], [(6, [0, 1, 2], []), (12, [0, 1, 2, 3, 4, 5, 7], [6])]⟩ else none)) (by kernel_rfl) Try.func20 (by kernel_rfl) (by kernel_rfl) ?_
  rw [vc_rgetD s]
  have UN := runseal s hs hl
  have hB := un_bytes hs
  have ht : (unF s).1.length ≤ 100000 := Nat.le_trans (un_len s) hl
  generalize getE s = e at hE ⊢
  generalize getR s = R at hR ⊢
  subst hE
  subst hR
  generalize unF s = q at UN hB ht hu hd hc ⊢
  obtain ⟨t, u⟩ := q
  simp only at UN hB ht hu hd hc ⊢
  subst hu
  have OP := ropn t
  have WD := widths
  have b1 : 0 ≤ vN (g1 t).2 ∧ vN (g1 t).2 < 256 := v1_bd hB _
  have b4 : 0 ≤ vN (g4 t).2 ∧ vN (g4 t).2 < 4294967296 := v4_bd hB _
  have b5 : 0 ≤ vN (g5 t).2 ∧ vN (g5 t).2 < 4294967296 := v4_bd hB _
  have b7 : 0 ≤ vN (g7 t).2 ∧ vN (g7 t).2 < 256 := v1_bd hB _
  have hgc := gC_bd t
  unfold zS
  repeat' (first
    | (refine ex_some (by simp (disch := omega) only [bin_shr, bin_shl, bin_and, bin_or, bin_xor, len_str, toStr_ofL, bin_add, bin_sub, bin_mul, bin_quo, bin_rem, bin_lss, bin_leq, bin_gtr, bin_geq, bin_eql, bin_neq, eqs_cn, eqs_ci, eqs_cb, eqs_cs, Option.map_some, lenT_ofL, lst_ofL, lstSz_ofL, chunk_one, lst_nil, lst_sl, lstSz_sl, lstSz_nil, Bool.and_true, Bool.true_and, Bool.and_false, Bool.false_and, beq_self_eq_true, beq_bb, bne_bb, un_not, un_neg, conv_int, min2_int, max2_int, w64, w32, wu8, wu16, wu32, wu64, tdiv_nn, tmod_nn, cell_zero, cell_succ, cell_v, cells_v, cells_agg, Bool.not_true, Bool.not_false, Int.reduceLT, Int.reduceLE, Int.reduceEq, Int.reduceNeg, Int.reduceAdd, Int.reduceSub, Int.reduceMul, intOf_v, decide_true, decide_false, at7_0, at7_1, at7_2, at7_3, at7_4, at7_5, at7_6, len7w, app_ofL, lst_ofL, lstSz_ofL, prs_len, ints_length, ch2]; rfl) ?_)
    | (refine ex_bool ?_)
    | (refine ⟨_, _, UN, ?_⟩)
    | (refine ⟨_, OP, ?_⟩)
    | (refine ⟨_, WD, ?_⟩)
    | (refine ⟨_, _, RN, ?_⟩)
    | (refine ⟨_, _, RM, ?_⟩)
    | (refine ⟨_, _, RT, ?_⟩)
    | (refine ⟨_, RD, ?_⟩)
    | (refine ⟨_, RC, ?_⟩)
    | (have := out1; refine ⟨(fun r => ∃ k : Nat, k ≤ (vN (g7 t).2).toNat ∧ r = [.v (.int .i64 (k : Nat)), str t, .v (.int .i64 (rbF t k (g7 t).1).1.1), .v (.int .i64 (rbF t k (g7 t).1).1.2), .v (.int .u8 (vN (g1 t).2)), .v (.int .i64 (vN (g2 t).2)), .v (.int .i64 (vN (g3 t).2)), .v (.int .u32 (vN (g4 t).2)), .v (.int .u32 (vN (g5 t).2)), .v (.int .i64 (vN (g6 t).2)), str [], ofL 2 (prs (rbF t k (g7 t).1).2)]), leftN (vN (g7 t).2).toNat, ?_⟩)
    | (have := out1; refine fun (r1 r2 r3 r4 r5 r6 r7 r8 r9 r10 r11 r12 : D) (hI : (fun r => ∃ k : Nat, k ≤ (vN (g7 t).2).toNat ∧ r = [.v (.int .i64 (k : Nat)), str t, .v (.int .i64 (rbF t k (g7 t).1).1.1), .v (.int .i64 (rbF t k (g7 t).1).1.2), .v (.int .u8 (vN (g1 t).2)), .v (.int .i64 (vN (g2 t).2)), .v (.int .i64 (vN (g3 t).2)), .v (.int .u32 (vN (g4 t).2)), .v (.int .u32 (vN (g5 t).2)), .v (.int .i64 (vN (g6 t).2)), str [], ofL 2 (prs (rbF t k (g7 t).1).2)]) [r1, r2, r3, r4, r5, r6, r7, r8, r9, r10, r11, r12]) => ?_; obtain ⟨k, hk, hl0⟩ := hI; simp only [List.cons.injEq, and_true] at hl0; obtain ⟨rfl, rfl, rfl, rfl, rfl, rfl, rfl, rfl, rfl, rfl, rfl, rfl⟩ := hl0; by_cases hlt : k < (vN (g7 t).2).toNat ∧ (rbF t k (g7 t).1).1.2 = 0 <;> first | (have hin2 := out1; have hk1 : k < (vN (g7 t).2).toNat := (by omega); have he1 : (rbF t k (g7 t).1).1.2 = 0 := hlt.2; have okq := rb_ok ht (g7_ok ht) k; have hrl := rb_len t (g7 t).1 k; have hst : rbF t (k + 1) (g7 t).1 = ((blk1 t (rbF t k (g7 t).1).1).1, (rbF t k (g7 t).1).2 ++ [(blk1 t (rbF t k (g7 t).1).1).2]) := rfl; clear hlt; generalize rbF t k (g7 t).1 = q at okq hrl hst he1; obtain ⟨q, zs⟩ := q; simp only [blk1] at okq hrl hst he1; have RN := rnumber t q.1 q.2 4 okq.1 okq.2 hB (by omega) (by omega) (by omega); rw [show cuF t q.1 q.2 4 true = nb t q 4 from rfl] at RN; have ok2 := nb_ok ht okq (n := 4) (by omega) (by omega); have bv1 := v4_bd hB q; have bv2 := v4_bd hB (nb t q 4).1; have RM := rnumber t (nb t q 4).1.1 (nb t q 4).1.2 4 ok2.1 ok2.2 hB (by omega) (by omega) (by omega); rw [show cuF t (nb t q 4).1.1 (nb t q 4).1.2 4 true = nb t (nb t q 4).1 4 from rfl] at RM; have inlb : True := trivial) | (have hin2 := out1; have hgo := gb_of hk hlt; have hrl := rb_len t (g7 t).1 k; have hcond : (k : Int) < vN (g7 t).2 → (rbF t k (g7 t).1).1.2 = 0 → False := fun h1 h2 => hlt ⟨(by omega), h2⟩; have hzs : gD t = 0 → (rbF t k (g7 t).1).2 = (gb t).2 := fun h => (by rw [hgo.2 h]; rfl); clear hlt; generalize rbF t k (g7 t).1 = q at hgo hrl hcond hzs; obtain ⟨q, zs⟩ := q; simp only at hgo hrl hcond hzs; obtain ⟨rfl, hgk⟩ := hgo; have RN := rnumber t (gb t).1.1 (gb t).1.2 1 (gb_ok ht).1 (gb_ok ht).2 hB (by omega) (by omega) (by omega); rw [show cuF t (gb t).1.1 (gb t).1.2 1 true = g8 t from rfl] at RN; have b8 : 0 ≤ vN (g8 t).2 ∧ vN (g8 t).2 < 256 := v1_bd hB _; have RT := rtake t (g8 t).1.1 (g8 t).1.2 (vN (g8 t).2) (g8_ok ht).1 (g8_ok ht).2 hB (by omega) (by omega); rw [show decide (0 ≤ vN (g8 t).2) = true from decide_eq_true b8.1, show cuF t (g8 t).1.1 (g8 t).1.2 (vN (g8 t).2) true = g9 t from rfl] at RT; have RD := rdone t (g9 t).1.1 (g9 t).1.2 (g9_ok hB ht).1 (g9_ok hB ht).2 hB (by omega); rw [show doF t (g9 t).1.1 (g9 t).1.2 = gD t from rfl] at RD; have RC := rcheck (vN (g1 t).2) (vN (g2 t).2) (vN (g3 t).2) (vN (g4 t).2) (vN (g5 t).2) (vN (g6 t).2) (ofL 2 (prs zs)) zs (g9 t).2 (isL_ofL _ _) (by omega) (nb_bytes hB _ _) (by have := g9_len hB; omega) b1.1 b1.2; have hin3 : True := trivial; have hd2 : gD t = 0 := hd; have hz2 := hzs hd2; subst hz2; rw [hd2] at RD; rw [show sgChk (vN (g1 t).2) (vN (g2 t).2) (vN (g3 t).2) (vN (g5 t).2) (vN (g6 t).2) (gb t).2.length (g9 t).2.length = gC t from rfl] at RC))
    | (refine ⟨(fun r => ∃ k : Nat, k ≤ 7 ∧ r = [.v (.int .i64 (k : Nat)), str t, .v (.int .i64 (cK t k).1), .v (.int .i64 (cK t k).2), ofL 1 (ints .i64 (nK t k))]), leftN 7, ?_⟩)
    | (refine fun (r1 r2 r3 r4 r5 : D) (hI : (fun r => ∃ k : Nat, k ≤ 7 ∧ r = [.v (.int .i64 (k : Nat)), str t, .v (.int .i64 (cK t k).1), .v (.int .i64 (cK t k).2), ofL 1 (ints .i64 (nK t k))]) [r1, r2, r3, r4, r5]) => ?_; obtain ⟨k, hk, hl0⟩ := hI; simp only [List.cons.injEq, and_true] at hl0; obtain ⟨rfl, rfl, rfl, rfl, rfl⟩ := hl0; by_cases hlt : k < 7 <;> first | (have hk1 : k < 7 := (by omega); have hkc : k = 0 ∨ k = 1 ∨ k = 2 ∨ k = 3 ∨ k = 4 ∨ k = 5 ∨ k = 6 := (by omega); rcases hkc with hk2 | hk2 | hk2 | hk2 | hk2 | hk2 | hk2; all_goals (first | (have hz0 : k = 0 := (by omega); subst hz0; simp only [cK, nK]; have RN := rnumber t (0, 0).1 (0, 0).2 1 (cu0 (l := t)).1 (cu0 (l := t)).2 hB (by omega) (by omega) (by omega); rw [show cuF t (0, 0).1 (0, 0).2 1 true = g1 t from rfl] at RN; have inl0 : True := trivial) | (have hz1 : k = 1 := (by omega); subst hz1; simp only [cK, nK]; have RN := rnumber t (g1 t).1.1 (g1 t).1.2 1 (g1_ok ht).1 (g1_ok ht).2 hB (by omega) (by omega) (by omega); rw [show cuF t (g1 t).1.1 (g1 t).1.2 1 true = g2 t from rfl] at RN; have inl1 : True := trivial) | (have hz2 : k = 2 := (by omega); subst hz2; simp only [cK, nK]; have RN := rnumber t (g2 t).1.1 (g2 t).1.2 2 (g2_ok ht).1 (g2_ok ht).2 hB (by omega) (by omega) (by omega); rw [show cuF t (g2 t).1.1 (g2 t).1.2 2 true = g3 t from rfl] at RN; have inl2 : True := trivial) | (have hz3 : k = 3 := (by omega); subst hz3; simp only [cK, nK]; have RN := rnumber t (g3 t).1.1 (g3 t).1.2 4 (g3_ok ht).1 (g3_ok ht).2 hB (by omega) (by omega) (by omega); rw [show cuF t (g3 t).1.1 (g3 t).1.2 4 true = g4 t from rfl] at RN; have inl3 : True := trivial) | (have hz4 : k = 4 := (by omega); subst hz4; simp only [cK, nK]; have RN := rnumber t (g4 t).1.1 (g4 t).1.2 4 (g4_ok ht).1 (g4_ok ht).2 hB (by omega) (by omega) (by omega); rw [show cuF t (g4 t).1.1 (g4 t).1.2 4 true = g5 t from rfl] at RN; have inl4 : True := trivial) | (have hz5 : k = 5 := (by omega); subst hz5; simp only [cK, nK]; have RN := rnumber t (g5 t).1.1 (g5 t).1.2 2 (g5_ok ht).1 (g5_ok ht).2 hB (by omega) (by omega) (by omega); rw [show cuF t (g5 t).1.1 (g5 t).1.2 2 true = g6 t from rfl] at RN; have inl5 : True := trivial) | (have hz6 : k = 6 := (by omega); subst hz6; simp only [cK, nK]; have RN := rnumber t (g6 t).1.1 (g6 t).1.2 1 (g6_ok ht).1 (g6_ok ht).2 hB (by omega) (by omega) (by omega); rw [show cuF t (g6 t).1.1 (g6 t).1.2 1 true = g7 t from rfl] at RN; have inl6 : True := trivial))) | (have hkk : k = 7 := (by omega); subst hkk; simp only [cK, nK]; have out1 : True := trivial))
    | (have := inlb; refine ⟨(k + 1 : Nat), by omega, ?_⟩)
    | (have := inl0; refine ⟨1, by omega, ?_⟩)
    | (have := inl1; refine ⟨2, by omega, ?_⟩)
    | (have := inl2; refine ⟨3, by omega, ?_⟩)
    | (have := inl3; refine ⟨4, by omega, ?_⟩)
    | (have := inl4; refine ⟨5, by omega, ?_⟩)
    | (have := inl5; refine ⟨6, by omega, ?_⟩)
    | (have := inl6; refine ⟨7, by omega, ?_⟩)
    | (have := out1; refine ⟨(0 : Nat), Nat.zero_le _, rfl⟩)
    | (refine ⟨(0 : Nat), Nat.zero_le _, rfl⟩)
    | (exact ⟨_, _, _, rfl, rfl, by omega, (by show (_ : Int) < ((7 : Nat) : Int); omega)⟩)
    | (refine And.intro ?_ ?_)
    | (intro hx; have hprop := (show ∀ (p : Prop), p → True from fun _ _ => True.intro) _ hx; clear hprop; first | (cases hx; done) | (exfalso; revert hx; simp (disch := omega) only [decide_eq_true_eq, decide_eq_false_iff_not, Bool.not_eq_true', Bool.not_eq_false', Bool.and_eq_true, Bool.and_eq_false_iff, Int.not_lt, Int.not_le, ne_eq, not_false_eq_true, not_true_eq_false, reduceCtorEq, Bool.true_eq_false, Bool.false_eq_true, beq_iff_eq, bne_iff_ne, beq_eq_false_iff_ne, false_or, or_false, true_and, and_true, at7_0, at7_1, at7_2, at7_3, at7_4, at7_5, at7_6, len7w, app_ofL, lst_ofL, lstSz_ofL, prs_len, ints_length, ch2]; done) | (simp (disch := omega) only [decide_eq_true_eq, decide_eq_false_iff_not, Bool.not_eq_true', Bool.not_eq_false', Bool.and_eq_true, Bool.and_eq_false_iff, Int.not_lt, Int.not_le, ne_eq, not_false_eq_true, not_true_eq_false, reduceCtorEq, Bool.true_eq_false, Bool.false_eq_true, beq_iff_eq, bne_iff_ne, beq_eq_false_iff_ne, false_or, or_false, true_and, and_true, at7_0, at7_1, at7_2, at7_3, at7_4, at7_5, at7_6, len7w, app_ofL, lst_ofL, lstSz_ofL, prs_len, ints_length, ch2] at hx; first | (exfalso; omega) | skip) | skip)
    | trivial
    | exact fit_ofL _ _
    | (simp (disch := omega) only [notAgg_v, notAgg_sl, plain_v, fits, fitsOne, fitsCells, xsOf, cell_zero, cell_succ, List.range, List.range.loop, List.map, cond_true, cond_false, D.v.injEq, exists_eq', exists_eq, and_self, and_true, true_and, D.agg.injEq, List.length, exists_eq_left', D.sl.injEq, reduceCtorEq, false_or, true_or, or_true, or_false, cell_zero, cell_succ, cell_v, cells_v, cells_agg, List.length_cons, List.length_nil, at7_0, at7_1, at7_2, at7_3, at7_4, at7_5, at7_6, len7w, app_ofL, lst_ofL, lstSz_ofL, prs_len, ints_length, ch2]; done))
  all_goals first
    | (exfalso; omega)
    | omega
    | rfl
    | exact ⟨_, rfl⟩
    | exact notAgg_v _
    | exact fit_ofL _ _
    | exact .inl rfl
    | exact plainP _
    | exact plain_v _
    | (simp only [leftN]; omega)
    | exact plain_ofL (ints_plain _ _)
    | (show 0 + 1 ≤ 1; omega)
    | (simp only [ints_length, prs_len, List.length_cons, List.length_nil]; omega)
    | (rw [hst]; simp only [app_ofL, prs, List.map_append, List.map_cons, List.map_nil]; rfl)
    | (exfalso; exact hcond (by omega) (by assumption))
    | exact .inr ⟨_, rfl⟩
    | (simp; done)
    | fail

set_option maxHeartbeats 16000000 in
theorem rgetO (s : List Int) (hs : Bytes s) (hl : s.length ≤ 100000) (hE : getE s = 0) (hR : getR s = gSg (unF s).1) (hu : (unF s).2 = 0) (hd : gD (unF s).1 = 0) (hc : gC (unF s).1 = 0) : PureD Try.prog 20 [str s] [getR s, .v (.int .i64 (getE s))] := by
  refine pure_cond (Lp := (fun k => if k = 8 then some ⟨[9], [8], [2, 6, 7], [(6, [0, 1, 2], [])]⟩ else if k = 15 then some ⟨[13], [], [2, 6, 8, 12], [(6, [0, 1, 2], []), (12, [0, 1, 2, 3, 4, 5, 7], [6])]⟩ else none)) (by kernel_rfl) Try.func20 (by kernel_rfl) (by kernel_rfl) ?_
  rw [vc_rgetD s]
  have UN := runseal s hs hl
  have hB := un_bytes hs
  have ht : (unF s).1.length ≤ 100000 := Nat.le_trans (un_len s) hl
  generalize getE s = e at hE ⊢
  generalize getR s = R at hR ⊢
  subst hE
  subst hR
  generalize unF s = q at UN hB ht hu hd hc ⊢
  obtain ⟨t, u⟩ := q
  simp only at UN hB ht hu hd hc ⊢
  subst hu
  have OP := ropn t
  have WD := widths
  have b1 : 0 ≤ vN (g1 t).2 ∧ vN (g1 t).2 < 256 := v1_bd hB _
  have b4 : 0 ≤ vN (g4 t).2 ∧ vN (g4 t).2 < 4294967296 := v4_bd hB _
  have b5 : 0 ≤ vN (g5 t).2 ∧ vN (g5 t).2 < 4294967296 := v4_bd hB _
  have b7 : 0 ≤ vN (g7 t).2 ∧ vN (g7 t).2 < 256 := v1_bd hB _
  have hgc := gC_bd t
  unfold gSg
  repeat' (first
    | (refine ex_some (by simp (disch := omega) only [bin_shr, bin_shl, bin_and, bin_or, bin_xor, len_str, toStr_ofL, bin_add, bin_sub, bin_mul, bin_quo, bin_rem, bin_lss, bin_leq, bin_gtr, bin_geq, bin_eql, bin_neq, eqs_cn, eqs_ci, eqs_cb, eqs_cs, Option.map_some, lenT_ofL, lst_ofL, lstSz_ofL, chunk_one, lst_nil, lst_sl, lstSz_sl, lstSz_nil, Bool.and_true, Bool.true_and, Bool.and_false, Bool.false_and, beq_self_eq_true, beq_bb, bne_bb, un_not, un_neg, conv_int, min2_int, max2_int, w64, w32, wu8, wu16, wu32, wu64, tdiv_nn, tmod_nn, cell_zero, cell_succ, cell_v, cells_v, cells_agg, Bool.not_true, Bool.not_false, Int.reduceLT, Int.reduceLE, Int.reduceEq, Int.reduceNeg, Int.reduceAdd, Int.reduceSub, Int.reduceMul, intOf_v, decide_true, decide_false, at7_0, at7_1, at7_2, at7_3, at7_4, at7_5, at7_6, len7w, app_ofL, lst_ofL, lstSz_ofL, prs_len, ints_length, ch2]; rfl) ?_)
    | (refine ex_bool ?_)
    | (refine ⟨_, _, UN, ?_⟩)
    | (refine ⟨_, OP, ?_⟩)
    | (refine ⟨_, WD, ?_⟩)
    | (refine ⟨_, _, RN, ?_⟩)
    | (refine ⟨_, _, RM, ?_⟩)
    | (refine ⟨_, _, RT, ?_⟩)
    | (refine ⟨_, RD, ?_⟩)
    | (refine ⟨_, RC, ?_⟩)
    | (have := out1; refine ⟨(fun r => ∃ k : Nat, k ≤ (vN (g7 t).2).toNat ∧ r = [.v (.int .i64 (k : Nat)), str t, .v (.int .i64 (rbF t k (g7 t).1).1.1), .v (.int .i64 (rbF t k (g7 t).1).1.2), .v (.int .u8 (vN (g1 t).2)), .v (.int .i64 (vN (g2 t).2)), .v (.int .i64 (vN (g3 t).2)), .v (.int .u32 (vN (g4 t).2)), .v (.int .u32 (vN (g5 t).2)), .v (.int .i64 (vN (g6 t).2)), str [], ofL 2 (prs (rbF t k (g7 t).1).2)]), leftN (vN (g7 t).2).toNat, ?_⟩)
    | (have := out1; refine fun (r1 r2 r3 r4 r5 r6 r7 r8 r9 r10 r11 r12 : D) (hI : (fun r => ∃ k : Nat, k ≤ (vN (g7 t).2).toNat ∧ r = [.v (.int .i64 (k : Nat)), str t, .v (.int .i64 (rbF t k (g7 t).1).1.1), .v (.int .i64 (rbF t k (g7 t).1).1.2), .v (.int .u8 (vN (g1 t).2)), .v (.int .i64 (vN (g2 t).2)), .v (.int .i64 (vN (g3 t).2)), .v (.int .u32 (vN (g4 t).2)), .v (.int .u32 (vN (g5 t).2)), .v (.int .i64 (vN (g6 t).2)), str [], ofL 2 (prs (rbF t k (g7 t).1).2)]) [r1, r2, r3, r4, r5, r6, r7, r8, r9, r10, r11, r12]) => ?_; obtain ⟨k, hk, hl0⟩ := hI; simp only [List.cons.injEq, and_true] at hl0; obtain ⟨rfl, rfl, rfl, rfl, rfl, rfl, rfl, rfl, rfl, rfl, rfl, rfl⟩ := hl0; by_cases hlt : k < (vN (g7 t).2).toNat ∧ (rbF t k (g7 t).1).1.2 = 0 <;> first | (have hin2 := out1; have hk1 : k < (vN (g7 t).2).toNat := (by omega); have he1 : (rbF t k (g7 t).1).1.2 = 0 := hlt.2; have okq := rb_ok ht (g7_ok ht) k; have hrl := rb_len t (g7 t).1 k; have hst : rbF t (k + 1) (g7 t).1 = ((blk1 t (rbF t k (g7 t).1).1).1, (rbF t k (g7 t).1).2 ++ [(blk1 t (rbF t k (g7 t).1).1).2]) := rfl; clear hlt; generalize rbF t k (g7 t).1 = q at okq hrl hst he1; obtain ⟨q, zs⟩ := q; simp only [blk1] at okq hrl hst he1; have RN := rnumber t q.1 q.2 4 okq.1 okq.2 hB (by omega) (by omega) (by omega); rw [show cuF t q.1 q.2 4 true = nb t q 4 from rfl] at RN; have ok2 := nb_ok ht okq (n := 4) (by omega) (by omega); have bv1 := v4_bd hB q; have bv2 := v4_bd hB (nb t q 4).1; have RM := rnumber t (nb t q 4).1.1 (nb t q 4).1.2 4 ok2.1 ok2.2 hB (by omega) (by omega) (by omega); rw [show cuF t (nb t q 4).1.1 (nb t q 4).1.2 4 true = nb t (nb t q 4).1 4 from rfl] at RM; have inlb : True := trivial) | (have hin2 := out1; have hgo := gb_of hk hlt; have hrl := rb_len t (g7 t).1 k; have hcond : (k : Int) < vN (g7 t).2 → (rbF t k (g7 t).1).1.2 = 0 → False := fun h1 h2 => hlt ⟨(by omega), h2⟩; have hzs : gD t = 0 → (rbF t k (g7 t).1).2 = (gb t).2 := fun h => (by rw [hgo.2 h]; rfl); clear hlt; generalize rbF t k (g7 t).1 = q at hgo hrl hcond hzs; obtain ⟨q, zs⟩ := q; simp only at hgo hrl hcond hzs; obtain ⟨rfl, hgk⟩ := hgo; have RN := rnumber t (gb t).1.1 (gb t).1.2 1 (gb_ok ht).1 (gb_ok ht).2 hB (by omega) (by omega) (by omega); rw [show cuF t (gb t).1.1 (gb t).1.2 1 true = g8 t from rfl] at RN; have b8 : 0 ≤ vN (g8 t).2 ∧ vN (g8 t).2 < 256 := v1_bd hB _; have RT := rtake t (g8 t).1.1 (g8 t).1.2 (vN (g8 t).2) (g8_ok ht).1 (g8_ok ht).2 hB (by omega) (by omega); rw [show decide (0 ≤ vN (g8 t).2) = true from decide_eq_true b8.1, show cuF t (g8 t).1.1 (g8 t).1.2 (vN (g8 t).2) true = g9 t from rfl] at RT; have RD := rdone t (g9 t).1.1 (g9 t).1.2 (g9_ok hB ht).1 (g9_ok hB ht).2 hB (by omega); rw [show doF t (g9 t).1.1 (g9 t).1.2 = gD t from rfl] at RD; have RC := rcheck (vN (g1 t).2) (vN (g2 t).2) (vN (g3 t).2) (vN (g4 t).2) (vN (g5 t).2) (vN (g6 t).2) (ofL 2 (prs zs)) zs (g9 t).2 (isL_ofL _ _) (by omega) (nb_bytes hB _ _) (by have := g9_len hB; omega) b1.1 b1.2; have hin3 : True := trivial; have hd2 : gD t = 0 := hd; have hz2 := hzs hd2; subst hz2; rw [hd2] at RD; rw [show sgChk (vN (g1 t).2) (vN (g2 t).2) (vN (g3 t).2) (vN (g5 t).2) (vN (g6 t).2) (gb t).2.length (g9 t).2.length = gC t from rfl] at RC))
    | (refine ⟨(fun r => ∃ k : Nat, k ≤ 7 ∧ r = [.v (.int .i64 (k : Nat)), str t, .v (.int .i64 (cK t k).1), .v (.int .i64 (cK t k).2), ofL 1 (ints .i64 (nK t k))]), leftN 7, ?_⟩)
    | (refine fun (r1 r2 r3 r4 r5 : D) (hI : (fun r => ∃ k : Nat, k ≤ 7 ∧ r = [.v (.int .i64 (k : Nat)), str t, .v (.int .i64 (cK t k).1), .v (.int .i64 (cK t k).2), ofL 1 (ints .i64 (nK t k))]) [r1, r2, r3, r4, r5]) => ?_; obtain ⟨k, hk, hl0⟩ := hI; simp only [List.cons.injEq, and_true] at hl0; obtain ⟨rfl, rfl, rfl, rfl, rfl⟩ := hl0; by_cases hlt : k < 7 <;> first | (have hk1 : k < 7 := (by omega); have hkc : k = 0 ∨ k = 1 ∨ k = 2 ∨ k = 3 ∨ k = 4 ∨ k = 5 ∨ k = 6 := (by omega); rcases hkc with hk2 | hk2 | hk2 | hk2 | hk2 | hk2 | hk2; all_goals (first | (have hz0 : k = 0 := (by omega); subst hz0; simp only [cK, nK]; have RN := rnumber t (0, 0).1 (0, 0).2 1 (cu0 (l := t)).1 (cu0 (l := t)).2 hB (by omega) (by omega) (by omega); rw [show cuF t (0, 0).1 (0, 0).2 1 true = g1 t from rfl] at RN; have inl0 : True := trivial) | (have hz1 : k = 1 := (by omega); subst hz1; simp only [cK, nK]; have RN := rnumber t (g1 t).1.1 (g1 t).1.2 1 (g1_ok ht).1 (g1_ok ht).2 hB (by omega) (by omega) (by omega); rw [show cuF t (g1 t).1.1 (g1 t).1.2 1 true = g2 t from rfl] at RN; have inl1 : True := trivial) | (have hz2 : k = 2 := (by omega); subst hz2; simp only [cK, nK]; have RN := rnumber t (g2 t).1.1 (g2 t).1.2 2 (g2_ok ht).1 (g2_ok ht).2 hB (by omega) (by omega) (by omega); rw [show cuF t (g2 t).1.1 (g2 t).1.2 2 true = g3 t from rfl] at RN; have inl2 : True := trivial) | (have hz3 : k = 3 := (by omega); subst hz3; simp only [cK, nK]; have RN := rnumber t (g3 t).1.1 (g3 t).1.2 4 (g3_ok ht).1 (g3_ok ht).2 hB (by omega) (by omega) (by omega); rw [show cuF t (g3 t).1.1 (g3 t).1.2 4 true = g4 t from rfl] at RN; have inl3 : True := trivial) | (have hz4 : k = 4 := (by omega); subst hz4; simp only [cK, nK]; have RN := rnumber t (g4 t).1.1 (g4 t).1.2 4 (g4_ok ht).1 (g4_ok ht).2 hB (by omega) (by omega) (by omega); rw [show cuF t (g4 t).1.1 (g4 t).1.2 4 true = g5 t from rfl] at RN; have inl4 : True := trivial) | (have hz5 : k = 5 := (by omega); subst hz5; simp only [cK, nK]; have RN := rnumber t (g5 t).1.1 (g5 t).1.2 2 (g5_ok ht).1 (g5_ok ht).2 hB (by omega) (by omega) (by omega); rw [show cuF t (g5 t).1.1 (g5 t).1.2 2 true = g6 t from rfl] at RN; have inl5 : True := trivial) | (have hz6 : k = 6 := (by omega); subst hz6; simp only [cK, nK]; have RN := rnumber t (g6 t).1.1 (g6 t).1.2 1 (g6_ok ht).1 (g6_ok ht).2 hB (by omega) (by omega) (by omega); rw [show cuF t (g6 t).1.1 (g6 t).1.2 1 true = g7 t from rfl] at RN; have inl6 : True := trivial))) | (have hkk : k = 7 := (by omega); subst hkk; simp only [cK, nK]; have out1 : True := trivial))
    | (have := inlb; refine ⟨(k + 1 : Nat), by omega, ?_⟩)
    | (have := inl0; refine ⟨1, by omega, ?_⟩)
    | (have := inl1; refine ⟨2, by omega, ?_⟩)
    | (have := inl2; refine ⟨3, by omega, ?_⟩)
    | (have := inl3; refine ⟨4, by omega, ?_⟩)
    | (have := inl4; refine ⟨5, by omega, ?_⟩)
    | (have := inl5; refine ⟨6, by omega, ?_⟩)
    | (have := inl6; refine ⟨7, by omega, ?_⟩)
    | (have := out1; refine ⟨(0 : Nat), Nat.zero_le _, rfl⟩)
    | (refine ⟨(0 : Nat), Nat.zero_le _, rfl⟩)
    | (exact ⟨_, _, _, rfl, rfl, by omega, (by show (_ : Int) < ((7 : Nat) : Int); omega)⟩)
    | (refine And.intro ?_ ?_)
    | (intro hx; have hprop := (show ∀ (p : Prop), p → True from fun _ _ => True.intro) _ hx; clear hprop; first | (cases hx; done) | (exfalso; revert hx; simp (disch := omega) only [decide_eq_true_eq, decide_eq_false_iff_not, Bool.not_eq_true', Bool.not_eq_false', Bool.and_eq_true, Bool.and_eq_false_iff, Int.not_lt, Int.not_le, ne_eq, not_false_eq_true, not_true_eq_false, reduceCtorEq, Bool.true_eq_false, Bool.false_eq_true, beq_iff_eq, bne_iff_ne, beq_eq_false_iff_ne, false_or, or_false, true_and, and_true, at7_0, at7_1, at7_2, at7_3, at7_4, at7_5, at7_6, len7w, app_ofL, lst_ofL, lstSz_ofL, prs_len, ints_length, ch2]; done) | (simp (disch := omega) only [decide_eq_true_eq, decide_eq_false_iff_not, Bool.not_eq_true', Bool.not_eq_false', Bool.and_eq_true, Bool.and_eq_false_iff, Int.not_lt, Int.not_le, ne_eq, not_false_eq_true, not_true_eq_false, reduceCtorEq, Bool.true_eq_false, Bool.false_eq_true, beq_iff_eq, bne_iff_ne, beq_eq_false_iff_ne, false_or, or_false, true_and, and_true, at7_0, at7_1, at7_2, at7_3, at7_4, at7_5, at7_6, len7w, app_ofL, lst_ofL, lstSz_ofL, prs_len, ints_length, ch2] at hx; first | (exfalso; omega) | skip) | skip)
    | trivial
    | exact fit_ofL _ _
    | (simp (disch := omega) only [notAgg_v, notAgg_sl, plain_v, fits, fitsOne, fitsCells, xsOf, cell_zero, cell_succ, List.range, List.range.loop, List.map, cond_true, cond_false, D.v.injEq, exists_eq', exists_eq, and_self, and_true, true_and, D.agg.injEq, List.length, exists_eq_left', D.sl.injEq, reduceCtorEq, false_or, true_or, or_true, or_false, cell_zero, cell_succ, cell_v, cells_v, cells_agg, List.length_cons, List.length_nil, at7_0, at7_1, at7_2, at7_3, at7_4, at7_5, at7_6, len7w, app_ofL, lst_ofL, lstSz_ofL, prs_len, ints_length, ch2]; done))
  all_goals first
    | (exfalso; omega)
    | omega
    | rfl
    | exact ⟨_, rfl⟩
    | exact notAgg_v _
    | exact fit_ofL _ _
    | exact .inl rfl
    | exact plainP _
    | exact plain_v _
    | (simp only [leftN]; omega)
    | exact plain_ofL (ints_plain _ _)
    | (show 0 + 1 ≤ 1; omega)
    | (simp only [ints_length, prs_len, List.length_cons, List.length_nil]; omega)
    | (rw [hst]; simp only [app_ofL, prs, List.map_append, List.map_cons, List.map_nil]; rfl)
    | (exfalso; exact hcond (by omega) (by assumption))
    | exact .inr ⟨_, rfl⟩
    | (simp; done)
    | fail

set_option maxHeartbeats 4000000 in
theorem rgetU (s : List Int) (hs : Bytes s) (hl : s.length ≤ 100000) (hE : getE s = (unF s).2) (hR : getR s = zS) (hu : (unF s).2 ≠ 0) : PureD Try.prog 20 [str s] [getR s, .v (.int .i64 (getE s))] := by
  refine pure_cond (Lp := (fun k => if k = 8 then some ⟨[9], [8], [2, 6, 7], [(6, [0, 1, 2], [])]⟩ else if k = 15 then some ⟨[13], [], [2, 6, 8, 12], [(6, [0, 1, 2], []), (12, [0, 1, 2, 3, 4, 5, 7], [6])]⟩ else none)) (by kernel_rfl) Try.func20 (by kernel_rfl) (by kernel_rfl) ?_
  rw [vc_rgetD s]
  have UN := runseal s hs hl
  have hub := un_bd s
  rw [hE, hR]
  unfold zS
  repeat' (first
    | (refine ex_some (by simp (disch := omega) only [bin_shr, bin_shl, bin_and, bin_or, bin_xor, len_str, toStr_ofL, bin_add, bin_sub, bin_mul, bin_quo, bin_rem, bin_lss, bin_leq, bin_gtr, bin_geq, bin_eql, bin_neq, eqs_cn, eqs_ci, eqs_cb, eqs_cs, Option.map_some, lenT_ofL, lst_ofL, lstSz_ofL, chunk_one, lst_nil, lst_sl, lstSz_sl, lstSz_nil, Bool.and_true, Bool.true_and, Bool.and_false, Bool.false_and, beq_self_eq_true, beq_bb, bne_bb, un_not, un_neg, conv_int, min2_int, max2_int, w64, w32, wu8, wu16, wu32, wu64, tdiv_nn, tmod_nn, cell_zero, cell_succ, cell_v, cells_v, cells_agg, Bool.not_true, Bool.not_false, Int.reduceLT, Int.reduceLE, Int.reduceEq, Int.reduceNeg, Int.reduceAdd, Int.reduceSub, Int.reduceMul, intOf_v, decide_true, decide_false]; rfl) ?_)
    | (refine ex_bool ?_)
    | (refine ⟨_, _, UN, ?_⟩)
    | (refine And.intro ?_ ?_)
    | (intro hx; have hprop := (show ∀ (p : Prop), p → True from fun _ _ => True.intro) _ hx; clear hprop; first | (cases hx; done) | (exfalso; revert hx; simp (disch := omega) only [decide_eq_true_eq, decide_eq_false_iff_not, Bool.not_eq_true', Bool.not_eq_false', Bool.and_eq_true, Bool.and_eq_false_iff, Int.not_lt, Int.not_le, ne_eq, not_false_eq_true, not_true_eq_false, reduceCtorEq, Bool.true_eq_false, Bool.false_eq_true, beq_iff_eq, bne_iff_ne, beq_eq_false_iff_ne, false_or, or_false, true_and, and_true]; done) | (simp (disch := omega) only [decide_eq_true_eq, decide_eq_false_iff_not, Bool.not_eq_true', Bool.not_eq_false', Bool.and_eq_true, Bool.and_eq_false_iff, Int.not_lt, Int.not_le, ne_eq, not_false_eq_true, not_true_eq_false, reduceCtorEq, Bool.true_eq_false, Bool.false_eq_true, beq_iff_eq, bne_iff_ne, beq_eq_false_iff_ne, false_or, or_false, true_and, and_true] at hx; first | (exfalso; omega) | skip) | skip)
    | trivial
    | exact fit_ofL _ _
    | (simp (disch := omega) only [notAgg_v, notAgg_sl, plain_v, fits, fitsOne, fitsCells, xsOf, cell_zero, cell_succ, List.range, List.range.loop, List.map, cond_true, cond_false, D.v.injEq, exists_eq', exists_eq, and_self, and_true, true_and, D.agg.injEq, List.length, exists_eq_left', D.sl.injEq, reduceCtorEq, false_or, true_or, or_true, or_false, cell_zero, cell_succ, cell_v, cells_v, cells_agg, List.length_cons, List.length_nil]; done))
  all_goals first
    | (exfalso; omega)
    | omega
    | rfl
    | exact ⟨_, rfl⟩
    | exact notAgg_v _
    | exact fit_ofL _ _
    | exact .inl rfl
    | exact plainP _
    | exact plain_v _
    | (simp only [leftN]; omega)
    | exact plain_ofL (ints_plain _ _)
    | (show 0 + 1 ≤ 1; omega)
    | (simp only [ints_length, prs_len, List.length_cons, List.length_nil]; omega)
    | (rw [hst]; simp only [app_ofL, prs, List.map_append, List.map_cons, List.map_nil]; rfl)
    | (exfalso; exact hcond (by omega) (by assumption))
    | exact .inr ⟨_, rfl⟩
    | (simp; done)
    | fail

end Go.Proofs.Ytioodaefgpkkeaa