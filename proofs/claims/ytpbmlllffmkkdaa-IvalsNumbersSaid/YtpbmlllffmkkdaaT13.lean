/-
  Layer 6: the reference: ends.
-/
import Derived.Test.YtpbmlllffmkkdaaT1
import Derived.Test.YtpbmlllffmkkdaaT2
import Derived.Test.YtpbmlllffmkkdaaT3
import Derived.Test.YtpbmlllffmkkdaaT4
import Derived.Test.YtpbmlllffmkkdaaT5
import Derived.Test.YtpbmlllffmkkdaaT6
import Derived.Test.YtpbmlllffmkkdaaT7
import Derived.Test.YtpbmlllffmkkdaaT8
import Derived.Test.YtpbmlllffmkkdaaT10
import Derived.Test.YtpbmlllffmkkdaaT11
import Derived.Test.YtpbmlllffmkkdaaT12
namespace Go.Proofs.Ytpbmlllffmkkdaa
open Go.RowKit
set_option linter.unusedSimpArgs false
set_option linter.unusedVariables false


abbrev fl2 (l : List Z) : List Int := l.flatMap fun z => [z.1, z.2]
theorem fl2_len : ∀ l : List Z, (fl2 l).length = 2 * l.length
  | [] => rfl
  | z :: l => by have := fl2_len l; simp only [fl2] at this; simp only [fl2, List.flatMap_cons, List.length_append, List.length_cons, List.length_nil, this]; omega
theorem all_is (a b : List Z) : fl2 a ++ fl2 b = allE a b := rfl
theorem fl2_sn {l : List Z} {i : Nat} (h : i < l.length) : fl2 (l.take (i + 1)) = fl2 (l.take i) ++ [(l.getD i (0, 0)).1, (l.getD i (0, 0)).2] := by
  rw [take_sn h]; simp [fl2]
theorem ch12 (a b : D) : chunks false 1 2 [a, b] = [a, b] := rfl
theorem app_two (l : List Int) (p q : Int) : D.app 1 (ofL 1 (ints .i64 l)) [.v (.int .i64 p), .v (.int .i64 q)] = ofL 1 (ints .i64 (l ++ [p, q])) := by
  rw [app_ofL]; simp [ints]
theorem cutLo {l : List Int} {k : Nat} (h : k ≤ l.length) : ∃ r, D.cutL 1 (ofL 1 (ints .i64 l)) none (some (.v (.int .i64 (k : Nat)))) none = some r ∧ r.lstSz 1 = some (ints .i64 (l.take k)) := by
  obtain ⟨r, h1, h2⟩ := (isL_ofL 1 (ints .i64 l)).cut (dl := none) (dh := some (.v (.int .i64 (k : Nat)))) (dm := none) (l := 0) (hh := (k : Nat)) (m := (l.length : Nat)) rfl rfl (by rw [ints_length]; rfl) (by omega) (by omega) (by omega) (by rw [ints_length]; omega)
  refine ⟨r, h1, ?_⟩
  rw [h2.lstSz]; simp [ints_take]
theorem cutHi {l : List Int} {k : Nat} (h : k ≤ l.length) : ∃ r, D.cutL 1 (ofL 1 (ints .i64 l)) (some (.v (.int .i64 (k : Nat)))) none none = some r ∧ r.lstSz 1 = some (ints .i64 (l.drop k)) := by
  obtain ⟨r, h1, h2⟩ := (isL_ofL 1 (ints .i64 l)).cut (dl := some (.v (.int .i64 (k : Nat)))) (dh := none) (dm := none) (l := (k : Nat)) (hh := (l.length : Nat)) (m := (l.length : Nat)) rfl (by rw [ints_length]; rfl) (by rw [ints_length]; rfl) (by omega) (by omega) (by omega) (by rw [ints_length]; omega)
  refine ⟨r, h1, ?_⟩
  rw [h2.lstSz, Int.toNat_natCast, ints_drop, ints_take, List.take_of_length_le (by rw [List.length_drop]; omega)]
theorem ins_eq {O : List Int} {v : Int} {k : Nat} (hk : k < O.length) (hp : k = posE O v 0) (e : O.getD k 0 = v) : ofL 1 (ints .i64 (insE O v)) = ofL 1 (ints .i64 O) := by unfold insE; rw [← hp, if_pos ⟨hk, e⟩]
theorem ins_ne {O : List Int} {v : Int} {k : Nat} (hp : k = posE O v 0) (e : ¬ (k < O.length ∧ O.getD k 0 = v)) : ofL 1 (ints .i64 (insE O v)) = D.app 1 (D.app 1 (D.app 1 (.v nilS) (ints .i64 (O.take k))) [.v (.int .i64 v)]) (ints .i64 (O.drop k)) := by
  unfold insE
  rw [← hp, if_neg e, app_nil, app_ofL, app_ofL]
  simp [ints]
theorem ins_len (O : List Int) (v : Int) : (insE O v).length ≤ O.length + 1 := by
  unfold insE
  split
  · omega
  · simp only [List.length_append, List.length_take, List.length_cons, List.length_drop]; omega
theorem insF_len : ∀ (l O : List Int), (l.foldl insE O).length ≤ O.length + l.length
  | [], O => by simp
  | v :: l, O => by
    have h1 := insF_len l (insE O v)
    have h2 := ins_len O v
    simp only [List.foldl_cons, List.length_cons]; omega

theorem vc_ends (x y : D) (zs ys : List (Int × Int)) : Cond Try.prog (fun k => if k = 3 then some ⟨[6], [5], [0, 1], []⟩ else if k = 7 then some ⟨[7], [5], [1], []⟩ else if k = 12 then some ⟨[9], [8], [5], []⟩ else if k = 15 then some ⟨[10], [], [5, 8, 9], []⟩ else if k = 5019 then some ⟨[8], [], [], []⟩ else none) Try.f42 [x, y] [ofL 1 (ints .i64 (endsF zs ys))] = ((NotAgg x ∧ NotAgg y ∧ True) ∧ ∃ (I : List D → Prop), ∃ (μ : List D → Nat), ((D.v (Value.int IntKind.i64 0) = D.v (Value.int IntKind.i64 0) ∧ true = true ∧ x = x ∧ y = y ∧ True) ∧ ((true = true ∧ D.v nilS = D.v nilS) ∧ True) ∧ I [D.v (Value.int IntKind.i64 0), D.v nilS]) ∧ ∀ (r r_1 : D), I [r, r_1] → ∃ (r_2 : D), D.lenT (TypeDesc.slice 24) x = some r_2 ∧ ∃ (r_3 : D), D.bin BinOp.lss r r_2 = some r_3 ∧ ∃ (b : Bool), r_3 = D.v (Value.bool b) ∧ (b = true → D.inb 2 x r ∧ 0 + 1 ≤ (x.at_ r).cells.length ∧ D.inb 2 x r ∧ 0 + 1 + 1 ≤ (x.at_ r).cells.length ∧ ∃ (ls : List D), r_1.lst = some ls ∧ ∃ (lx : List D), D.lstSz 1 (D.sl 1 (chunks false 1 2 [(x.at_ r).cell 0, (x.at_ r).cell (0 + 1)])) = some lx ∧ (ls.length + lx.length) * 8 ≤ 1099511627776 ∧ ∃ (r_4 : D), D.bin BinOp.add r (D.v (Value.int IntKind.i64 1)) = some r_4 ∧ (r_4 = r_4 ∧ true = true ∧ x = x ∧ y = y ∧ True) ∧ ((true = true ∧ D.app 1 r_1 lx = D.app 1 r_1 lx) ∧ True) ∧ I [r_4, D.app 1 r_1 lx] ∧ μ [r_4, D.app 1 r_1 lx] < μ [r, r_1]) ∧ (b = false → ∃ (I : List D → Prop), ∃ (μ : List D → Nat), ((D.v (Value.int IntKind.i64 0) = D.v (Value.int IntKind.i64 0) ∧ true = true ∧ y = y ∧ True) ∧ ((true = true ∧ r_1 = r_1) ∧ True) ∧ I [D.v (Value.int IntKind.i64 0), r_1]) ∧ ∀ (r r_4 : D), I [r, r_4] → ∃ (r_5 : D), D.lenT (TypeDesc.slice 24) y = some r_5 ∧ ∃ (r_6 : D), D.bin BinOp.lss r r_5 = some r_6 ∧ ∃ (b : Bool), r_6 = D.v (Value.bool b) ∧ (b = true → D.inb 2 y r ∧ 0 + 1 ≤ (y.at_ r).cells.length ∧ D.inb 2 y r ∧ 0 + 1 + 1 ≤ (y.at_ r).cells.length ∧ ∃ (ls : List D), r_4.lst = some ls ∧ ∃ (lx : List D), D.lstSz 1 (D.sl 1 (chunks false 1 2 [(y.at_ r).cell 0, (y.at_ r).cell (0 + 1)])) = some lx ∧ (ls.length + lx.length) * 8 ≤ 1099511627776 ∧ ∃ (r_7 : D), D.bin BinOp.add r (D.v (Value.int IntKind.i64 1)) = some r_7 ∧ (r_7 = r_7 ∧ true = true ∧ y = y ∧ True) ∧ ((true = true ∧ D.app 1 r_4 lx = D.app 1 r_4 lx) ∧ True) ∧ I [r_7, D.app 1 r_4 lx] ∧ μ [r_7, D.app 1 r_4 lx] < μ [r, r_4]) ∧ (b = false → ∃ (I : List D → Prop), ∃ (μ : List D → Nat), ((D.v (Value.int IntKind.i64 0) = D.v (Value.int IntKind.i64 0) ∧ true = true ∧ true = true ∧ True) ∧ ((true = true ∧ D.v nilS = D.v nilS) ∧ (true = true ∧ r_4 = r_4) ∧ True) ∧ I [D.v (Value.int IntKind.i64 0), D.v nilS]) ∧ ∀ (r r_7 : D), I [r, r_7] → ∃ (r_8 : D), D.lenT (TypeDesc.slice 3) r_4 = some r_8 ∧ ∃ (r_9 : D), D.bin BinOp.lss r r_8 = some r_9 ∧ ∃ (b : Bool), r_9 = D.v (Value.bool b) ∧ (b = true → ∃ (I_1 : List D → Prop), ∃ (μ_1 : List D → Nat), ((D.v (Value.int IntKind.i64 0) = D.v (Value.int IntKind.i64 0) ∧ true = true ∧ true = true ∧ r = r ∧ True) ∧ ((true = true ∧ r_4 = r_4) ∧ (true = true ∧ r_7 = r_7) ∧ True) ∧ I_1 [D.v (Value.int IntKind.i64 0)]) ∧ ∀ (r_10 : D), I_1 [r_10] → ∃ (r_11 : D), D.lenT (TypeDesc.slice 3) r_7 = some r_11 ∧ ∃ (r_12 : D), D.bin BinOp.lss r_10 r_11 = some r_12 ∧ ∃ (b : Bool), r_12 = D.v (Value.bool b) ∧ (b = true → D.inb 1 r_7 r_10 ∧ 0 + 1 ≤ (r_7.at_ r_10).cells.length ∧ D.inb 1 r_4 r ∧ 0 + 1 ≤ (r_4.at_ r).cells.length ∧ ∃ (r_13 : D), D.bin BinOp.lss ((r_7.at_ r_10).cell 0) ((r_4.at_ r).cell 0) = some r_13 ∧ ∃ (b : Bool), r_13 = D.v (Value.bool b) ∧ (b = true → ∃ (r_14 : D), D.bin BinOp.add r_10 (D.v (Value.int IntKind.i64 1)) = some r_14 ∧ (r_14 = r_14 ∧ true = true ∧ true = true ∧ r = r ∧ True) ∧ ((true = true ∧ r_4 = r_4) ∧ (true = true ∧ r_7 = r_7) ∧ True) ∧ I_1 [r_14] ∧ μ_1 [r_14] < μ_1 [r_10]) ∧ (b = false → ∃ (r_14 : D), D.lenT (TypeDesc.slice 3) r_7 = some r_14 ∧ ∃ (r_15 : D), D.bin BinOp.lss r_10 r_14 = some r_15 ∧ ∃ (b : Bool), r_15 = D.v (Value.bool b) ∧ (b = true → D.inb 1 r_7 r_10 ∧ 0 + 1 ≤ (r_7.at_ r_10).cells.length ∧ D.inb 1 r_4 r ∧ 0 + 1 ≤ (r_4.at_ r).cells.length ∧ ∃ (r_16 : D), D.bin BinOp.eql ((r_7.at_ r_10).cell 0) ((r_4.at_ r).cell 0) = some r_16 ∧ ∃ (b : Bool), r_16 = D.v (Value.bool b) ∧ (b = true → ∃ (r_17 : D), D.bin BinOp.add r (D.v (Value.int IntKind.i64 1)) = some r_17 ∧ (r_17 = r_17 ∧ true = true ∧ true = true ∧ True) ∧ ((true = true ∧ r_7 = r_7) ∧ (true = true ∧ r_4 = r_4) ∧ True) ∧ I [r_17, r_7] ∧ μ [r_17, r_7] < μ [r, r_7]) ∧ (b = false → ∃ (r_17 : D), D.cutL 1 r_7 none (some r_10) none = some r_17 ∧ ∃ (ls : List D), (D.v nilS).lst = some ls ∧ ∃ (lx : List D), D.lstSz 1 r_17 = some lx ∧ (ls.length + lx.length) * 8 ≤ 1099511627776 ∧ D.inb 1 r_4 r ∧ 0 + 1 ≤ (r_4.at_ r).cells.length ∧ ∃ (ls : List D), (D.app 1 (D.v nilS) lx).lst = some ls ∧ ∃ (lx_1 : List D), D.lstSz 1 (D.sl 1 (chunks false 1 1 [(r_4.at_ r).cell 0])) = some lx_1 ∧ (ls.length + lx_1.length) * 8 ≤ 1099511627776 ∧ ∃ (r_18 : D), D.cutL 1 r_7 (some r_10) none none = some r_18 ∧ ∃ (ls : List D), (D.app 1 (D.app 1 (D.v nilS) lx) lx_1).lst = some ls ∧ ∃ (lx_2 : List D), D.lstSz 1 r_18 = some lx_2 ∧ (ls.length + lx_2.length) * 8 ≤ 1099511627776 ∧ ∃ (r_19 : D), D.bin BinOp.add r (D.v (Value.int IntKind.i64 1)) = some r_19 ∧ (r_19 = r_19 ∧ true = true ∧ true = true ∧ True) ∧ ((true = true ∧ D.app 1 (D.app 1 (D.app 1 (D.v nilS) lx) lx_1) lx_2 = D.app 1 (D.app 1 (D.app 1 (D.v nilS) lx) lx_1) lx_2) ∧ (true = true ∧ r_4 = r_4) ∧ True) ∧ I [r_19, D.app 1 (D.app 1 (D.app 1 (D.v nilS) lx) lx_1) lx_2] ∧ μ [r_19, D.app 1 (D.app 1 (D.app 1 (D.v nilS) lx) lx_1) lx_2] < μ [r, r_7])) ∧ (b = false → ∃ (r_16 : D), D.cutL 1 r_7 none (some r_10) none = some r_16 ∧ ∃ (ls : List D), (D.v nilS).lst = some ls ∧ ∃ (lx : List D), D.lstSz 1 r_16 = some lx ∧ (ls.length + lx.length) * 8 ≤ 1099511627776 ∧ D.inb 1 r_4 r ∧ 0 + 1 ≤ (r_4.at_ r).cells.length ∧ ∃ (ls : List D), (D.app 1 (D.v nilS) lx).lst = some ls ∧ ∃ (lx_1 : List D), D.lstSz 1 (D.sl 1 (chunks false 1 1 [(r_4.at_ r).cell 0])) = some lx_1 ∧ (ls.length + lx_1.length) * 8 ≤ 1099511627776 ∧ ∃ (r_17 : D), D.cutL 1 r_7 (some r_10) none none = some r_17 ∧ ∃ (ls : List D), (D.app 1 (D.app 1 (D.v nilS) lx) lx_1).lst = some ls ∧ ∃ (lx_2 : List D), D.lstSz 1 r_17 = some lx_2 ∧ (ls.length + lx_2.length) * 8 ≤ 1099511627776 ∧ ∃ (r_18 : D), D.bin BinOp.add r (D.v (Value.int IntKind.i64 1)) = some r_18 ∧ (r_18 = r_18 ∧ true = true ∧ true = true ∧ True) ∧ ((true = true ∧ D.app 1 (D.app 1 (D.app 1 (D.v nilS) lx) lx_1) lx_2 = D.app 1 (D.app 1 (D.app 1 (D.v nilS) lx) lx_1) lx_2) ∧ (true = true ∧ r_4 = r_4) ∧ True) ∧ I [r_18, D.app 1 (D.app 1 (D.app 1 (D.v nilS) lx) lx_1) lx_2] ∧ μ [r_18, D.app 1 (D.app 1 (D.app 1 (D.v nilS) lx) lx_1) lx_2] < μ [r, r_7]))) ∧ (b = false → ∃ (r_13 : D), D.lenT (TypeDesc.slice 3) r_7 = some r_13 ∧ ∃ (r_14 : D), D.bin BinOp.lss r_10 r_13 = some r_14 ∧ ∃ (b : Bool), r_14 = D.v (Value.bool b) ∧ (b = true → D.inb 1 r_7 r_10 ∧ 0 + 1 ≤ (r_7.at_ r_10).cells.length ∧ D.inb 1 r_4 r ∧ 0 + 1 ≤ (r_4.at_ r).cells.length ∧ ∃ (r_15 : D), D.bin BinOp.eql ((r_7.at_ r_10).cell 0) ((r_4.at_ r).cell 0) = some r_15 ∧ ∃ (b : Bool), r_15 = D.v (Value.bool b) ∧ (b = true → ∃ (r_16 : D), D.bin BinOp.add r (D.v (Value.int IntKind.i64 1)) = some r_16 ∧ (r_16 = r_16 ∧ true = true ∧ true = true ∧ True) ∧ ((true = true ∧ r_7 = r_7) ∧ (true = true ∧ r_4 = r_4) ∧ True) ∧ I [r_16, r_7] ∧ μ [r_16, r_7] < μ [r, r_7]) ∧ (b = false → ∃ (r_16 : D), D.cutL 1 r_7 none (some r_10) none = some r_16 ∧ ∃ (ls : List D), (D.v nilS).lst = some ls ∧ ∃ (lx : List D), D.lstSz 1 r_16 = some lx ∧ (ls.length + lx.length) * 8 ≤ 1099511627776 ∧ D.inb 1 r_4 r ∧ 0 + 1 ≤ (r_4.at_ r).cells.length ∧ ∃ (ls : List D), (D.app 1 (D.v nilS) lx).lst = some ls ∧ ∃ (lx_1 : List D), D.lstSz 1 (D.sl 1 (chunks false 1 1 [(r_4.at_ r).cell 0])) = some lx_1 ∧ (ls.length + lx_1.length) * 8 ≤ 1099511627776 ∧ ∃ (r_17 : D), D.cutL 1 r_7 (some r_10) none none = some r_17 ∧ ∃ (ls : List D), (D.app 1 (D.app 1 (D.v nilS) lx) lx_1).lst = some ls ∧ ∃ (lx_2 : List D), D.lstSz 1 r_17 = some lx_2 ∧ (ls.length + lx_2.length) * 8 ≤ 1099511627776 ∧ ∃ (r_18 : D), D.bin BinOp.add r (D.v (Value.int IntKind.i64 1)) = some r_18 ∧ (r_18 = r_18 ∧ true = true ∧ true = true ∧ True) ∧ ((true = true ∧ D.app 1 (D.app 1 (D.app 1 (D.v nilS) lx) lx_1) lx_2 = D.app 1 (D.app 1 (D.app 1 (D.v nilS) lx) lx_1) lx_2) ∧ (true = true ∧ r_4 = r_4) ∧ True) ∧ I [r_18, D.app 1 (D.app 1 (D.app 1 (D.v nilS) lx) lx_1) lx_2] ∧ μ [r_18, D.app 1 (D.app 1 (D.app 1 (D.v nilS) lx) lx_1) lx_2] < μ [r, r_7])) ∧ (b = false → ∃ (r_15 : D), D.cutL 1 r_7 none (some r_10) none = some r_15 ∧ ∃ (ls : List D), (D.v nilS).lst = some ls ∧ ∃ (lx : List D), D.lstSz 1 r_15 = some lx ∧ (ls.length + lx.length) * 8 ≤ 1099511627776 ∧ D.inb 1 r_4 r ∧ 0 + 1 ≤ (r_4.at_ r).cells.length ∧ ∃ (ls : List D), (D.app 1 (D.v nilS) lx).lst = some ls ∧ ∃ (lx_1 : List D), D.lstSz 1 (D.sl 1 (chunks false 1 1 [(r_4.at_ r).cell 0])) = some lx_1 ∧ (ls.length + lx_1.length) * 8 ≤ 1099511627776 ∧ ∃ (r_16 : D), D.cutL 1 r_7 (some r_10) none none = some r_16 ∧ ∃ (ls : List D), (D.app 1 (D.app 1 (D.v nilS) lx) lx_1).lst = some ls ∧ ∃ (lx_2 : List D), D.lstSz 1 r_16 = some lx_2 ∧ (ls.length + lx_2.length) * 8 ≤ 1099511627776 ∧ ∃ (r_17 : D), D.bin BinOp.add r (D.v (Value.int IntKind.i64 1)) = some r_17 ∧ (r_17 = r_17 ∧ true = true ∧ true = true ∧ True) ∧ ((true = true ∧ D.app 1 (D.app 1 (D.app 1 (D.v nilS) lx) lx_1) lx_2 = D.app 1 (D.app 1 (D.app 1 (D.v nilS) lx) lx_1) lx_2) ∧ (true = true ∧ r_4 = r_4) ∧ True) ∧ I [r_17, D.app 1 (D.app 1 (D.app 1 (D.v nilS) lx) lx_1) lx_2] ∧ μ [r_17, D.app 1 (D.app 1 (D.app 1 (D.v nilS) lx) lx_1) lx_2] < μ [r, r_7]))) ∧ (b = false → (PlainD r_7 ∧ True) ∧ [r_7] = [ofL 1 (ints IntKind.i64 (endsF zs ys))])))) := by kernel_rfl
set_option maxHeartbeats 8000000 in
theorem ends (x y : D) (zs ys : List (Int × Int)) (hX : IsL 2 (zs.map iv) x) (hm : zs.length ≤ 1000) (hY : IsL 2 (ys.map iv) y) (hn : ys.length ≤ 1000) : PureD Try.prog 42 [x, y] [ofL 1 (ints .i64 (endsF zs ys))] := by
  refine pure_cond (Lp := (fun k => if k = 3 then some ⟨[6], [5], [0, 1], []⟩ else if k = 7 then some ⟨[7], [5], [1], []⟩ else if k = 12 then some ⟨[9], [8], [5], []⟩ else if k = 15 then some ⟨[10], [], [5, 8, 9], []⟩ else if k = 5019 then some ⟨[8], [], [], []⟩ else none)) (by kernel_rfl) Try.func42 (by kernel_rfl) (by kernel_rfl) ?_
  rw [vc_ends x y zs ys]
  simp only [hX.lenT, hY.lenT, List.length_map, Option.some.injEq, exists_eq_left']
  have h1 : True := trivial
  have h2 : True := trivial
  have hA0 := fl2_len zs
  have hA1 := fl2_len ys
  have hAl : (allE zs ys).length = 2 * zs.length + 2 * ys.length := by rw [← all_is, List.length_append, hA0, hA1]
  have hA := all_is zs ys
  have hR : endsF zs ys = (allE zs ys).foldl insE [] := rfl
  rw [hR]
  clear hR hA0 hA1
  generalize allE zs ys = A at hAl hA ⊢
  repeat' (first
    | (refine ex_some (by simp (disch := omega) only [bin_shr, bin_shl, bin_and, bin_or, bin_xor, len_str, toStr_ofL, bin_add, bin_sub, bin_mul, bin_quo, bin_rem, bin_lss, bin_leq, bin_gtr, bin_geq, bin_eql, bin_neq, eqs_cn, eqs_ci, eqs_cb, eqs_cs, Option.map_some, lenT_ofL, lst_ofL, lstSz_ofL, chunk_one, lst_nil, lst_sl, lstSz_sl, lstSz_nil, Bool.and_true, Bool.true_and, Bool.and_false, Bool.false_and, beq_self_eq_true, beq_bb, bne_bb, un_not, un_neg, conv_int, min2_int, max2_int, w64, w32, wu8, wu16, wu32, wu64, tdiv_nn, tmod_nn, cell_zero, cell_succ, cell_v, cells_v, cells_agg, Bool.not_true, Bool.not_false, Int.reduceLT, Int.reduceLE, Int.reduceEq, Int.reduceNeg, Int.reduceAdd, Int.reduceSub, Int.reduceMul, intOf_v, decide_true, decide_false, h1, h2, hX.lenT, hY.lenT, List.length_map, lenT_ofL, ints_length, ch12, app_nil, app_ofL]; rfl) ?_)
    | (refine ex_bool ?_)
    | (exact i1)
    | (exact i2)
    | (refine ⟨_, e1, ?_⟩)
    | (refine ⟨_, e2, ?_⟩)
    | (refine ⟨_, l1, ?_⟩)
    | (refine ⟨_, l2, ?_⟩)
    | (have := inl3; refine ⟨(fun r => ∃ k : Nat, k ≤ O.length ∧ posE O v k = posE O v 0 ∧ r = [.v (.int .i64 (k : Nat))]), leftG O.length, ?_⟩)
    | (have := inl3; refine fun (r8 : D) (hI : (fun r => ∃ k : Nat, k ≤ O.length ∧ posE O v k = posE O v 0 ∧ r = [.v (.int .i64 (k : Nat))]) [r8]) => ?_; obtain ⟨k, hk, hp, hl0⟩ := hI; simp only [List.cons.injEq, and_true] at hl0; subst hl0; by_cases hlt : k < O.length <;> first | (obtain ⟨x1, e1, l1⟩ := cutLo (l := O) (k := k) (by omega); obtain ⟨x2, e2, l2⟩ := cutHi (l := O) (k := k) (by omega); have h2 := at_ofL_ints .i64 .i64 hlt; have i2 := inb_ofL_ints .i64 .i64 hlt; have hg := fun hh => (pos_go (out := O) (v := v) hlt hh).trans hp; have hn := fun hh => (pos_no (out := O) (v := v) (k := k) hh).symm.trans hp; have hYY := fun (a : v ≤ O.getD k 0) (b : O.getD k 0 = v) => ins_eq hlt (hn a) b; have hNN := fun (a : v ≤ O.getD k 0) (b : ¬ O.getD k 0 = v) => ins_ne (hn a) (fun c => b c.2); clear hn; generalize O.getD k 0 = u at h2 hg hYY hNN; simp only [h2, Nat.zero_add, cell_v, cells_v, List.length_cons, List.length_nil]; have inl4 : True := trivial) | (obtain ⟨x1, e1, l1⟩ := cutLo (l := O) (k := k) (by omega); obtain ⟨x2, e2, l2⟩ := cutHi (l := O) (k := k) (by omega); have hn := (pos_end (out := O) (v := v) hlt).symm.trans hp; have hNN := ins_ne hn (fun c => hlt c.1); clear hn; have out4 : True := trivial))
    | (have := out2; refine ⟨(fun r => ∃ i : Nat, i ≤ A.length ∧ r = [.v (.int .i64 (i : Nat)), ofL 1 (ints .i64 ((A.take i).foldl insE []))]), leftG A.length, ?_⟩)
    | (have := out2; refine fun (r6 r7 : D) (hI : (fun r => ∃ i : Nat, i ≤ A.length ∧ r = [.v (.int .i64 (i : Nat)), ofL 1 (ints .i64 ((A.take i).foldl insE []))]) [r6, r7]) => ?_; obtain ⟨i, hi, hl0⟩ := hI; simp only [List.cons.injEq, and_true] at hl0; obtain ⟨rfl, rfl⟩ := hl0; by_cases hlt : i < A.length <;> first | (have hk1 : i < A.length := (by omega); have h1 := at_ofL_ints .i64 .i64 hk1; have i1 := inb_ofL_ints .i64 .i64 hk1; have ht := foldl_succ 0 hk1 insE []; have hO := insF_len (A.take i) []; rw [List.length_take, List.length_nil] at hO; generalize (A.take i).foldl insE [] = O at ht hO; generalize A.getD i 0 = v at h1 ht; simp only [h1, Nat.zero_add, cell_v, cells_v, List.length_cons, List.length_nil]; have inl3 : True := trivial) | (have hkk : i = A.length := (by omega); subst hkk; rw [List.take_length]; have out3 : True := trivial))
    | (have := out1; refine ⟨(fun r => ∃ i : Nat, i ≤ ys.length ∧ r = [.v (.int .i64 (i : Nat)), ofL 1 (ints .i64 (fl2 zs ++ fl2 (ys.take i)))]), leftG ys.length, ?_⟩)
    | (have := out1; refine fun (r4 r5 : D) (hI : (fun r => ∃ i : Nat, i ≤ ys.length ∧ r = [.v (.int .i64 (i : Nat)), ofL 1 (ints .i64 (fl2 zs ++ fl2 (ys.take i)))]) [r4, r5]) => ?_; obtain ⟨i, hi, hl0⟩ := hI; simp only [List.cons.injEq, and_true] at hl0; obtain ⟨rfl, rfl⟩ := hl0; by_cases hlt : i < ys.length <;> first | (have hk1 : i < ys.length := (by omega); have h1 := iv_get hY hk1; have i1 := iv_inb hY hk1; have ht := fl2_sn hk1; generalize ys.getD i (0, 0) = z at h1 ht; obtain ⟨p, q⟩ := z; simp only [h1, iv, Nat.zero_add, cell_zero, cell_succ, cells_agg, List.length_cons, List.length_nil]; have inl2 : True := trivial) | (have hkk : i = ys.length := (by omega); subst hkk; rw [List.take_length, hA]; have out2 : True := trivial))
    | (refine ⟨(fun r => ∃ i : Nat, i ≤ zs.length ∧ r = [.v (.int .i64 (i : Nat)), ofL 1 (ints .i64 (fl2 (zs.take i)))]), leftG zs.length, ?_⟩)
    | (refine fun (r2 r3 : D) (hI : (fun r => ∃ i : Nat, i ≤ zs.length ∧ r = [.v (.int .i64 (i : Nat)), ofL 1 (ints .i64 (fl2 (zs.take i)))]) [r2, r3]) => ?_; obtain ⟨i, hi, hl0⟩ := hI; simp only [List.cons.injEq, and_true] at hl0; obtain ⟨rfl, rfl⟩ := hl0; by_cases hlt : i < zs.length <;> first | (have hk1 : i < zs.length := (by omega); have h1 := iv_get hX hk1; have i1 := iv_inb hX hk1; have ht := fl2_sn hk1; generalize zs.getD i (0, 0) = z at h1 ht; obtain ⟨p, q⟩ := z; simp only [h1, iv, Nat.zero_add, cell_zero, cell_succ, cells_agg, List.length_cons, List.length_nil]; have inl1 : True := trivial) | (have hkk : i = zs.length := (by omega); subst hkk; rw [List.take_length]; have out1 : True := trivial))
    | (have := inl4; exact ⟨k + 1, by omega, hg ‹_›, rfl⟩)
    | (have := inl3; refine ⟨i + 1, by omega, ?_⟩)
    | (have := inl3; exact ⟨0, Nat.zero_le _, rfl, rfl⟩)
    | (have := inl2; refine ⟨i + 1, by omega, ?_⟩)
    | (have := out2; exact ⟨0, Nat.zero_le _, rfl⟩)
    | (have := inl1; refine ⟨i + 1, by omega, ?_⟩)
    | (have := out1; refine ⟨0, Nat.zero_le _, ?_⟩)
    | (exact ⟨0, Nat.zero_le _, rfl⟩)
    | (refine And.intro ?_ ?_)
    | (intro hx; have hprop := (show ∀ (p : Prop), p → True from fun _ _ => True.intro) _ hx; clear hprop; first | (cases hx; done) | (exfalso; revert hx; simp (disch := omega) only [decide_eq_true_eq, decide_eq_false_iff_not, Bool.not_eq_true', Bool.not_eq_false', Bool.and_eq_true, Bool.and_eq_false_iff, Int.not_lt, Int.not_le, ne_eq, not_false_eq_true, not_true_eq_false, reduceCtorEq, Bool.true_eq_false, Bool.false_eq_true, beq_iff_eq, bne_iff_ne, beq_eq_false_iff_ne, false_or, or_false, true_and, and_true, h1, h2, hX.lenT, hY.lenT, List.length_map, lenT_ofL, ints_length, ch12, app_nil, app_ofL]; done) | (simp (disch := omega) only [decide_eq_true_eq, decide_eq_false_iff_not, Bool.not_eq_true', Bool.not_eq_false', Bool.and_eq_true, Bool.and_eq_false_iff, Int.not_lt, Int.not_le, ne_eq, not_false_eq_true, not_true_eq_false, reduceCtorEq, Bool.true_eq_false, Bool.false_eq_true, beq_iff_eq, bne_iff_ne, beq_eq_false_iff_ne, false_or, or_false, true_and, and_true, h1, h2, hX.lenT, hY.lenT, List.length_map, lenT_ofL, ints_length, ch12, app_nil, app_ofL] at hx; first | (exfalso; omega) | skip) | skip)
    | trivial
    | exact fit_ofL _ _
    | (simp (disch := omega) only [notAgg_v, notAgg_sl, plain_v, fits, fitsOne, fitsCells, xsOf, cell_zero, cell_succ, List.range, List.range.loop, List.map, cond_true, cond_false, D.v.injEq, exists_eq', exists_eq, and_self, and_true, true_and, D.agg.injEq, List.length, exists_eq_left', D.sl.injEq, reduceCtorEq, false_or, true_or, or_true, or_false, cell_zero, cell_succ, cell_v, cells_v, cells_agg, List.length_cons, List.length_nil, h1, h2, hX.lenT, hY.lenT, List.length_map, lenT_ofL, ints_length, ch12, app_nil, app_ofL]; done))
  all_goals first
    | (exfalso; omega)
    | omega
    | exact hX.notAgg
    | exact hY.notAgg
    | (simp only [leftG]; omega)
    | (rw [h1]; exact Nat.le_refl _)
    | exact plain_ofL (ints_plain _ _)
    | rfl
    | (rw [ht, hNN] <;> first | assumption | rfl)
    | (rw [ht, hYY] <;> first | assumption | rfl)
    | (rw [ht, app_two]; rfl)
    | (rw [ht, ← List.append_assoc, app_two]; rfl)
    | (simp only [List.take_zero, List.flatMap_nil, List.append_nil]; rfl)
    | (simp only [List.length_append, ints_length, fl2_len, List.length_take, List.length_drop, List.length_cons, List.length_nil]; omega)
    | fail

end Go.Proofs.Ytpbmlllffmkkdaa