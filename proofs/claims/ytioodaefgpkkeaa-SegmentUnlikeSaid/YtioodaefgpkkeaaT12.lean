/-
  Layer 7: what every right program puts, and gets.
-/
import Derived.Test.YtioodaefgpkkeaaT1
import Derived.Test.YtioodaefgpkkeaaT2
import Derived.Test.YtioodaefgpkkeaaT3
import Derived.Test.YtioodaefgpkkeaaT4
import Derived.Test.YtioodaefgpkkeaaT5
import Derived.Test.YtioodaefgpkkeaaT6
import Derived.Test.YtioodaefgpkkeaaT7
import Derived.Test.YtioodaefgpkkeaaT8
import Derived.Test.YtioodaefgpkkeaaT9
import Derived.Test.YtioodaefgpkkeaaT10
namespace Go.Proofs.Ytioodaefgpkkeaa
open Go.RowKit
set_option linter.unusedSimpArgs false
set_option linter.unusedVariables false


def aw : List Int := [6, 2, 0, 3, 0, 0, 1, 2, 128, 0, 0, 0, 2, 0, 1, 0, 0, 0, 5, 0, 0, 0, 9, 2, 97, 98]
theorem aw_str : D.v (.string ⟨⟨[6, 2, 0, 3, 0, 0, 1, 2, 128, 0, 0, 0, 2, 0, 1, 0, 0, 0, 5, 0, 0, 0, 9, 2, 97, 98]⟩⟩) = str aw := by
  unfold str; congr 2
theorem ab_str : D.v (.string ⟨⟨[97, 98]⟩⟩) = str [97, 98] := by unfold str; congr 2
theorem q_str : D.v (.string ⟨⟨[63]⟩⟩) = str [63] := by unfold str; congr 2
theorem bytes_dec {l : List Int} (h : (l.all fun x => decide (0 ≤ x ∧ x < 256)) = true) : Bytes l := fun x hx => by
  have := List.all_eq_true.1 h x hx
  simpa using this
theorem aw_bytes : Bytes aw := bytes_dec (by decide +kernel)
theorem aw_put : putL 6 2 3 258 2147483648 512 [(5, 9)] [97, 98] = aw := by decide +kernel
theorem aw_chk : sgChk 6 2 3 2147483648 512 1 2 = 0 ∧ sgChk 0 0 0 1 0 0 0 = 4 := by decide +kernel
theorem un_seal (l : List Int) : unF (sealF l) = (l, 0) := by
  have e : (sealF l).take ((sealF l).length - 4) = l := by
    rw [seal_len, show l.length + 4 - 4 = l.length by omega]
    simp [sealF]
  unfold unF
  rw [if_neg (by rw [seal_len]; omega), e, if_pos rfl]
theorem aw_get : gD aw = 0 ∧ gC aw = 0 := by decide +kernel
theorem aw_vals : vN (g1 aw).2 = 6 ∧ vN (g2 aw).2 = 2 ∧ vN (g3 aw).2 = 3 ∧ vN (g4 aw).2 = 258 ∧ vN (g5 aw).2 = 2147483648 ∧ vN (g6 aw).2 = 512 ∧ (gb aw).2 = [(5, 9)] ∧ (g9 aw).2 = [97, 98] := by decide +kernel
theorem aw_getE : getE (sealF aw) = 0 := by unfold getE; rw [un_seal, if_neg (by simp), if_neg (by simp [aw_get.1])]; exact aw_get.2
theorem aw_getR : getR (sealF aw) = .agg [.v (.int .u8 6), .v (.int .i64 2), .v (.int .i64 3), .v (.int .u32 258), .v (.int .u32 2147483648), .v (.int .i64 512), .sl 2 (prs [(5, 9)]), str [97, 98]] := by
  obtain ⟨h1, h2, h3, h4, h5, h6, h7, h8⟩ := aw_vals
  unfold getR; rw [if_pos aw_getE, un_seal]
  unfold gSg
  rw [h1, h2, h3, h4, h5, h6, h7, h8]; rfl
theorem aw_bad : (unF ((sealF aw).take 29 ++ [63])).2 = 11 := by decide +kernel
theorem aw_badE : getE ((sealF aw).take 29 ++ [63]) = 11 := by unfold getE; rw [aw_bad, if_pos (by simp)]
theorem aw_badR : getR ((sealF aw).take 29 ++ [63]) = zS := by unfold getR; rw [if_neg (by rw [aw_badE]; simp)]
theorem isN : IsL 2 (prs []) (.v nilS) := .inr ⟨rfl, rfl⟩
theorem aw_has : hasB 6 4 = true ∧ hasB 6 1 = false ∧ spanF 6 2 = 3 := by decide +kernel

theorem vc_awake  : Cond Try.prog (fun _ => none) Try.f7 [] [.v (.bool true)] = (True ∧ ∃ (r : D), ∃ (r_1 : D), PureD Try.prog 9 [D.agg [D.v (Value.int IntKind.u8 6), D.v (Value.int IntKind.i64 2), D.v (Value.int IntKind.i64 3), D.v (Value.int IntKind.u32 258), D.v (Value.int IntKind.u32 2147483648), D.v (Value.int IntKind.i64 512), D.sl 2 (chunks true 2 1 [D.v (Value.int IntKind.u32 5), D.v (Value.int IntKind.u32 9)]), D.v (Value.string { data := { toList := [97, 98] } })]] [r, r_1] ∧ fits [(false, [none]), (false, [none])] [r, r_1] ∧ ∃ (r_2 : D), ∃ (r_3 : D), PureD Try.prog 19 [r] [r_2, r_3] ∧ fits [(true, [none, none, none, none, none, none, some 2, none]), (false, [none])] [r_2, r_3] ∧ ∃ (r_4 : D), D.lenT TypeDesc.string r = some r_4 ∧ ∃ (r_5 : D), D.bin BinOp.sub r_4 (D.v (Value.int IntKind.i64 1)) = some r_5 ∧ ∃ (r_6 : D), (D.v (Value.int IntKind.i64 0)).max2 r_5 = some r_6 ∧ ∃ (r_7 : D), r.cutS none (some r_6) = some r_7 ∧ ∃ (r_8 : D), D.bin BinOp.add r_7 (D.v (Value.string { data := { toList := [63] } })) = some r_8 ∧ ∃ (r_9 : D), ∃ (r_10 : D), PureD Try.prog 19 [r_8] [r_9, r_10] ∧ fits [(true, [none, none, none, none, none, none, some 2, none]), (false, [none])] [r_9, r_10] ∧ ∃ (r_11 : D), ∃ (r_12 : D), PureD Try.prog 9 [D.agg [D.v (Value.int IntKind.u8 0), D.v (Value.int IntKind.i64 0), D.v (Value.int IntKind.i64 0), D.v (Value.int IntKind.u32 0), D.v (Value.int IntKind.u32 1), D.v (Value.int IntKind.i64 0), D.v (Value.slice none 0 0), D.v (Value.string { data := { toList := [] } })]] [r_11, r_12] ∧ fits [(false, [none]), (false, [none])] [r_11, r_12] ∧ ∃ (r_13 : D), D.bin BinOp.eql r_1 (D.v (Value.int IntKind.i64 0)) = some r_13 ∧ ∃ (b : Bool), r_13 = D.v (Value.bool b) ∧ (b = true → ∃ (r_14 : D), PureD Try.prog 21 [D.v (Value.string { data := { toList := [6, 2, 0, 3, 0, 0, 1, 2, 128, 0, 0, 0, 2, 0, 1, 0, 0, 0, 5, 0, 0, 0, 9, 2, 97, 98] } })] [r_14] ∧ fits [(false, [none])] [r_14] ∧ ∃ (r_15 : D), D.bin BinOp.eql r r_14 = some r_15 ∧ ∃ (b : Bool), r_15 = D.v (Value.bool b) ∧ (b = true → ∃ (r_16 : D), D.bin BinOp.eql r_3 (D.v (Value.int IntKind.i64 0)) = some r_16 ∧ ∃ (b : Bool), r_16 = D.v (Value.bool b) ∧ (b = true → ∃ (r_17 : D), PureD Try.prog 17 [D.agg [D.v (Value.int IntKind.u8 6), D.v (Value.int IntKind.i64 2), D.v (Value.int IntKind.i64 3), D.v (Value.int IntKind.u32 258), D.v (Value.int IntKind.u32 2147483648), D.v (Value.int IntKind.i64 512), D.sl 2 (chunks true 2 1 [D.v (Value.int IntKind.u32 5), D.v (Value.int IntKind.u32 9)]), D.v (Value.string { data := { toList := [97, 98] } })], D.agg [r_2.cell 0, r_2.cell 1, r_2.cell 2, r_2.cell 3, r_2.cell 4, r_2.cell 5, r_2.cell 6, r_2.cell 7]] [r_17] ∧ fits [(false, [none])] [r_17] ∧ ∃ (b : Bool), r_17 = D.v (Value.bool b) ∧ (b = true → ∃ (r_18 : D), D.bin BinOp.eql r_10 (D.v (Value.int IntKind.i64 11)) = some r_18 ∧ ∃ (b : Bool), r_18 = D.v (Value.bool b) ∧ (b = false → ∃ (r_19 : D), D.lenT TypeDesc.string r = some r_19 ∧ ∃ (r_20 : D), D.bin BinOp.sub r_19 (D.v (Value.int IntKind.i64 1)) = some r_20 ∧ r.sinb r_20 ∧ ∃ (r_21 : D), D.bin BinOp.eql (r.byteAt r_20) (D.v (Value.int IntKind.u8 63)) = some r_21 ∧ ∃ (b : Bool), r_21 = D.v (Value.bool b) ∧ (b = true → ∃ (r : D), D.bin BinOp.eql r_12 (D.v (Value.int IntKind.i64 4)) = some r ∧ ∃ (b : Bool), r = D.v (Value.bool b) ∧ (b = true → ∃ (r : D), PureD Try.prog 13 [D.agg [D.v (Value.int IntKind.u8 6), D.v (Value.int IntKind.i64 2), D.v (Value.int IntKind.i64 3), D.v (Value.int IntKind.u32 258), D.v (Value.int IntKind.u32 2147483648), D.v (Value.int IntKind.i64 512), D.sl 2 (chunks true 2 1 [D.v (Value.int IntKind.u32 5), D.v (Value.int IntKind.u32 9)]), D.v (Value.string { data := { toList := [97, 98] } })]] [r] ∧ fits [(false, [none])] [r] ∧ ∃ (r_22 : D), D.bin BinOp.eql r (D.v (Value.int IntKind.i64 3)) = some r_22 ∧ ∃ (b : Bool), r_22 = D.v (Value.bool b) ∧ (b = true → ∃ (r : D), PureD Try.prog 15 [D.agg [D.v (Value.int IntKind.u8 6), D.v (Value.int IntKind.i64 2), D.v (Value.int IntKind.i64 3), D.v (Value.int IntKind.u32 258), D.v (Value.int IntKind.u32 2147483648), D.v (Value.int IntKind.i64 512), D.sl 2 (chunks true 2 1 [D.v (Value.int IntKind.u32 5), D.v (Value.int IntKind.u32 9)]), D.v (Value.string { data := { toList := [97, 98] } })], D.v (Value.int IntKind.u8 4)] [r] ∧ fits [(false, [none])] [r] ∧ ∃ (b : Bool), r = D.v (Value.bool b) ∧ (b = true → ∃ (r : D), PureD Try.prog 15 [D.agg [D.v (Value.int IntKind.u8 6), D.v (Value.int IntKind.i64 2), D.v (Value.int IntKind.i64 3), D.v (Value.int IntKind.u32 258), D.v (Value.int IntKind.u32 2147483648), D.v (Value.int IntKind.i64 512), D.sl 2 (chunks true 2 1 [D.v (Value.int IntKind.u32 5), D.v (Value.int IntKind.u32 9)]), D.v (Value.string { data := { toList := [97, 98] } })], D.v (Value.int IntKind.u8 1)] [r] ∧ fits [(false, [none])] [r] ∧ ∃ (r_23 : D), D.un UnOp.not r = some r_23 ∧ ∃ (b : Bool), r_23 = D.v (Value.bool b) ∧ (b = true → ∃ (r : D), PureD Try.prog 11 [D.agg [D.v (Value.int IntKind.u8 6), D.v (Value.int IntKind.i64 2), D.v (Value.int IntKind.i64 3), D.v (Value.int IntKind.u32 258), D.v (Value.int IntKind.u32 2147483648), D.v (Value.int IntKind.i64 512), D.sl 2 (chunks true 2 1 [D.v (Value.int IntKind.u32 5), D.v (Value.int IntKind.u32 9)]), D.v (Value.string { data := { toList := [97, 98] } })]] [r] ∧ fits [(false, [none])] [r] ∧ ∃ (r_24 : D), D.bin BinOp.eql r (D.v (Value.int IntKind.i64 0)) = some r_24 ∧ ∃ (b : Bool), r_24 = D.v (Value.bool b) ∧ (b = true → ∃ (r : D), PureD Try.prog 17 [D.agg [D.v (Value.int IntKind.u8 6), D.v (Value.int IntKind.i64 2), D.v (Value.int IntKind.i64 3), D.v (Value.int IntKind.u32 258), D.v (Value.int IntKind.u32 2147483648), D.v (Value.int IntKind.i64 512), D.sl 2 (chunks true 2 1 [D.v (Value.int IntKind.u32 5), D.v (Value.int IntKind.u32 9)]), D.v (Value.string { data := { toList := [97, 98] } })], D.agg [D.v (Value.int IntKind.u8 0), D.v (Value.int IntKind.i64 0), D.v (Value.int IntKind.i64 0), D.v (Value.int IntKind.u32 0), D.v (Value.int IntKind.u32 0), D.v (Value.int IntKind.i64 0), D.v (Value.slice none 0 0), D.v (Value.string { data := { toList := [] } })]] [r] ∧ fits [(false, [none])] [r] ∧ ∃ (r_25 : D), D.un UnOp.not r = some r_25 ∧ ∃ (b : Bool), r_25 = D.v (Value.bool b) ∧ ∃ (b : Bool), r_25 = D.v (Value.bool b) ∧ ∃ (b : Bool), r_25 = D.v (Value.bool b) ∧ ∃ (b : Bool), r_25 = D.v (Value.bool b) ∧ ∃ (b : Bool), r_25 = D.v (Value.bool b) ∧ ∃ (b : Bool), r_25 = D.v (Value.bool b) ∧ ∃ (b : Bool), r_25 = D.v (Value.bool b) ∧ ((∃ (y : Value), r_25 = D.v y) ∧ True) ∧ [r_25] = [D.v (Value.bool true)]) ∧ (b = false → (True ∧ True) ∧ [D.v (Value.bool false)] = [D.v (Value.bool true)])) ∧ (b = false → (True ∧ True) ∧ [D.v (Value.bool false)] = [D.v (Value.bool true)])) ∧ (b = false → (True ∧ True) ∧ [D.v (Value.bool false)] = [D.v (Value.bool true)])) ∧ (b = false → (True ∧ True) ∧ [D.v (Value.bool false)] = [D.v (Value.bool true)])) ∧ (b = false → (True ∧ True) ∧ [D.v (Value.bool false)] = [D.v (Value.bool true)])) ∧ (b = false → (True ∧ True) ∧ [D.v (Value.bool false)] = [D.v (Value.bool true)])) ∧ (b = true → ∃ (r : D), D.bin BinOp.eql r_12 (D.v (Value.int IntKind.i64 4)) = some r ∧ ∃ (b : Bool), r = D.v (Value.bool b) ∧ (b = true → ∃ (r : D), PureD Try.prog 13 [D.agg [D.v (Value.int IntKind.u8 6), D.v (Value.int IntKind.i64 2), D.v (Value.int IntKind.i64 3), D.v (Value.int IntKind.u32 258), D.v (Value.int IntKind.u32 2147483648), D.v (Value.int IntKind.i64 512), D.sl 2 (chunks true 2 1 [D.v (Value.int IntKind.u32 5), D.v (Value.int IntKind.u32 9)]), D.v (Value.string { data := { toList := [97, 98] } })]] [r] ∧ fits [(false, [none])] [r] ∧ ∃ (r_19 : D), D.bin BinOp.eql r (D.v (Value.int IntKind.i64 3)) = some r_19 ∧ ∃ (b : Bool), r_19 = D.v (Value.bool b) ∧ (b = true → ∃ (r : D), PureD Try.prog 15 [D.agg [D.v (Value.int IntKind.u8 6), D.v (Value.int IntKind.i64 2), D.v (Value.int IntKind.i64 3), D.v (Value.int IntKind.u32 258), D.v (Value.int IntKind.u32 2147483648), D.v (Value.int IntKind.i64 512), D.sl 2 (chunks true 2 1 [D.v (Value.int IntKind.u32 5), D.v (Value.int IntKind.u32 9)]), D.v (Value.string { data := { toList := [97, 98] } })], D.v (Value.int IntKind.u8 4)] [r] ∧ fits [(false, [none])] [r] ∧ ∃ (b : Bool), r = D.v (Value.bool b) ∧ (b = true → ∃ (r : D), PureD Try.prog 15 [D.agg [D.v (Value.int IntKind.u8 6), D.v (Value.int IntKind.i64 2), D.v (Value.int IntKind.i64 3), D.v (Value.int IntKind.u32 258), D.v (Value.int IntKind.u32 2147483648), D.v (Value.int IntKind.i64 512), D.sl 2 (chunks true 2 1 [D.v (Value.int IntKind.u32 5), D.v (Value.int IntKind.u32 9)]), D.v (Value.string { data := { toList := [97, 98] } })], D.v (Value.int IntKind.u8 1)] [r] ∧ fits [(false, [none])] [r] ∧ ∃ (r_20 : D), D.un UnOp.not r = some r_20 ∧ ∃ (b : Bool), r_20 = D.v (Value.bool b) ∧ (b = true → ∃ (r : D), PureD Try.prog 11 [D.agg [D.v (Value.int IntKind.u8 6), D.v (Value.int IntKind.i64 2), D.v (Value.int IntKind.i64 3), D.v (Value.int IntKind.u32 258), D.v (Value.int IntKind.u32 2147483648), D.v (Value.int IntKind.i64 512), D.sl 2 (chunks true 2 1 [D.v (Value.int IntKind.u32 5), D.v (Value.int IntKind.u32 9)]), D.v (Value.string { data := { toList := [97, 98] } })]] [r] ∧ fits [(false, [none])] [r] ∧ ∃ (r_21 : D), D.bin BinOp.eql r (D.v (Value.int IntKind.i64 0)) = some r_21 ∧ ∃ (b : Bool), r_21 = D.v (Value.bool b) ∧ (b = true → ∃ (r : D), PureD Try.prog 17 [D.agg [D.v (Value.int IntKind.u8 6), D.v (Value.int IntKind.i64 2), D.v (Value.int IntKind.i64 3), D.v (Value.int IntKind.u32 258), D.v (Value.int IntKind.u32 2147483648), D.v (Value.int IntKind.i64 512), D.sl 2 (chunks true 2 1 [D.v (Value.int IntKind.u32 5), D.v (Value.int IntKind.u32 9)]), D.v (Value.string { data := { toList := [97, 98] } })], D.agg [D.v (Value.int IntKind.u8 0), D.v (Value.int IntKind.i64 0), D.v (Value.int IntKind.i64 0), D.v (Value.int IntKind.u32 0), D.v (Value.int IntKind.u32 0), D.v (Value.int IntKind.i64 0), D.v (Value.slice none 0 0), D.v (Value.string { data := { toList := [] } })]] [r] ∧ fits [(false, [none])] [r] ∧ ∃ (r_22 : D), D.un UnOp.not r = some r_22 ∧ ∃ (b : Bool), r_22 = D.v (Value.bool b) ∧ ∃ (b : Bool), r_22 = D.v (Value.bool b) ∧ ∃ (b : Bool), r_22 = D.v (Value.bool b) ∧ ∃ (b : Bool), r_22 = D.v (Value.bool b) ∧ ∃ (b : Bool), r_22 = D.v (Value.bool b) ∧ ∃ (b : Bool), r_22 = D.v (Value.bool b) ∧ ∃ (b : Bool), r_22 = D.v (Value.bool b) ∧ ((∃ (y : Value), r_22 = D.v y) ∧ True) ∧ [r_22] = [D.v (Value.bool true)]) ∧ (b = false → (True ∧ True) ∧ [D.v (Value.bool false)] = [D.v (Value.bool true)])) ∧ (b = false → (True ∧ True) ∧ [D.v (Value.bool false)] = [D.v (Value.bool true)])) ∧ (b = false → (True ∧ True) ∧ [D.v (Value.bool false)] = [D.v (Value.bool true)])) ∧ (b = false → (True ∧ True) ∧ [D.v (Value.bool false)] = [D.v (Value.bool true)])) ∧ (b = false → (True ∧ True) ∧ [D.v (Value.bool false)] = [D.v (Value.bool true)]))) ∧ (b = false → (True ∧ True) ∧ [D.v (Value.bool false)] = [D.v (Value.bool true)])) ∧ (b = false → (True ∧ True) ∧ [D.v (Value.bool false)] = [D.v (Value.bool true)])) ∧ (b = false → (True ∧ True) ∧ [D.v (Value.bool false)] = [D.v (Value.bool true)])) ∧ (b = false → (True ∧ True) ∧ [D.v (Value.bool false)] = [D.v (Value.bool true)])) := by kernel_rfl
set_option maxHeartbeats 16000000 in
theorem awake   : PureD Try.prog 7 [] [.v (.bool true)] := by
  refine pure_cond (Lp := (fun _ => none)) (by kernel_rfl) Try.func7 (by kernel_rfl) (by kernel_rfl) ?_
  rw [vc_awake]
  have isA : IsL 2 (prs [(5, 9)]) (.sl 2 (prs [(5, 9)])) := .inl rfl
  have b2 : Bytes [97, 98] := bytes_dec (by decide +kernel)
  have PU := putS 6 2 3 258 2147483648 512 (.sl 2 (prs [(5, 9)])) [(5, 9)] [97, 98] isA (by simp) b2 (by simp) (by omega) (by omega) (by omega) (by omega) (by omega) (by omega) (fun z hz => by simp at hz; subst hz; simp) aw_chk.1
  rw [show putF 6 2 3 258 2147483648 512 [(5, 9)] [97, 98] = (sealF aw, 0) by unfold putF; rw [show sgChk 6 2 3 2147483648 512 ([(5, 9)] : List (Int × Int)).length ([97, 98] : List Int).length = 0 from aw_chk.1, if_pos rfl, aw_put]] at PU
  have sb := seal_bytes aw_bytes
  have sl : (sealF aw).length = 30 := by rw [seal_len]; rfl
  have GE := get (sealF aw) sb (by omega)
  rw [aw_getE, aw_getR] at GE
  have bb : Bytes ((sealF aw).take 29 ++ [63]) := (sb.take 29).append (bytes_dec (by decide +kernel))
  have GB := get ((sealF aw).take 29 ++ [63]) bb (by rw [List.length_append, List.length_take]; simp; omega)
  rw [aw_badE, aw_badR] at GB
  unfold zS at GB
  have ct : (str (sealF aw)).cutS none (some (.v (.int .i64 29))) = some (str ((sealF aw).take 29)) := cutS_to (sealF aw) .i64 (a := 29) (by omega)
  have sa := bin_sadd (a := (sealF aw).take 29) (b := [63]) (by rw [List.length_take]; simp; omega)
  have PE := putE 0 0 0 0 1 0 (.v nilS) [] [] isN (by simp) Bytes.nil (by simp) (by omega) (by omega) (by rw [show sgChk 0 0 0 1 0 ([] : List (Int × Int)).length ([] : List Int).length = 4 from aw_chk.2]; omega)
  rw [show putF 0 0 0 0 1 0 [] [] = ([], 4) by unfold putF; rw [show sgChk 0 0 0 1 0 ([] : List (Int × Int)).length ([] : List Int).length = 4 from aw_chk.2, if_neg (by omega)]] at PE
  have LS := lseal aw aw_bytes (by decide)
  have eq := bin_seql sb sb
  rw [decide_eq_true rfl] at eq
  have SM := same 6 2 3 258 2147483648 512 (.sl 2 (prs [(5, 9)])) [(5, 9)] [97, 98] 6 2 3 258 2147483648 512 (.sl 2 (prs [(5, 9)])) [(5, 9)] [97, 98] isA (by simp) b2 isA (by simp) b2
  rw [show sameB 6 2 3 258 2147483648 512 [(5, 9)] [97, 98] 6 2 3 258 2147483648 512 [(5, 9)] [97, 98] = true by simp [sameB]] at SM
  have SZ := same 6 2 3 258 2147483648 512 (.sl 2 (prs [(5, 9)])) [(5, 9)] [97, 98] 0 0 0 0 0 0 (.v nilS) [] [] isA (by simp) b2 isN (by simp) Bytes.nil
  rw [show sameB 6 2 3 258 2147483648 512 [(5, 9)] [97, 98] 0 0 0 0 0 0 [] [] = false by simp [sameB]] at SZ
  have SP := span 6 2 3 258 2147483648 512 (.sl 2 (prs [(5, 9)])) [(5, 9)] [97, 98] isA (by simp) b2 (by simp) (by omega) (by omega)
  rw [show spanF 6 ([97, 98] : List Int).length = 3 from aw_has.2.2] at SP
  have H4 := has 6 2 3 258 2147483648 512 (.sl 2 (prs [(5, 9)])) [(5, 9)] [97, 98] 4 isA (by simp) b2 (by simp) (by omega) (by omega) (by omega) (by omega)
  rw [aw_has.1] at H4
  have H1 := has 6 2 3 258 2147483648 512 (.sl 2 (prs [(5, 9)])) [(5, 9)] [97, 98] 1 isA (by simp) b2 (by simp) (by omega) (by omega) (by omega) (by omega)
  rw [aw_has.2.1] at H1
  have CK := check 6 2 3 258 2147483648 512 (.sl 2 (prs [(5, 9)])) [(5, 9)] [97, 98] isA (by simp) b2 (by simp) (by omega) (by omega)
  rw [show sgChk 6 2 3 2147483648 512 ([(5, 9)] : List (Int × Int)).length ([97, 98] : List Int).length = 0 from aw_chk.1] at CK
  rw [← aw_str] at LS
  have sn : (((sealF aw).length : Nat) : Int) = 30 := by omega
  generalize sealF aw = W at PU GE GB LS ct sa eq sn sb bb
  repeat' (first
    | (refine ex_some (by simp (disch := omega) only [bin_shr, bin_shl, bin_and, bin_or, bin_xor, len_str, toStr_ofL, bin_add, bin_sub, bin_mul, bin_quo, bin_rem, bin_lss, bin_leq, bin_gtr, bin_geq, bin_eql, bin_neq, eqs_cn, eqs_ci, eqs_cb, eqs_cs, Option.map_some, lenT_ofL, lst_ofL, lstSz_ofL, chunk_one, lst_nil, lst_sl, lstSz_sl, lstSz_nil, Bool.and_true, Bool.true_and, Bool.and_false, Bool.false_and, beq_self_eq_true, beq_bb, bne_bb, un_not, un_neg, conv_int, min2_int, max2_int, w64, w32, wu8, wu16, wu32, wu64, tdiv_nn, tmod_nn, cell_zero, cell_succ, cell_v, cells_v, cells_agg, Bool.not_true, Bool.not_false, Int.reduceLT, Int.reduceLE, Int.reduceEq, Int.reduceNeg, Int.reduceAdd, Int.reduceSub, Int.reduceMul, intOf_v, decide_true, decide_false, len_str, sn, ct, q_str, sa, eq]; rfl) ?_)
    | (refine ex_bool ?_)
    | (refine ex_some ct ?_)
    | (refine ex_some sa ?_)
    | (refine ⟨_, _, PU, ?_⟩)
    | (refine ⟨_, _, GE, ?_⟩)
    | (refine ⟨_, _, GB, ?_⟩)
    | (refine ⟨_, _, PE, ?_⟩)
    | (refine ⟨_, LS, ?_⟩)
    | (refine ⟨_, SM, ?_⟩)
    | (refine ⟨_, SZ, ?_⟩)
    | (refine ⟨_, SP, ?_⟩)
    | (refine ⟨_, H4, ?_⟩)
    | (refine ⟨_, H1, ?_⟩)
    | (refine ⟨_, CK, ?_⟩)
    | (refine And.intro ?_ ?_)
    | (intro hx; have hprop := (show ∀ (p : Prop), p → True from fun _ _ => True.intro) _ hx; clear hprop; first | (cases hx; done) | (exfalso; revert hx; simp (disch := omega) only [decide_eq_true_eq, decide_eq_false_iff_not, Bool.not_eq_true', Bool.not_eq_false', Bool.and_eq_true, Bool.and_eq_false_iff, Int.not_lt, Int.not_le, ne_eq, not_false_eq_true, not_true_eq_false, reduceCtorEq, Bool.true_eq_false, Bool.false_eq_true, beq_iff_eq, bne_iff_ne, beq_eq_false_iff_ne, false_or, or_false, true_and, and_true, len_str, sn, ct, q_str, sa, eq]; done) | (simp (disch := omega) only [decide_eq_true_eq, decide_eq_false_iff_not, Bool.not_eq_true', Bool.not_eq_false', Bool.and_eq_true, Bool.and_eq_false_iff, Int.not_lt, Int.not_le, ne_eq, not_false_eq_true, not_true_eq_false, reduceCtorEq, Bool.true_eq_false, Bool.false_eq_true, beq_iff_eq, bne_iff_ne, beq_eq_false_iff_ne, false_or, or_false, true_and, and_true, len_str, sn, ct, q_str, sa, eq] at hx; first | (exfalso; omega) | skip) | skip)
    | trivial
    | exact fit_ofL _ _
    | (simp (disch := omega) only [notAgg_v, notAgg_sl, plain_v, fits, fitsOne, fitsCells, xsOf, cell_zero, cell_succ, List.range, List.range.loop, List.map, cond_true, cond_false, D.v.injEq, exists_eq', exists_eq, and_self, and_true, true_and, D.agg.injEq, List.length, exists_eq_left', D.sl.injEq, reduceCtorEq, false_or, true_or, or_true, or_false, cell_zero, cell_succ, cell_v, cells_v, cells_agg, List.length_cons, List.length_nil, len_str, sn, ct, q_str, sa, eq]; done))
  all_goals first
    | exact ⟨_, rfl⟩
    | exact .inr ⟨_, rfl⟩
    | exact .inl rfl
    | omega
    | rfl
    | exact notAgg_v _
    | exact plain_v _
    | exact plain_sl (prs_plain _)
    | (simp; done)
    | fail

end Go.Proofs.Ytioodaefgpkkeaa