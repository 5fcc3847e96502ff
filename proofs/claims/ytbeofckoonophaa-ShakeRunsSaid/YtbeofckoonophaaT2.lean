/-
  Layer 13: flags by the document; what segments may be; numbers that go round.
-/
import Derived.Test.YtbeofckoonophaaT1
namespace Go.Proofs.Ytbeofckoonophaa
open Go.RowKit
set_option linter.unusedSimpArgs false
set_option linter.unusedVariables false


theorem ne_empty {s : List Int} (hs : Bytes s) : D.bin .neq (str s) (.v (.string ⟨⟨[]⟩⟩)) = some (.v (.bool (decide (s.length ≠ 0)))) := by
  have := bin_sneq hs Bytes.nil
  rw [show (!decide (s = [])) = decide (s.length ≠ 0) by cases s <;> simp] at this
  exact this
def left8 : List D → Nat
  | .v (.int _ i) :: _ => 8 - i.toNat
  | _ => 0
theorem has_land (a b : Int) : hasB a b = decide (land8 a b = b) := rfl
/-- One more, round. -/
def nx (a : Int) : Int := (a + 1) % 4294967296
/-- Within the half behind. -/
def inH (a b : Int) : Bool := decide ((a - b) % 4294967296 < 2147483648)
theorem wu32m (z : Int) : IntKind.u32.wrap z = z % 4294967296 := by
  have e : IntKind.u32.wrap z = if (0 : Int) ≤ z ∧ z ≤ 4294967295 then z else z % 4294967296 := by
    first
      | rfl
      | (simp [IntKind.wrap, IntKind.signed, IntKind.bits]; omega)
  rw [e]; split <;> omega

theorem vc_rhas (fl pa ep sq ak wi : Int) (x : D) (zs : List (Int × Int)) (s : List Int) (g : Int) : Cond Try.prog (fun k => if k = 3 then some ⟨[6, 1, 5], [], [], []⟩ else none) Try.f33 [.agg [.v (.int .u8 fl), .v (.int .i64 pa), .v (.int .i64 ep), .v (.int .u32 sq), .v (.int .u32 ak), .v (.int .i64 wi), x, str s], .v (.int .u8 g)] [.v (.bool (hasB fl g))] = (((∃ (cs : List D), D.agg [D.v (Value.int IntKind.u8 fl), D.v (Value.int IntKind.i64 pa), D.v (Value.int IntKind.i64 ep), D.v (Value.int IntKind.u32 sq), D.v (Value.int IntKind.u32 ak), D.v (Value.int IntKind.i64 wi), x, str s] = D.agg cs ∧ cs.length = 8) ∧ NotAgg (D.v (Value.int IntKind.u8 g)) ∧ True) ∧ ∃ (I : List D → Prop), ∃ (μ : List D → Nat), ((D.v (Value.int IntKind.i64 0) = D.v (Value.int IntKind.i64 0) ∧ D.v (Value.int IntKind.u8 g) = D.v (Value.int IntKind.u8 g) ∧ D.v (Value.int IntKind.u8 fl) = D.v (Value.int IntKind.u8 fl) ∧ True) ∧ True ∧ I [D.v (Value.int IntKind.i64 0), D.v (Value.int IntKind.u8 g), D.v (Value.int IntKind.u8 fl)]) ∧ ∀ (r r_1 r_2 : D), I [r, r_1, r_2] → ∃ (r_3 : D), D.bin BinOp.lss r (D.v (Value.int IntKind.i64 8)) = some r_3 ∧ ∃ (b : Bool), r_3 = D.v (Value.bool b) ∧ (b = true → ∃ (r_4 : D), D.bin BinOp.rem r_1 (D.v (Value.int IntKind.u8 2)) = some r_4 ∧ ∃ (r_5 : D), D.bin BinOp.eql r_4 (D.v (Value.int IntKind.u8 1)) = some r_5 ∧ ∃ (b : Bool), r_5 = D.v (Value.bool b) ∧ (b = true → ∃ (r_6 : D), D.bin BinOp.rem r_2 (D.v (Value.int IntKind.u8 2)) = some r_6 ∧ ∃ (r_7 : D), D.bin BinOp.eql r_6 (D.v (Value.int IntKind.u8 0)) = some r_7 ∧ ∃ (b : Bool), r_7 = D.v (Value.bool b) ∧ (b = true → (True ∧ True) ∧ [D.v (Value.bool false)] = [D.v (Value.bool (hasB fl g))]) ∧ (b = false → ∃ (r_8 : D), D.bin BinOp.quo r_1 (D.v (Value.int IntKind.u8 2)) = some r_8 ∧ ∃ (r_9 : D), D.bin BinOp.quo r_2 (D.v (Value.int IntKind.u8 2)) = some r_9 ∧ ∃ (r_10 : D), D.bin BinOp.add r (D.v (Value.int IntKind.i64 1)) = some r_10 ∧ (r_10 = r_10 ∧ r_8 = r_8 ∧ r_9 = r_9 ∧ True) ∧ True ∧ I [r_10, r_8, r_9] ∧ μ [r_10, r_8, r_9] < μ [r, r_1, r_2])) ∧ (b = false → ∃ (r_6 : D), D.bin BinOp.quo r_1 (D.v (Value.int IntKind.u8 2)) = some r_6 ∧ ∃ (r_7 : D), D.bin BinOp.quo r_2 (D.v (Value.int IntKind.u8 2)) = some r_7 ∧ ∃ (r_8 : D), D.bin BinOp.add r (D.v (Value.int IntKind.i64 1)) = some r_8 ∧ (r_8 = r_8 ∧ r_6 = r_6 ∧ r_7 = r_7 ∧ True) ∧ True ∧ I [r_8, r_6, r_7] ∧ μ [r_8, r_6, r_7] < μ [r, r_1, r_2])) ∧ (b = false → (True ∧ True) ∧ [D.v (Value.bool true)] = [D.v (Value.bool (hasB fl g))])) := by kernel_rfl
theorem rhas (fl pa ep sq ak wi : Int) (x : D) (zs : List (Int × Int)) (s : List Int) (g : Int) (hX : IsL 2 (prs zs) x) (hl : zs.length ≤ 100000) (hs : Bytes s) (hsl : s.length ≤ 100000) (f0 : 0 ≤ fl) (f1 : fl < 256) (g0 : 0 ≤ g) (g1 : g < 256) : PureD Try.prog 33 [.agg [.v (.int .u8 fl), .v (.int .i64 pa), .v (.int .i64 ep), .v (.int .u32 sq), .v (.int .u32 ak), .v (.int .i64 wi), x, str s], .v (.int .u8 g)] [.v (.bool (hasB fl g))] := by
  refine pure_cond (Lp := (fun k => if k = 3 then some ⟨[6, 1, 5], [], [], []⟩ else none)) (by kernel_rfl) Try.func33 (by kernel_rfl) (by kernel_rfl) ?_
  rw [vc_rhas fl pa ep sq ak wi x zs s g]
  repeat' (first
    | (refine ex_some (by simp (disch := omega) only [bin_shr, bin_shl, bin_and, bin_or, bin_xor, len_str, toStr_ofL, bin_add, bin_sub, bin_mul, bin_quo, bin_rem, bin_lss, bin_leq, bin_gtr, bin_geq, bin_eql, bin_neq, eqs_cn, eqs_ci, eqs_cb, eqs_cs, Option.map_some, lenT_ofL, lst_ofL, lstSz_ofL, chunk_one, lst_nil, lst_sl, lstSz_sl, lstSz_nil, Bool.and_true, Bool.true_and, Bool.and_false, Bool.false_and, beq_self_eq_true, beq_bb, bne_bb, un_not, un_neg, conv_int, min2_int, max2_int, w64, w32, wu8, wu16, wu32, wu64, tdiv_nn, tmod_nn, cell_zero, cell_succ, cell_v, cells_v, cells_agg, Bool.not_true, Bool.not_false, Int.reduceLT, Int.reduceLE, Int.reduceEq, Int.reduceNeg, Int.reduceAdd, Int.reduceSub, Int.reduceMul, intOf_v, decide_true, decide_false]; rfl) ?_)
    | (refine ex_bool ?_)
    | (refine ⟨(fun r => ∃ (k : Nat) (a b : Int), k ≤ 8 ∧ (0 ≤ a ∧ a < 256) ∧ (0 ≤ b ∧ b < 256) ∧ hasR (8 - k) b a = hasB fl g ∧ r = [.v (.int .i64 (k : Nat)), .v (.int .u8 b), .v (.int .u8 a)]), left8, ?_⟩)
    | (refine fun (r1 r2 r3 : D) (hI : (fun r => ∃ (k : Nat) (a b : Int), k ≤ 8 ∧ (0 ≤ a ∧ a < 256) ∧ (0 ≤ b ∧ b < 256) ∧ hasR (8 - k) b a = hasB fl g ∧ r = [.v (.int .i64 (k : Nat)), .v (.int .u8 b), .v (.int .u8 a)]) [r1, r2, r3]) => ?_; obtain ⟨k, a, b, hk, ha, hb, hr, hl0⟩ := hI; simp only [List.cons.injEq, and_true] at hl0; obtain ⟨rfl, rfl, rfl⟩ := hl0; by_cases hlt : k < 8 <;> first | (have hk1 : k < 8 := (by omega); obtain ⟨m, hm⟩ : ∃ m, 8 - k = m + 1 := ⟨7 - k, by omega⟩; rw [hm] at hr; simp only [hasR] at hr; have hm2 : 8 - (k + 1) = m := (by omega); have inl : True := trivial) | (have hkk : k = 8 := (by omega); subst hkk; have hr2 : hasB fl g = true := hr.symm; have inl2 : True := trivial))
    | (exact ⟨0, fl, g, by omega, ⟨f0, f1⟩, ⟨g0, g1⟩, hasR_eq f0 g0 g1, rfl⟩)
    | (have := inl; refine ⟨k + 1, a / 2, b / 2, by omega, by omega, by omega, ?_, ?_⟩)
    | (refine And.intro ?_ ?_)
    | (intro hx; have hprop := (show ∀ (p : Prop), p → True from fun _ _ => True.intro) _ hx; clear hprop; first | (cases hx; done) | (exfalso; revert hx; simp (disch := omega) only [decide_eq_true_eq, decide_eq_false_iff_not, Bool.not_eq_true', Bool.not_eq_false', Bool.and_eq_true, Bool.and_eq_false_iff, Int.not_lt, Int.not_le, ne_eq, not_false_eq_true, not_true_eq_false, reduceCtorEq, Bool.true_eq_false, Bool.false_eq_true, beq_iff_eq, bne_iff_ne, beq_eq_false_iff_ne, false_or, or_false, true_and, and_true]; done) | (simp (disch := omega) only [decide_eq_true_eq, decide_eq_false_iff_not, Bool.not_eq_true', Bool.not_eq_false', Bool.and_eq_true, Bool.and_eq_false_iff, Int.not_lt, Int.not_le, ne_eq, not_false_eq_true, not_true_eq_false, reduceCtorEq, Bool.true_eq_false, Bool.false_eq_true, beq_iff_eq, bne_iff_ne, beq_eq_false_iff_ne, false_or, or_false, true_and, and_true] at hx; first | (exfalso; omega) | skip) | skip)
    | trivial
    | exact fit_ofL _ _
    | (simp (disch := omega) only [notAgg_v, notAgg_sl, plain_v, fits, fitsOne, fitsCells, xsOf, cell_zero, cell_succ, List.range, List.range.loop, List.map, cond_true, cond_false, D.v.injEq, exists_eq', exists_eq, and_self, and_true, true_and, D.agg.injEq, List.length, exists_eq_left', D.sl.injEq, reduceCtorEq, false_or, true_or, or_true, or_false, cell_zero, cell_succ, cell_v, cells_v, cells_agg, List.length_cons, List.length_nil]; done))
  all_goals first
    | (exfalso; omega)
    | omega
    | rfl
    | (simp only [left8]; omega)
    | (rw [if_neg (by omega)] at hr; rw [hm2]; exact hr)
    | (rw [if_pos (by omega)] at hr; rw [← hr]; done)
    | (rw [hr2]; done)
    | exact ⟨_, rfl⟩
    | (simp; done)
    | fail

theorem vc_check (fl pa ep sq ak wi : Int) (x : D) (zs : List (Int × Int)) (s : List Int) : Cond Try.prog (fun _ => none) Try.f27 [.agg [.v (.int .u8 fl), .v (.int .i64 pa), .v (.int .i64 ep), .v (.int .u32 sq), .v (.int .u32 ak), .v (.int .i64 wi), x, str s]] [.v (.int .i64 (sgChk fl pa ep ak wi zs.length s.length))] = (((∃ (cs : List D), D.agg [D.v (Value.int IntKind.u8 fl), D.v (Value.int IntKind.i64 pa), D.v (Value.int IntKind.i64 ep), D.v (Value.int IntKind.u32 sq), D.v (Value.int IntKind.u32 ak), D.v (Value.int IntKind.i64 wi), x, str s] = D.agg cs ∧ cs.length = 8) ∧ True) ∧ ∃ (r : D), D.bin BinOp.andNot (D.v (Value.int IntKind.u8 fl)) (D.v (Value.int IntKind.u8 31)) = some r ∧ ∃ (r_1 : D), D.bin BinOp.neq r (D.v (Value.int IntKind.u8 0)) = some r_1 ∧ ∃ (b : Bool), r_1 = D.v (Value.bool b) ∧ (b = true → (True ∧ True) ∧ [D.v (Value.int IntKind.i64 12)] = [D.v (Value.int IntKind.i64 (sgChk fl pa ep ak wi zs.length s.length))]) ∧ (b = false → ∃ (r : D), D.bin BinOp.lss (D.v (Value.int IntKind.i64 pa)) (D.v (Value.int IntKind.i64 0)) = some r ∧ ∃ (b : Bool), r = D.v (Value.bool b) ∧ (b = false → ∃ (r : D), D.bin BinOp.geq (D.v (Value.int IntKind.i64 pa)) (D.v (Value.int IntKind.i64 4)) = some r ∧ ∃ (b : Bool), r = D.v (Value.bool b) ∧ (b = true → (True ∧ True) ∧ [D.v (Value.int IntKind.i64 8)] = [D.v (Value.int IntKind.i64 (sgChk fl pa ep ak wi zs.length s.length))]) ∧ (b = false → ∃ (r : D), D.bin BinOp.lss (D.v (Value.int IntKind.i64 ep)) (D.v (Value.int IntKind.i64 0)) = some r ∧ ∃ (b : Bool), r = D.v (Value.bool b) ∧ (b = false → ∃ (r : D), D.bin BinOp.gtr (D.v (Value.int IntKind.i64 ep)) (D.v (Value.int IntKind.i64 65535)) = some r ∧ ∃ (b : Bool), r = D.v (Value.bool b) ∧ (b = true → (True ∧ True) ∧ [D.v (Value.int IntKind.i64 8)] = [D.v (Value.int IntKind.i64 (sgChk fl pa ep ak wi zs.length s.length))]) ∧ (b = false → ∃ (r : D), D.bin BinOp.lss (D.v (Value.int IntKind.i64 wi)) (D.v (Value.int IntKind.i64 0)) = some r ∧ ∃ (b : Bool), r = D.v (Value.bool b) ∧ (b = false → ∃ (r : D), D.bin BinOp.gtr (D.v (Value.int IntKind.i64 wi)) (D.v (Value.int IntKind.i64 65535)) = some r ∧ ∃ (b : Bool), r = D.v (Value.bool b) ∧ (b = true → (True ∧ True) ∧ [D.v (Value.int IntKind.i64 8)] = [D.v (Value.int IntKind.i64 (sgChk fl pa ep ak wi zs.length s.length))]) ∧ (b = false → ∃ (r : D), D.lenT (TypeDesc.slice 63) x = some r ∧ ∃ (r_2 : D), D.bin BinOp.gtr r (D.v (Value.int IntKind.i64 3)) = some r_2 ∧ ∃ (b : Bool), r_2 = D.v (Value.bool b) ∧ (b = true → (True ∧ True) ∧ [D.v (Value.int IntKind.i64 5)] = [D.v (Value.int IntKind.i64 (sgChk fl pa ep ak wi zs.length s.length))]) ∧ (b = false → ∃ (r : D), D.lenT TypeDesc.string (str s) = some r ∧ ∃ (r_3 : D), D.bin BinOp.gtr r (D.v (Value.int IntKind.i64 48)) = some r_3 ∧ ∃ (b : Bool), r_3 = D.v (Value.bool b) ∧ (b = true → (True ∧ True) ∧ [D.v (Value.int IntKind.i64 5)] = [D.v (Value.int IntKind.i64 (sgChk fl pa ep ak wi zs.length s.length))]) ∧ (b = false → ∃ (r : D), PureD Try.prog 31 [D.agg [D.v (Value.int IntKind.u8 fl), D.v (Value.int IntKind.i64 pa), D.v (Value.int IntKind.i64 ep), D.v (Value.int IntKind.u32 sq), D.v (Value.int IntKind.u32 ak), D.v (Value.int IntKind.i64 wi), x, str s], D.v (Value.int IntKind.u8 2)] [r] ∧ fits [(false, [none])] [r] ∧ ∃ (r_4 : D), D.un UnOp.not r = some r_4 ∧ ∃ (b : Bool), r_4 = D.v (Value.bool b) ∧ (b = true → ∃ (r : D), D.lenT (TypeDesc.slice 63) x = some r ∧ ∃ (r_5 : D), D.bin BinOp.gtr r (D.v (Value.int IntKind.i64 0)) = some r_5 ∧ ∃ (b : Bool), r_5 = D.v (Value.bool b) ∧ (b = false → ∃ (r : D), D.bin BinOp.neq (D.v (Value.int IntKind.u32 ak)) (D.v (Value.int IntKind.u32 0)) = some r ∧ ∃ (b : Bool), r = D.v (Value.bool b) ∧ (b = true → (True ∧ True) ∧ [D.v (Value.int IntKind.i64 4)] = [D.v (Value.int IntKind.i64 (sgChk fl pa ep ak wi zs.length s.length))]) ∧ (b = false → ∃ (r : D), D.bin BinOp.and (D.v (Value.int IntKind.u8 fl)) (D.v (Value.int IntKind.u8 9)) = some r ∧ ∃ (r_6 : D), D.bin BinOp.neq r (D.v (Value.int IntKind.u8 0)) = some r_6 ∧ ∃ (b : Bool), r_6 = D.v (Value.bool b) ∧ (b = true → ∃ (r : D), D.bin BinOp.neq (str s) (D.v (Value.string { data := { toList := [] } })) = some r ∧ ∃ (b : Bool), r = D.v (Value.bool b) ∧ (b = true → (True ∧ True) ∧ [D.v (Value.int IntKind.i64 4)] = [D.v (Value.int IntKind.i64 (sgChk fl pa ep ak wi zs.length s.length))]) ∧ (b = false → (True ∧ True) ∧ [D.v (Value.int IntKind.i64 0)] = [D.v (Value.int IntKind.i64 (sgChk fl pa ep ak wi zs.length s.length))])) ∧ (b = false → (True ∧ True) ∧ [D.v (Value.int IntKind.i64 0)] = [D.v (Value.int IntKind.i64 (sgChk fl pa ep ak wi zs.length s.length))]))) ∧ (b = true → (True ∧ True) ∧ [D.v (Value.int IntKind.i64 4)] = [D.v (Value.int IntKind.i64 (sgChk fl pa ep ak wi zs.length s.length))])) ∧ (b = false → ∃ (r : D), D.bin BinOp.and (D.v (Value.int IntKind.u8 fl)) (D.v (Value.int IntKind.u8 9)) = some r ∧ ∃ (r_5 : D), D.bin BinOp.neq r (D.v (Value.int IntKind.u8 0)) = some r_5 ∧ ∃ (b : Bool), r_5 = D.v (Value.bool b) ∧ (b = true → ∃ (r : D), D.bin BinOp.neq (str s) (D.v (Value.string { data := { toList := [] } })) = some r ∧ ∃ (b : Bool), r = D.v (Value.bool b) ∧ (b = true → (True ∧ True) ∧ [D.v (Value.int IntKind.i64 4)] = [D.v (Value.int IntKind.i64 (sgChk fl pa ep ak wi zs.length s.length))]) ∧ (b = false → (True ∧ True) ∧ [D.v (Value.int IntKind.i64 0)] = [D.v (Value.int IntKind.i64 (sgChk fl pa ep ak wi zs.length s.length))])) ∧ (b = false → (True ∧ True) ∧ [D.v (Value.int IntKind.i64 0)] = [D.v (Value.int IntKind.i64 (sgChk fl pa ep ak wi zs.length s.length))])))))) ∧ (b = true → (True ∧ True) ∧ [D.v (Value.int IntKind.i64 8)] = [D.v (Value.int IntKind.i64 (sgChk fl pa ep ak wi zs.length s.length))]))) ∧ (b = true → (True ∧ True) ∧ [D.v (Value.int IntKind.i64 8)] = [D.v (Value.int IntKind.i64 (sgChk fl pa ep ak wi zs.length s.length))]))) ∧ (b = true → (True ∧ True) ∧ [D.v (Value.int IntKind.i64 8)] = [D.v (Value.int IntKind.i64 (sgChk fl pa ep ak wi zs.length s.length))]))) := by kernel_rfl
set_option maxHeartbeats 4000000 in
theorem check (fl pa ep sq ak wi : Int) (x : D) (zs : List (Int × Int)) (s : List Int) (hX : IsL 2 (prs zs) x) (hl : zs.length ≤ 100000) (hs : Bytes s) (hsl : s.length ≤ 100000) (f0 : 0 ≤ fl) (f1 : fl < 256) : PureD Try.prog 27 [.agg [.v (.int .u8 fl), .v (.int .i64 pa), .v (.int .i64 ep), .v (.int .u32 sq), .v (.int .u32 ak), .v (.int .i64 wi), x, str s]] [.v (.int .i64 (sgChk fl pa ep ak wi zs.length s.length))] := by
  refine pure_cond (Lp := (fun _ => none)) (by kernel_rfl) Try.func27 (by kernel_rfl) (by kernel_rfl) ?_
  rw [vc_check fl pa ep sq ak wi x zs s]
  have A := andn31 f0 f1
  have A9 := and9 f0 f1
  have H2 := has fl pa ep sq ak wi x zs s 2 hX hl hs hsl f0 f1 (by omega) (by omega)
  have bs := ne_empty hs
  simp only [hX.lenT, prs_len, Option.some.injEq, exists_eq_left']
  repeat' (first
    | (refine ex_some (by simp (disch := omega) only [bin_shr, bin_shl, bin_and, bin_or, bin_xor, len_str, toStr_ofL, bin_add, bin_sub, bin_mul, bin_quo, bin_rem, bin_lss, bin_leq, bin_gtr, bin_geq, bin_eql, bin_neq, eqs_cn, eqs_ci, eqs_cb, eqs_cs, Option.map_some, lenT_ofL, lst_ofL, lstSz_ofL, chunk_one, lst_nil, lst_sl, lstSz_sl, lstSz_nil, Bool.and_true, Bool.true_and, Bool.and_false, Bool.false_and, beq_self_eq_true, beq_bb, bne_bb, un_not, un_neg, conv_int, min2_int, max2_int, w64, w32, wu8, wu16, wu32, wu64, tdiv_nn, tmod_nn, cell_zero, cell_succ, cell_v, cells_v, cells_agg, Bool.not_true, Bool.not_false, Int.reduceLT, Int.reduceLE, Int.reduceEq, Int.reduceNeg, Int.reduceAdd, Int.reduceSub, Int.reduceMul, intOf_v, decide_true, decide_false, bin_andn, bs]; rfl) ?_)
    | (refine ex_bool ?_)
    | (refine ⟨_, H2, ?_⟩)
    | (refine And.intro ?_ ?_)
    | (intro hx; have hprop := (show ∀ (p : Prop), p → True from fun _ _ => True.intro) _ hx; clear hprop; first | (cases hx; done) | (exfalso; revert hx; simp (disch := omega) only [decide_eq_true_eq, decide_eq_false_iff_not, Bool.not_eq_true', Bool.not_eq_false', Bool.and_eq_true, Bool.and_eq_false_iff, Int.not_lt, Int.not_le, ne_eq, not_false_eq_true, not_true_eq_false, reduceCtorEq, Bool.true_eq_false, Bool.false_eq_true, beq_iff_eq, bne_iff_ne, beq_eq_false_iff_ne, false_or, or_false, true_and, and_true, bin_andn, bs]; done) | (simp (disch := omega) only [decide_eq_true_eq, decide_eq_false_iff_not, Bool.not_eq_true', Bool.not_eq_false', Bool.and_eq_true, Bool.and_eq_false_iff, Int.not_lt, Int.not_le, ne_eq, not_false_eq_true, not_true_eq_false, reduceCtorEq, Bool.true_eq_false, Bool.false_eq_true, beq_iff_eq, bne_iff_ne, beq_eq_false_iff_ne, false_or, or_false, true_and, and_true, bin_andn, bs] at hx; first | (exfalso; omega) | skip) | skip)
    | trivial
    | exact fit_ofL _ _
    | (simp (disch := omega) only [notAgg_v, notAgg_sl, plain_v, fits, fitsOne, fitsCells, xsOf, cell_zero, cell_succ, List.range, List.range.loop, List.map, cond_true, cond_false, D.v.injEq, exists_eq', exists_eq, and_self, and_true, true_and, D.agg.injEq, List.length, exists_eq_left', D.sl.injEq, reduceCtorEq, false_or, true_or, or_true, or_false, cell_zero, cell_succ, cell_v, cells_v, cells_agg, List.length_cons, List.length_nil, bin_andn, bs]; done))
  all_goals first
    | (exfalso; omega)
    | omega
    | rfl
    | (unfold sgChk; (repeat' split) <;> first | rfl | (exfalso; omega) | (simp_all; done) | (simp_all; omega))
    | exact ⟨_, rfl⟩
    | (simp; done)
    | fail

theorem vc_rcheck (fl pa ep sq ak wi : Int) (x : D) (zs : List (Int × Int)) (s : List Int) : Cond Try.prog (fun _ => none) Try.f30 [.agg [.v (.int .u8 fl), .v (.int .i64 pa), .v (.int .i64 ep), .v (.int .u32 sq), .v (.int .u32 ak), .v (.int .i64 wi), x, str s]] [.v (.int .i64 (sgChk fl pa ep ak wi zs.length s.length))] = (((∃ (cs : List D), D.agg [D.v (Value.int IntKind.u8 fl), D.v (Value.int IntKind.i64 pa), D.v (Value.int IntKind.i64 ep), D.v (Value.int IntKind.u32 sq), D.v (Value.int IntKind.u32 ak), D.v (Value.int IntKind.i64 wi), x, str s] = D.agg cs ∧ cs.length = 8) ∧ True) ∧ ∃ (r : D), D.bin BinOp.gtr (D.v (Value.int IntKind.u8 fl)) (D.v (Value.int IntKind.u8 31)) = some r ∧ ∃ (b : Bool), r = D.v (Value.bool b) ∧ (b = true → (True ∧ True) ∧ [D.v (Value.int IntKind.i64 12)] = [D.v (Value.int IntKind.i64 (sgChk fl pa ep ak wi zs.length s.length))]) ∧ (b = false → ∃ (r : D), D.bin BinOp.lss (D.v (Value.int IntKind.i64 pa)) (D.v (Value.int IntKind.i64 0)) = some r ∧ ∃ (b : Bool), r = D.v (Value.bool b) ∧ (b = false → ∃ (r : D), D.bin BinOp.geq (D.v (Value.int IntKind.i64 pa)) (D.v (Value.int IntKind.i64 4)) = some r ∧ ∃ (b : Bool), r = D.v (Value.bool b) ∧ (b = false → ∃ (r : D), D.bin BinOp.lss (D.v (Value.int IntKind.i64 ep)) (D.v (Value.int IntKind.i64 0)) = some r ∧ ∃ (b : Bool), r = D.v (Value.bool b) ∧ (b = false → ∃ (r : D), D.bin BinOp.gtr (D.v (Value.int IntKind.i64 ep)) (D.v (Value.int IntKind.i64 65535)) = some r ∧ ∃ (b : Bool), r = D.v (Value.bool b) ∧ (b = false → ∃ (r : D), D.bin BinOp.lss (D.v (Value.int IntKind.i64 wi)) (D.v (Value.int IntKind.i64 0)) = some r ∧ ∃ (b : Bool), r = D.v (Value.bool b) ∧ (b = false → ∃ (r : D), D.bin BinOp.gtr (D.v (Value.int IntKind.i64 wi)) (D.v (Value.int IntKind.i64 65535)) = some r ∧ ∃ (b : Bool), r = D.v (Value.bool b) ∧ (b = true → (True ∧ True) ∧ [D.v (Value.int IntKind.i64 8)] = [D.v (Value.int IntKind.i64 (sgChk fl pa ep ak wi zs.length s.length))]) ∧ (b = false → ∃ (r : D), D.lenT (TypeDesc.slice 62) x = some r ∧ ∃ (r_1 : D), D.bin BinOp.gtr r (D.v (Value.int IntKind.i64 3)) = some r_1 ∧ ∃ (b : Bool), r_1 = D.v (Value.bool b) ∧ (b = false → ∃ (r : D), D.lenT TypeDesc.string (str s) = some r ∧ ∃ (r_2 : D), D.bin BinOp.gtr r (D.v (Value.int IntKind.i64 48)) = some r_2 ∧ ∃ (b : Bool), r_2 = D.v (Value.bool b) ∧ (b = true → (True ∧ True) ∧ [D.v (Value.int IntKind.i64 5)] = [D.v (Value.int IntKind.i64 (sgChk fl pa ep ak wi zs.length s.length))]) ∧ (b = false → ∃ (r : D), PureD Try.prog 33 [D.agg [D.v (Value.int IntKind.u8 fl), D.v (Value.int IntKind.i64 pa), D.v (Value.int IntKind.i64 ep), D.v (Value.int IntKind.u32 sq), D.v (Value.int IntKind.u32 ak), D.v (Value.int IntKind.i64 wi), x, str s], D.v (Value.int IntKind.u8 2)] [r] ∧ fits [(false, [none])] [r] ∧ ∃ (r_3 : D), D.un UnOp.not r = some r_3 ∧ ∃ (b : Bool), r_3 = D.v (Value.bool b) ∧ (b = true → ∃ (r : D), D.lenT (TypeDesc.slice 62) x = some r ∧ ∃ (r_4 : D), D.bin BinOp.gtr r (D.v (Value.int IntKind.i64 0)) = some r_4 ∧ ∃ (b : Bool), r_4 = D.v (Value.bool b) ∧ (b = false → ∃ (r : D), D.bin BinOp.neq (D.v (Value.int IntKind.u32 ak)) (D.v (Value.int IntKind.u32 0)) = some r ∧ ∃ (b : Bool), r = D.v (Value.bool b) ∧ (b = false → ∃ (r : D), D.bin BinOp.neq (str s) (D.v (Value.string { data := { toList := [] } })) = some r ∧ ∃ (b : Bool), r = D.v (Value.bool b) ∧ (b = true → ∃ (r : D), PureD Try.prog 33 [D.agg [D.v (Value.int IntKind.u8 fl), D.v (Value.int IntKind.i64 pa), D.v (Value.int IntKind.i64 ep), D.v (Value.int IntKind.u32 sq), D.v (Value.int IntKind.u32 ak), D.v (Value.int IntKind.i64 wi), x, str s], D.v (Value.int IntKind.u8 1)] [r] ∧ fits [(false, [none])] [r] ∧ ∃ (b : Bool), r = D.v (Value.bool b) ∧ (b = false → ∃ (r : D), PureD Try.prog 33 [D.agg [D.v (Value.int IntKind.u8 fl), D.v (Value.int IntKind.i64 pa), D.v (Value.int IntKind.i64 ep), D.v (Value.int IntKind.u32 sq), D.v (Value.int IntKind.u32 ak), D.v (Value.int IntKind.i64 wi), x, str s], D.v (Value.int IntKind.u8 8)] [r] ∧ fits [(false, [none])] [r] ∧ ∃ (b : Bool), r = D.v (Value.bool b) ∧ (b = true → (True ∧ True) ∧ [D.v (Value.int IntKind.i64 4)] = [D.v (Value.int IntKind.i64 (sgChk fl pa ep ak wi zs.length s.length))]) ∧ (b = false → (True ∧ True) ∧ [D.v (Value.int IntKind.i64 0)] = [D.v (Value.int IntKind.i64 (sgChk fl pa ep ak wi zs.length s.length))])) ∧ (b = true → (True ∧ True) ∧ [D.v (Value.int IntKind.i64 4)] = [D.v (Value.int IntKind.i64 (sgChk fl pa ep ak wi zs.length s.length))])) ∧ (b = false → (True ∧ True) ∧ [D.v (Value.int IntKind.i64 0)] = [D.v (Value.int IntKind.i64 (sgChk fl pa ep ak wi zs.length s.length))])) ∧ (b = true → (True ∧ True) ∧ [D.v (Value.int IntKind.i64 4)] = [D.v (Value.int IntKind.i64 (sgChk fl pa ep ak wi zs.length s.length))])) ∧ (b = true → (True ∧ True) ∧ [D.v (Value.int IntKind.i64 4)] = [D.v (Value.int IntKind.i64 (sgChk fl pa ep ak wi zs.length s.length))])) ∧ (b = false → ∃ (r : D), D.bin BinOp.neq (str s) (D.v (Value.string { data := { toList := [] } })) = some r ∧ ∃ (b : Bool), r = D.v (Value.bool b) ∧ (b = true → ∃ (r : D), PureD Try.prog 33 [D.agg [D.v (Value.int IntKind.u8 fl), D.v (Value.int IntKind.i64 pa), D.v (Value.int IntKind.i64 ep), D.v (Value.int IntKind.u32 sq), D.v (Value.int IntKind.u32 ak), D.v (Value.int IntKind.i64 wi), x, str s], D.v (Value.int IntKind.u8 1)] [r] ∧ fits [(false, [none])] [r] ∧ ∃ (b : Bool), r = D.v (Value.bool b) ∧ (b = false → ∃ (r : D), PureD Try.prog 33 [D.agg [D.v (Value.int IntKind.u8 fl), D.v (Value.int IntKind.i64 pa), D.v (Value.int IntKind.i64 ep), D.v (Value.int IntKind.u32 sq), D.v (Value.int IntKind.u32 ak), D.v (Value.int IntKind.i64 wi), x, str s], D.v (Value.int IntKind.u8 8)] [r] ∧ fits [(false, [none])] [r] ∧ ∃ (b : Bool), r = D.v (Value.bool b) ∧ (b = true → (True ∧ True) ∧ [D.v (Value.int IntKind.i64 4)] = [D.v (Value.int IntKind.i64 (sgChk fl pa ep ak wi zs.length s.length))]) ∧ (b = false → (True ∧ True) ∧ [D.v (Value.int IntKind.i64 0)] = [D.v (Value.int IntKind.i64 (sgChk fl pa ep ak wi zs.length s.length))])) ∧ (b = true → (True ∧ True) ∧ [D.v (Value.int IntKind.i64 4)] = [D.v (Value.int IntKind.i64 (sgChk fl pa ep ak wi zs.length s.length))])) ∧ (b = false → (True ∧ True) ∧ [D.v (Value.int IntKind.i64 0)] = [D.v (Value.int IntKind.i64 (sgChk fl pa ep ak wi zs.length s.length))])))) ∧ (b = true → (True ∧ True) ∧ [D.v (Value.int IntKind.i64 5)] = [D.v (Value.int IntKind.i64 (sgChk fl pa ep ak wi zs.length s.length))]))) ∧ (b = true → (True ∧ True) ∧ [D.v (Value.int IntKind.i64 8)] = [D.v (Value.int IntKind.i64 (sgChk fl pa ep ak wi zs.length s.length))])) ∧ (b = true → (True ∧ True) ∧ [D.v (Value.int IntKind.i64 8)] = [D.v (Value.int IntKind.i64 (sgChk fl pa ep ak wi zs.length s.length))])) ∧ (b = true → (True ∧ True) ∧ [D.v (Value.int IntKind.i64 8)] = [D.v (Value.int IntKind.i64 (sgChk fl pa ep ak wi zs.length s.length))])) ∧ (b = true → (True ∧ True) ∧ [D.v (Value.int IntKind.i64 8)] = [D.v (Value.int IntKind.i64 (sgChk fl pa ep ak wi zs.length s.length))])) ∧ (b = true → (True ∧ True) ∧ [D.v (Value.int IntKind.i64 8)] = [D.v (Value.int IntKind.i64 (sgChk fl pa ep ak wi zs.length s.length))]))) := by kernel_rfl
set_option maxHeartbeats 4000000 in
theorem rcheck (fl pa ep sq ak wi : Int) (x : D) (zs : List (Int × Int)) (s : List Int) (hX : IsL 2 (prs zs) x) (hl : zs.length ≤ 100000) (hs : Bytes s) (hsl : s.length ≤ 100000) (f0 : 0 ≤ fl) (f1 : fl < 256) : PureD Try.prog 30 [.agg [.v (.int .u8 fl), .v (.int .i64 pa), .v (.int .i64 ep), .v (.int .u32 sq), .v (.int .u32 ak), .v (.int .i64 wi), x, str s]] [.v (.int .i64 (sgChk fl pa ep ak wi zs.length s.length))] := by
  refine pure_cond (Lp := (fun _ => none)) (by kernel_rfl) Try.func30 (by kernel_rfl) (by kernel_rfl) ?_
  rw [vc_rcheck fl pa ep sq ak wi x zs s]
  have H2 := rhas fl pa ep sq ak wi x zs s 2 hX hl hs hsl f0 f1 (by omega) (by omega)
  have H1 := rhas fl pa ep sq ak wi x zs s 1 hX hl hs hsl f0 f1 (by omega) (by omega)
  have H8 := rhas fl pa ep sq ak wi x zs s 8 hX hl hs hsl f0 f1 (by omega) (by omega)
  have bs := ne_empty hs
  simp only [hX.lenT, prs_len, Option.some.injEq, exists_eq_left']
  repeat' (first
    | (refine ex_some (by simp (disch := omega) only [bin_shr, bin_shl, bin_and, bin_or, bin_xor, len_str, toStr_ofL, bin_add, bin_sub, bin_mul, bin_quo, bin_rem, bin_lss, bin_leq, bin_gtr, bin_geq, bin_eql, bin_neq, eqs_cn, eqs_ci, eqs_cb, eqs_cs, Option.map_some, lenT_ofL, lst_ofL, lstSz_ofL, chunk_one, lst_nil, lst_sl, lstSz_sl, lstSz_nil, Bool.and_true, Bool.true_and, Bool.and_false, Bool.false_and, beq_self_eq_true, beq_bb, bne_bb, un_not, un_neg, conv_int, min2_int, max2_int, w64, w32, wu8, wu16, wu32, wu64, tdiv_nn, tmod_nn, cell_zero, cell_succ, cell_v, cells_v, cells_agg, Bool.not_true, Bool.not_false, Int.reduceLT, Int.reduceLE, Int.reduceEq, Int.reduceNeg, Int.reduceAdd, Int.reduceSub, Int.reduceMul, intOf_v, decide_true, decide_false, bs]; rfl) ?_)
    | (refine ex_bool ?_)
    | (refine ⟨_, H2, ?_⟩)
    | (refine ⟨_, H1, ?_⟩)
    | (refine ⟨_, H8, ?_⟩)
    | (refine And.intro ?_ ?_)
    | (intro hx; have hprop := (show ∀ (p : Prop), p → True from fun _ _ => True.intro) _ hx; clear hprop; first | (cases hx; done) | (exfalso; revert hx; simp (disch := omega) only [decide_eq_true_eq, decide_eq_false_iff_not, Bool.not_eq_true', Bool.not_eq_false', Bool.and_eq_true, Bool.and_eq_false_iff, Int.not_lt, Int.not_le, ne_eq, not_false_eq_true, not_true_eq_false, reduceCtorEq, Bool.true_eq_false, Bool.false_eq_true, beq_iff_eq, bne_iff_ne, beq_eq_false_iff_ne, false_or, or_false, true_and, and_true, bs]; done) | (simp (disch := omega) only [decide_eq_true_eq, decide_eq_false_iff_not, Bool.not_eq_true', Bool.not_eq_false', Bool.and_eq_true, Bool.and_eq_false_iff, Int.not_lt, Int.not_le, ne_eq, not_false_eq_true, not_true_eq_false, reduceCtorEq, Bool.true_eq_false, Bool.false_eq_true, beq_iff_eq, bne_iff_ne, beq_eq_false_iff_ne, false_or, or_false, true_and, and_true, bs] at hx; first | (exfalso; omega) | skip) | skip)
    | trivial
    | exact fit_ofL _ _
    | (simp (disch := omega) only [notAgg_v, notAgg_sl, plain_v, fits, fitsOne, fitsCells, xsOf, cell_zero, cell_succ, List.range, List.range.loop, List.map, cond_true, cond_false, D.v.injEq, exists_eq', exists_eq, and_self, and_true, true_and, D.agg.injEq, List.length, exists_eq_left', D.sl.injEq, reduceCtorEq, false_or, true_or, or_true, or_false, cell_zero, cell_succ, cell_v, cells_v, cells_agg, List.length_cons, List.length_nil, bs]; done))
  all_goals first
    | (exfalso; omega)
    | omega
    | rfl
    | (unfold sgChk; (repeat' split) <;> first | rfl | (exfalso; omega) | (simp_all; done) | (simp_all; omega))
    | exact ⟨_, rfl⟩
    | (simp; done)
    | fail

theorem vc_short (n : Int) : Cond Try.prog (fun _ => none) Try.f36 [.v (.int .i64 n)] [.v (.int .u32 (n % 4294967296))] = ((NotAgg (D.v (Value.int IntKind.i64 n)) ∧ True) ∧ ∃ (r : D), D.conv IntKind.u32 (D.v (Value.int IntKind.i64 n)) = some r ∧ ((∃ (y : Value), r = D.v y) ∧ True) ∧ [r] = [D.v (Value.int IntKind.u32 (n % 4294967296))]) := by kernel_rfl
theorem short (n : Int)  : PureD Try.prog 36 [.v (.int .i64 n)] [.v (.int .u32 (n % 4294967296))] := by
  refine pure_cond (Lp := (fun _ => none)) (by kernel_rfl) Try.func36 (by kernel_rfl) (by kernel_rfl) ?_
  rw [vc_short n]
  repeat' (first
    | (refine ex_some (by simp (disch := omega) only [bin_shr, bin_shl, bin_and, bin_or, bin_xor, len_str, toStr_ofL, bin_add, bin_sub, bin_mul, bin_quo, bin_rem, bin_lss, bin_leq, bin_gtr, bin_geq, bin_eql, bin_neq, eqs_cn, eqs_ci, eqs_cb, eqs_cs, Option.map_some, lenT_ofL, lst_ofL, lstSz_ofL, chunk_one, lst_nil, lst_sl, lstSz_sl, lstSz_nil, Bool.and_true, Bool.true_and, Bool.and_false, Bool.false_and, beq_self_eq_true, beq_bb, bne_bb, un_not, un_neg, conv_int, min2_int, max2_int, w64, w32, wu8, wu16, wu32, wu64, tdiv_nn, tmod_nn, cell_zero, cell_succ, cell_v, cells_v, cells_agg, Bool.not_true, Bool.not_false, Int.reduceLT, Int.reduceLE, Int.reduceEq, Int.reduceNeg, Int.reduceAdd, Int.reduceSub, Int.reduceMul, intOf_v, decide_true, decide_false, wu32m]; rfl) ?_)
    | (refine ex_bool ?_)
    | (refine And.intro ?_ ?_)
    | (intro hx; have hprop := (show ∀ (p : Prop), p → True from fun _ _ => True.intro) _ hx; clear hprop; first | (cases hx; done) | (exfalso; revert hx; simp (disch := omega) only [decide_eq_true_eq, decide_eq_false_iff_not, Bool.not_eq_true', Bool.not_eq_false', Bool.and_eq_true, Bool.and_eq_false_iff, Int.not_lt, Int.not_le, ne_eq, not_false_eq_true, not_true_eq_false, reduceCtorEq, Bool.true_eq_false, Bool.false_eq_true, beq_iff_eq, bne_iff_ne, beq_eq_false_iff_ne, false_or, or_false, true_and, and_true, wu32m]; done) | (simp (disch := omega) only [decide_eq_true_eq, decide_eq_false_iff_not, Bool.not_eq_true', Bool.not_eq_false', Bool.and_eq_true, Bool.and_eq_false_iff, Int.not_lt, Int.not_le, ne_eq, not_false_eq_true, not_true_eq_false, reduceCtorEq, Bool.true_eq_false, Bool.false_eq_true, beq_iff_eq, bne_iff_ne, beq_eq_false_iff_ne, false_or, or_false, true_and, and_true, wu32m] at hx; first | (exfalso; omega) | skip) | skip)
    | trivial
    | exact fit_ofL _ _
    | (simp (disch := omega) only [notAgg_v, notAgg_sl, plain_v, fits, fitsOne, fitsCells, xsOf, cell_zero, cell_succ, List.range, List.range.loop, List.map, cond_true, cond_false, D.v.injEq, exists_eq', exists_eq, and_self, and_true, true_and, D.agg.injEq, List.length, exists_eq_left', D.sl.injEq, reduceCtorEq, false_or, true_or, or_true, or_false, cell_zero, cell_succ, cell_v, cells_v, cells_agg, List.length_cons, List.length_nil, wu32m]; done))
  all_goals first
    | (exfalso; omega)
    | omega
    | rfl
    | (rw [wu32m]; done)
    | exact ⟨_, rfl⟩
    | (simp; done)
    | fail

theorem vc_add1 (a : Int) : Cond Try.prog (fun _ => none) Try.f28 [.v (.int .u32 a), .v (.int .i64 1)] [.v (.int .u32 (nx a))] = ((NotAgg (D.v (Value.int IntKind.u32 a)) ∧ NotAgg (D.v (Value.int IntKind.i64 1)) ∧ True) ∧ ∃ (r : D), PureD Try.prog 36 [D.v (Value.int IntKind.i64 1)] [r] ∧ fits [(false, [none])] [r] ∧ ∃ (r_1 : D), D.bin BinOp.add (D.v (Value.int IntKind.u32 a)) r = some r_1 ∧ ((∃ (y : Value), r_1 = D.v y) ∧ True) ∧ [r_1] = [D.v (Value.int IntKind.u32 (nx a))]) := by kernel_rfl
theorem add1 (a : Int) (a0 : 0 ≤ a) (a1 : a < 4294967296) : PureD Try.prog 28 [.v (.int .u32 a), .v (.int .i64 1)] [.v (.int .u32 (nx a))] := by
  refine pure_cond (Lp := (fun _ => none)) (by kernel_rfl) Try.func28 (by kernel_rfl) (by kernel_rfl) ?_
  rw [vc_add1 a]
  have S := short 1
  repeat' (first
    | (refine ex_some (by simp (disch := omega) only [bin_shr, bin_shl, bin_and, bin_or, bin_xor, len_str, toStr_ofL, bin_add, bin_sub, bin_mul, bin_quo, bin_rem, bin_lss, bin_leq, bin_gtr, bin_geq, bin_eql, bin_neq, eqs_cn, eqs_ci, eqs_cb, eqs_cs, Option.map_some, lenT_ofL, lst_ofL, lstSz_ofL, chunk_one, lst_nil, lst_sl, lstSz_sl, lstSz_nil, Bool.and_true, Bool.true_and, Bool.and_false, Bool.false_and, beq_self_eq_true, beq_bb, bne_bb, un_not, un_neg, conv_int, min2_int, max2_int, w64, w32, wu8, wu16, wu32, wu64, tdiv_nn, tmod_nn, cell_zero, cell_succ, cell_v, cells_v, cells_agg, Bool.not_true, Bool.not_false, Int.reduceLT, Int.reduceLE, Int.reduceEq, Int.reduceNeg, Int.reduceAdd, Int.reduceSub, Int.reduceMul, intOf_v, decide_true, decide_false, wu32m]; rfl) ?_)
    | (refine ex_bool ?_)
    | (refine ⟨_, S, ?_⟩)
    | (refine And.intro ?_ ?_)
    | (intro hx; have hprop := (show ∀ (p : Prop), p → True from fun _ _ => True.intro) _ hx; clear hprop; first | (cases hx; done) | (exfalso; revert hx; simp (disch := omega) only [decide_eq_true_eq, decide_eq_false_iff_not, Bool.not_eq_true', Bool.not_eq_false', Bool.and_eq_true, Bool.and_eq_false_iff, Int.not_lt, Int.not_le, ne_eq, not_false_eq_true, not_true_eq_false, reduceCtorEq, Bool.true_eq_false, Bool.false_eq_true, beq_iff_eq, bne_iff_ne, beq_eq_false_iff_ne, false_or, or_false, true_and, and_true, wu32m]; done) | (simp (disch := omega) only [decide_eq_true_eq, decide_eq_false_iff_not, Bool.not_eq_true', Bool.not_eq_false', Bool.and_eq_true, Bool.and_eq_false_iff, Int.not_lt, Int.not_le, ne_eq, not_false_eq_true, not_true_eq_false, reduceCtorEq, Bool.true_eq_false, Bool.false_eq_true, beq_iff_eq, bne_iff_ne, beq_eq_false_iff_ne, false_or, or_false, true_and, and_true, wu32m] at hx; first | (exfalso; omega) | skip) | skip)
    | trivial
    | exact fit_ofL _ _
    | (simp (disch := omega) only [notAgg_v, notAgg_sl, plain_v, fits, fitsOne, fitsCells, xsOf, cell_zero, cell_succ, List.range, List.range.loop, List.map, cond_true, cond_false, D.v.injEq, exists_eq', exists_eq, and_self, and_true, true_and, D.agg.injEq, List.length, exists_eq_left', D.sl.injEq, reduceCtorEq, false_or, true_or, or_true, or_false, cell_zero, cell_succ, cell_v, cells_v, cells_agg, List.length_cons, List.length_nil, wu32m]; done))
  all_goals first
    | (exfalso; omega)
    | omega
    | rfl
    | (rw [wu32m]; rfl)
    | exact ⟨_, rfl⟩
    | (simp; done)
    | fail

theorem vc_in_ (a b : Int) : Cond Try.prog (fun _ => none) Try.f38 [.v (.int .u32 a), .v (.int .u32 b), .v (.int .i64 2147483648)] [.v (.bool (inH a b))] = ((NotAgg (D.v (Value.int IntKind.u32 a)) ∧ NotAgg (D.v (Value.int IntKind.u32 b)) ∧ NotAgg (D.v (Value.int IntKind.i64 2147483648)) ∧ True) ∧ ∃ (r : D), D.bin BinOp.geq (D.v (Value.int IntKind.i64 2147483648)) (D.v (Value.int IntKind.i64 1)) = some r ∧ ∃ (b_1 : Bool), r = D.v (Value.bool b_1) ∧ (b_1 = true → ∃ (r : D), D.bin BinOp.sub (D.v (Value.int IntKind.u32 a)) (D.v (Value.int IntKind.u32 b)) = some r ∧ ∃ (r_1 : D), D.conv IntKind.i64 r = some r_1 ∧ ∃ (r : D), D.bin BinOp.lss r_1 (D.v (Value.int IntKind.i64 2147483648)) = some r ∧ ((∃ (y : Value), r = D.v y) ∧ True) ∧ [r] = [D.v (Value.bool (inH a b))]) ∧ (b_1 = false → (True ∧ True) ∧ [D.v (Value.bool false)] = [D.v (Value.bool (inH a b))])) := by kernel_rfl
theorem in_ (a b : Int) (a0 : 0 ≤ a) (a1 : a < 4294967296) (b0 : 0 ≤ b) (b1 : b < 4294967296) : PureD Try.prog 38 [.v (.int .u32 a), .v (.int .u32 b), .v (.int .i64 2147483648)] [.v (.bool (inH a b))] := by
  refine pure_cond (Lp := (fun _ => none)) (by kernel_rfl) Try.func38 (by kernel_rfl) (by kernel_rfl) ?_
  rw [vc_in_ a b]
  repeat' (first
    | (refine ex_some (by simp (disch := omega) only [bin_shr, bin_shl, bin_and, bin_or, bin_xor, len_str, toStr_ofL, bin_add, bin_sub, bin_mul, bin_quo, bin_rem, bin_lss, bin_leq, bin_gtr, bin_geq, bin_eql, bin_neq, eqs_cn, eqs_ci, eqs_cb, eqs_cs, Option.map_some, lenT_ofL, lst_ofL, lstSz_ofL, chunk_one, lst_nil, lst_sl, lstSz_sl, lstSz_nil, Bool.and_true, Bool.true_and, Bool.and_false, Bool.false_and, beq_self_eq_true, beq_bb, bne_bb, un_not, un_neg, conv_int, min2_int, max2_int, w64, w32, wu8, wu16, wu32, wu64, tdiv_nn, tmod_nn, cell_zero, cell_succ, cell_v, cells_v, cells_agg, Bool.not_true, Bool.not_false, Int.reduceLT, Int.reduceLE, Int.reduceEq, Int.reduceNeg, Int.reduceAdd, Int.reduceSub, Int.reduceMul, intOf_v, decide_true, decide_false, wu32m]; rfl) ?_)
    | (refine ex_bool ?_)
    | (refine And.intro ?_ ?_)
    | (intro hx; have hprop := (show ∀ (p : Prop), p → True from fun _ _ => True.intro) _ hx; clear hprop; first | (cases hx; done) | (exfalso; revert hx; simp (disch := omega) only [decide_eq_true_eq, decide_eq_false_iff_not, Bool.not_eq_true', Bool.not_eq_false', Bool.and_eq_true, Bool.and_eq_false_iff, Int.not_lt, Int.not_le, ne_eq, not_false_eq_true, not_true_eq_false, reduceCtorEq, Bool.true_eq_false, Bool.false_eq_true, beq_iff_eq, bne_iff_ne, beq_eq_false_iff_ne, false_or, or_false, true_and, and_true, wu32m]; done) | (simp (disch := omega) only [decide_eq_true_eq, decide_eq_false_iff_not, Bool.not_eq_true', Bool.not_eq_false', Bool.and_eq_true, Bool.and_eq_false_iff, Int.not_lt, Int.not_le, ne_eq, not_false_eq_true, not_true_eq_false, reduceCtorEq, Bool.true_eq_false, Bool.false_eq_true, beq_iff_eq, bne_iff_ne, beq_eq_false_iff_ne, false_or, or_false, true_and, and_true, wu32m] at hx; first | (exfalso; omega) | skip) | skip)
    | trivial
    | exact fit_ofL _ _
    | (simp (disch := omega) only [notAgg_v, notAgg_sl, plain_v, fits, fitsOne, fitsCells, xsOf, cell_zero, cell_succ, List.range, List.range.loop, List.map, cond_true, cond_false, D.v.injEq, exists_eq', exists_eq, and_self, and_true, true_and, D.agg.injEq, List.length, exists_eq_left', D.sl.injEq, reduceCtorEq, false_or, true_or, or_true, or_false, cell_zero, cell_succ, cell_v, cells_v, cells_agg, List.length_cons, List.length_nil, wu32m]; done))
  all_goals first
    | (exfalso; omega)
    | omega
    | rfl
    | (unfold inH; congr 4; done)
    | exact ⟨_, rfl⟩
    | (simp; done)
    | fail

theorem vc_rshort (n : Int) : Cond Try.prog (fun _ => none) Try.f40 [.v (.int .i64 n)] [.v (.int .u32 (n % 4294967296))] = ((NotAgg (D.v (Value.int IntKind.i64 n)) ∧ True) ∧ ∃ (r : D), D.bin BinOp.rem (D.v (Value.int IntKind.i64 n)) (D.v (Value.int IntKind.i64 4294967296)) = some r ∧ ∃ (r_1 : D), D.bin BinOp.lss r (D.v (Value.int IntKind.i64 0)) = some r_1 ∧ ∃ (b : Bool), r_1 = D.v (Value.bool b) ∧ (b = true → ∃ (r_2 : D), D.bin BinOp.add r (D.v (Value.int IntKind.i64 4294967296)) = some r_2 ∧ ∃ (r : D), D.conv IntKind.u32 r_2 = some r ∧ ((∃ (y : Value), r = D.v y) ∧ True) ∧ [r] = [D.v (Value.int IntKind.u32 (n % 4294967296))]) ∧ (b = false → ∃ (r_2 : D), D.conv IntKind.u32 r = some r_2 ∧ ((∃ (y : Value), r_2 = D.v y) ∧ True) ∧ [r_2] = [D.v (Value.int IntKind.u32 (n % 4294967296))])) := by kernel_rfl
theorem rshort (n : Int) (n0 : 0 ≤ n) (n1 : n < 100000000000) : PureD Try.prog 40 [.v (.int .i64 n)] [.v (.int .u32 (n % 4294967296))] := by
  refine pure_cond (Lp := (fun _ => none)) (by kernel_rfl) Try.func40 (by kernel_rfl) (by kernel_rfl) ?_
  rw [vc_rshort n]
  repeat' (first
    | (refine ex_some (by simp (disch := omega) only [bin_shr, bin_shl, bin_and, bin_or, bin_xor, len_str, toStr_ofL, bin_add, bin_sub, bin_mul, bin_quo, bin_rem, bin_lss, bin_leq, bin_gtr, bin_geq, bin_eql, bin_neq, eqs_cn, eqs_ci, eqs_cb, eqs_cs, Option.map_some, lenT_ofL, lst_ofL, lstSz_ofL, chunk_one, lst_nil, lst_sl, lstSz_sl, lstSz_nil, Bool.and_true, Bool.true_and, Bool.and_false, Bool.false_and, beq_self_eq_true, beq_bb, bne_bb, un_not, un_neg, conv_int, min2_int, max2_int, w64, w32, wu8, wu16, wu32, wu64, tdiv_nn, tmod_nn, cell_zero, cell_succ, cell_v, cells_v, cells_agg, Bool.not_true, Bool.not_false, Int.reduceLT, Int.reduceLE, Int.reduceEq, Int.reduceNeg, Int.reduceAdd, Int.reduceSub, Int.reduceMul, intOf_v, decide_true, decide_false, wu32m]; rfl) ?_)
    | (refine ex_bool ?_)
    | (refine And.intro ?_ ?_)
    | (intro hx; have hprop := (show ∀ (p : Prop), p → True from fun _ _ => True.intro) _ hx; clear hprop; first | (cases hx; done) | (exfalso; revert hx; simp (disch := omega) only [decide_eq_true_eq, decide_eq_false_iff_not, Bool.not_eq_true', Bool.not_eq_false', Bool.and_eq_true, Bool.and_eq_false_iff, Int.not_lt, Int.not_le, ne_eq, not_false_eq_true, not_true_eq_false, reduceCtorEq, Bool.true_eq_false, Bool.false_eq_true, beq_iff_eq, bne_iff_ne, beq_eq_false_iff_ne, false_or, or_false, true_and, and_true, wu32m]; done) | (simp (disch := omega) only [decide_eq_true_eq, decide_eq_false_iff_not, Bool.not_eq_true', Bool.not_eq_false', Bool.and_eq_true, Bool.and_eq_false_iff, Int.not_lt, Int.not_le, ne_eq, not_false_eq_true, not_true_eq_false, reduceCtorEq, Bool.true_eq_false, Bool.false_eq_true, beq_iff_eq, bne_iff_ne, beq_eq_false_iff_ne, false_or, or_false, true_and, and_true, wu32m] at hx; first | (exfalso; omega) | skip) | skip)
    | trivial
    | exact fit_ofL _ _
    | (simp (disch := omega) only [notAgg_v, notAgg_sl, plain_v, fits, fitsOne, fitsCells, xsOf, cell_zero, cell_succ, List.range, List.range.loop, List.map, cond_true, cond_false, D.v.injEq, exists_eq', exists_eq, and_self, and_true, true_and, D.agg.injEq, List.length, exists_eq_left', D.sl.injEq, reduceCtorEq, false_or, true_or, or_true, or_false, cell_zero, cell_succ, cell_v, cells_v, cells_agg, List.length_cons, List.length_nil, wu32m]; done))
  all_goals first
    | (exfalso; omega)
    | omega
    | rfl
    | (rw [wu32m]; congr 4; omega)
    | (congr 4; omega)
    | exact ⟨_, rfl⟩
    | (simp; done)
    | fail

theorem vc_radd1 (a : Int) : Cond Try.prog (fun _ => none) Try.f37 [.v (.int .u32 a), .v (.int .i64 1)] [.v (.int .u32 (nx a))] = ((NotAgg (D.v (Value.int IntKind.u32 a)) ∧ NotAgg (D.v (Value.int IntKind.i64 1)) ∧ True) ∧ ∃ (r : D), D.conv IntKind.i64 (D.v (Value.int IntKind.u32 a)) = some r ∧ ∃ (r_1 : D), D.bin BinOp.rem (D.v (Value.int IntKind.i64 1)) (D.v (Value.int IntKind.i64 4294967296)) = some r_1 ∧ ∃ (r_2 : D), D.bin BinOp.add r r_1 = some r_2 ∧ ∃ (r : D), PureD Try.prog 40 [r_2] [r] ∧ fits [(false, [none])] [r] ∧ ((∃ (y : Value), r = D.v y) ∧ True) ∧ [r] = [D.v (Value.int IntKind.u32 (nx a))]) := by kernel_rfl
theorem radd1 (a : Int) (a0 : 0 ≤ a) (a1 : a < 4294967296) : PureD Try.prog 37 [.v (.int .u32 a), .v (.int .i64 1)] [.v (.int .u32 (nx a))] := by
  refine pure_cond (Lp := (fun _ => none)) (by kernel_rfl) Try.func37 (by kernel_rfl) (by kernel_rfl) ?_
  rw [vc_radd1 a]
  have S := rshort (a + 1) (by omega) (by omega)
  repeat' (first
    | (refine ex_some (by simp (disch := omega) only [bin_shr, bin_shl, bin_and, bin_or, bin_xor, len_str, toStr_ofL, bin_add, bin_sub, bin_mul, bin_quo, bin_rem, bin_lss, bin_leq, bin_gtr, bin_geq, bin_eql, bin_neq, eqs_cn, eqs_ci, eqs_cb, eqs_cs, Option.map_some, lenT_ofL, lst_ofL, lstSz_ofL, chunk_one, lst_nil, lst_sl, lstSz_sl, lstSz_nil, Bool.and_true, Bool.true_and, Bool.and_false, Bool.false_and, beq_self_eq_true, beq_bb, bne_bb, un_not, un_neg, conv_int, min2_int, max2_int, w64, w32, wu8, wu16, wu32, wu64, tdiv_nn, tmod_nn, cell_zero, cell_succ, cell_v, cells_v, cells_agg, Bool.not_true, Bool.not_false, Int.reduceLT, Int.reduceLE, Int.reduceEq, Int.reduceNeg, Int.reduceAdd, Int.reduceSub, Int.reduceMul, intOf_v, decide_true, decide_false]; rfl) ?_)
    | (refine ex_bool ?_)
    | (refine ⟨_, S, ?_⟩)
    | (refine And.intro ?_ ?_)
    | (intro hx; have hprop := (show ∀ (p : Prop), p → True from fun _ _ => True.intro) _ hx; clear hprop; first | (cases hx; done) | (exfalso; revert hx; simp (disch := omega) only [decide_eq_true_eq, decide_eq_false_iff_not, Bool.not_eq_true', Bool.not_eq_false', Bool.and_eq_true, Bool.and_eq_false_iff, Int.not_lt, Int.not_le, ne_eq, not_false_eq_true, not_true_eq_false, reduceCtorEq, Bool.true_eq_false, Bool.false_eq_true, beq_iff_eq, bne_iff_ne, beq_eq_false_iff_ne, false_or, or_false, true_and, and_true]; done) | (simp (disch := omega) only [decide_eq_true_eq, decide_eq_false_iff_not, Bool.not_eq_true', Bool.not_eq_false', Bool.and_eq_true, Bool.and_eq_false_iff, Int.not_lt, Int.not_le, ne_eq, not_false_eq_true, not_true_eq_false, reduceCtorEq, Bool.true_eq_false, Bool.false_eq_true, beq_iff_eq, bne_iff_ne, beq_eq_false_iff_ne, false_or, or_false, true_and, and_true] at hx; first | (exfalso; omega) | skip) | skip)
    | trivial
    | exact fit_ofL _ _
    | (simp (disch := omega) only [notAgg_v, notAgg_sl, plain_v, fits, fitsOne, fitsCells, xsOf, cell_zero, cell_succ, List.range, List.range.loop, List.map, cond_true, cond_false, D.v.injEq, exists_eq', exists_eq, and_self, and_true, true_and, D.agg.injEq, List.length, exists_eq_left', D.sl.injEq, reduceCtorEq, false_or, true_or, or_true, or_false, cell_zero, cell_succ, cell_v, cells_v, cells_agg, List.length_cons, List.length_nil]; done))
  all_goals first
    | (exfalso; omega)
    | omega
    | rfl
    | (rw [wu32m]; rfl)
    | exact ⟨_, rfl⟩
    | (simp; done)
    | fail

theorem vc_next (a : Int) : Cond Try.prog (fun _ => none) Try.f29 [.v (.int .u32 a)] [.v (.int .u32 (nx a))] = ((NotAgg (D.v (Value.int IntKind.u32 a)) ∧ True) ∧ ∃ (r : D), PureD Try.prog 37 [D.v (Value.int IntKind.u32 a), D.v (Value.int IntKind.i64 1)] [r] ∧ fits [(false, [none])] [r] ∧ ((∃ (y : Value), r = D.v y) ∧ True) ∧ [r] = [D.v (Value.int IntKind.u32 (nx a))]) := by kernel_rfl
theorem next (a : Int) (a0 : 0 ≤ a) (a1 : a < 4294967296) : PureD Try.prog 29 [.v (.int .u32 a)] [.v (.int .u32 (nx a))] := by
  refine pure_cond (Lp := (fun _ => none)) (by kernel_rfl) Try.func29 (by kernel_rfl) (by kernel_rfl) ?_
  rw [vc_next a]
  have S := radd1 a a0 a1
  repeat' (first
    | (refine ex_some (by simp (disch := omega) only [bin_shr, bin_shl, bin_and, bin_or, bin_xor, len_str, toStr_ofL, bin_add, bin_sub, bin_mul, bin_quo, bin_rem, bin_lss, bin_leq, bin_gtr, bin_geq, bin_eql, bin_neq, eqs_cn, eqs_ci, eqs_cb, eqs_cs, Option.map_some, lenT_ofL, lst_ofL, lstSz_ofL, chunk_one, lst_nil, lst_sl, lstSz_sl, lstSz_nil, Bool.and_true, Bool.true_and, Bool.and_false, Bool.false_and, beq_self_eq_true, beq_bb, bne_bb, un_not, un_neg, conv_int, min2_int, max2_int, w64, w32, wu8, wu16, wu32, wu64, tdiv_nn, tmod_nn, cell_zero, cell_succ, cell_v, cells_v, cells_agg, Bool.not_true, Bool.not_false, Int.reduceLT, Int.reduceLE, Int.reduceEq, Int.reduceNeg, Int.reduceAdd, Int.reduceSub, Int.reduceMul, intOf_v, decide_true, decide_false]; rfl) ?_)
    | (refine ex_bool ?_)
    | (refine ⟨_, S, ?_⟩)
    | (refine And.intro ?_ ?_)
    | (intro hx; have hprop := (show ∀ (p : Prop), p → True from fun _ _ => True.intro) _ hx; clear hprop; first | (cases hx; done) | (exfalso; revert hx; simp (disch := omega) only [decide_eq_true_eq, decide_eq_false_iff_not, Bool.not_eq_true', Bool.not_eq_false', Bool.and_eq_true, Bool.and_eq_false_iff, Int.not_lt, Int.not_le, ne_eq, not_false_eq_true, not_true_eq_false, reduceCtorEq, Bool.true_eq_false, Bool.false_eq_true, beq_iff_eq, bne_iff_ne, beq_eq_false_iff_ne, false_or, or_false, true_and, and_true]; done) | (simp (disch := omega) only [decide_eq_true_eq, decide_eq_false_iff_not, Bool.not_eq_true', Bool.not_eq_false', Bool.and_eq_true, Bool.and_eq_false_iff, Int.not_lt, Int.not_le, ne_eq, not_false_eq_true, not_true_eq_false, reduceCtorEq, Bool.true_eq_false, Bool.false_eq_true, beq_iff_eq, bne_iff_ne, beq_eq_false_iff_ne, false_or, or_false, true_and, and_true] at hx; first | (exfalso; omega) | skip) | skip)
    | trivial
    | exact fit_ofL _ _
    | (simp (disch := omega) only [notAgg_v, notAgg_sl, plain_v, fits, fitsOne, fitsCells, xsOf, cell_zero, cell_succ, List.range, List.range.loop, List.map, cond_true, cond_false, D.v.injEq, exists_eq', exists_eq, and_self, and_true, true_and, D.agg.injEq, List.length, exists_eq_left', D.sl.injEq, reduceCtorEq, false_or, true_or, or_true, or_false, cell_zero, cell_succ, cell_v, cells_v, cells_agg, List.length_cons, List.length_nil]; done))
  all_goals first
    | (exfalso; omega)
    | omega
    | rfl
    | exact ⟨_, rfl⟩
    | (simp; done)
    | fail

theorem vc_rin (a b : Int) : Cond Try.prog (fun _ => none) Try.f39 [.v (.int .u32 a), .v (.int .u32 b), .v (.int .i64 2147483648)] [.v (.bool (inH a b))] = ((NotAgg (D.v (Value.int IntKind.u32 a)) ∧ NotAgg (D.v (Value.int IntKind.u32 b)) ∧ NotAgg (D.v (Value.int IntKind.i64 2147483648)) ∧ True) ∧ ∃ (r : D), D.conv IntKind.i64 (D.v (Value.int IntKind.u32 a)) = some r ∧ ∃ (r_1 : D), D.conv IntKind.i64 (D.v (Value.int IntKind.u32 b)) = some r_1 ∧ ∃ (r_2 : D), D.bin BinOp.sub r r_1 = some r_2 ∧ ∃ (r : D), D.bin BinOp.lss r_2 (D.v (Value.int IntKind.i64 0)) = some r ∧ ∃ (b_1 : Bool), r = D.v (Value.bool b_1) ∧ (b_1 = true → ∃ (r : D), D.bin BinOp.add r_2 (D.v (Value.int IntKind.i64 4294967296)) = some r ∧ ∃ (r_3 : D), D.bin BinOp.lss r (D.v (Value.int IntKind.i64 2147483648)) = some r_3 ∧ ((∃ (y : Value), r_3 = D.v y) ∧ True) ∧ [r_3] = [D.v (Value.bool (inH a b))]) ∧ (b_1 = false → ∃ (r : D), D.bin BinOp.lss r_2 (D.v (Value.int IntKind.i64 2147483648)) = some r ∧ ((∃ (y : Value), r = D.v y) ∧ True) ∧ [r] = [D.v (Value.bool (inH a b))])) := by kernel_rfl
theorem rin (a b : Int) (a0 : 0 ≤ a) (a1 : a < 4294967296) (b0 : 0 ≤ b) (b1 : b < 4294967296) : PureD Try.prog 39 [.v (.int .u32 a), .v (.int .u32 b), .v (.int .i64 2147483648)] [.v (.bool (inH a b))] := by
  refine pure_cond (Lp := (fun _ => none)) (by kernel_rfl) Try.func39 (by kernel_rfl) (by kernel_rfl) ?_
  rw [vc_rin a b]
  repeat' (first
    | (refine ex_some (by simp (disch := omega) only [bin_shr, bin_shl, bin_and, bin_or, bin_xor, len_str, toStr_ofL, bin_add, bin_sub, bin_mul, bin_quo, bin_rem, bin_lss, bin_leq, bin_gtr, bin_geq, bin_eql, bin_neq, eqs_cn, eqs_ci, eqs_cb, eqs_cs, Option.map_some, lenT_ofL, lst_ofL, lstSz_ofL, chunk_one, lst_nil, lst_sl, lstSz_sl, lstSz_nil, Bool.and_true, Bool.true_and, Bool.and_false, Bool.false_and, beq_self_eq_true, beq_bb, bne_bb, un_not, un_neg, conv_int, min2_int, max2_int, w64, w32, wu8, wu16, wu32, wu64, tdiv_nn, tmod_nn, cell_zero, cell_succ, cell_v, cells_v, cells_agg, Bool.not_true, Bool.not_false, Int.reduceLT, Int.reduceLE, Int.reduceEq, Int.reduceNeg, Int.reduceAdd, Int.reduceSub, Int.reduceMul, intOf_v, decide_true, decide_false]; rfl) ?_)
    | (refine ex_bool ?_)
    | (refine And.intro ?_ ?_)
    | (intro hx; have hprop := (show ∀ (p : Prop), p → True from fun _ _ => True.intro) _ hx; clear hprop; first | (cases hx; done) | (exfalso; revert hx; simp (disch := omega) only [decide_eq_true_eq, decide_eq_false_iff_not, Bool.not_eq_true', Bool.not_eq_false', Bool.and_eq_true, Bool.and_eq_false_iff, Int.not_lt, Int.not_le, ne_eq, not_false_eq_true, not_true_eq_false, reduceCtorEq, Bool.true_eq_false, Bool.false_eq_true, beq_iff_eq, bne_iff_ne, beq_eq_false_iff_ne, false_or, or_false, true_and, and_true]; done) | (simp (disch := omega) only [decide_eq_true_eq, decide_eq_false_iff_not, Bool.not_eq_true', Bool.not_eq_false', Bool.and_eq_true, Bool.and_eq_false_iff, Int.not_lt, Int.not_le, ne_eq, not_false_eq_true, not_true_eq_false, reduceCtorEq, Bool.true_eq_false, Bool.false_eq_true, beq_iff_eq, bne_iff_ne, beq_eq_false_iff_ne, false_or, or_false, true_and, and_true] at hx; first | (exfalso; omega) | skip) | skip)
    | trivial
    | exact fit_ofL _ _
    | (simp (disch := omega) only [notAgg_v, notAgg_sl, plain_v, fits, fitsOne, fitsCells, xsOf, cell_zero, cell_succ, List.range, List.range.loop, List.map, cond_true, cond_false, D.v.injEq, exists_eq', exists_eq, and_self, and_true, true_and, D.agg.injEq, List.length, exists_eq_left', D.sl.injEq, reduceCtorEq, false_or, true_or, or_true, or_false, cell_zero, cell_succ, cell_v, cells_v, cells_agg, List.length_cons, List.length_nil]; done))
  all_goals first
    | (exfalso; omega)
    | omega
    | rfl
    | (unfold inH; rw [show (a - b) % 4294967296 = a - b + 4294967296 by omega]; done)
    | (unfold inH; rw [show (a - b) % 4294967296 = a - b by omega]; done)
    | exact ⟨_, rfl⟩
    | (simp; done)
    | fail

theorem vc_behind (a b : Int) : Cond Try.prog (fun _ => none) Try.f35 [.v (.int .u32 a), .v (.int .u32 b)] [.v (.bool (inH a (nx b)))] = ((NotAgg (D.v (Value.int IntKind.u32 a)) ∧ NotAgg (D.v (Value.int IntKind.u32 b)) ∧ True) ∧ ∃ (r : D), PureD Try.prog 29 [D.v (Value.int IntKind.u32 b)] [r] ∧ fits [(false, [none])] [r] ∧ ∃ (r_1 : D), PureD Try.prog 39 [D.v (Value.int IntKind.u32 a), r, D.v (Value.int IntKind.i64 2147483648)] [r_1] ∧ fits [(false, [none])] [r_1] ∧ ((∃ (y : Value), r_1 = D.v y) ∧ True) ∧ [r_1] = [D.v (Value.bool (inH a (nx b)))]) := by kernel_rfl
theorem behind (a b : Int) (a0 : 0 ≤ a) (a1 : a < 4294967296) (b0 : 0 ≤ b) (b1 : b < 4294967296) : PureD Try.prog 35 [.v (.int .u32 a), .v (.int .u32 b)] [.v (.bool (inH a (nx b)))] := by
  refine pure_cond (Lp := (fun _ => none)) (by kernel_rfl) Try.func35 (by kernel_rfl) (by kernel_rfl) ?_
  rw [vc_behind a b]
  have S := next b b0 b1
  have hb : 0 ≤ nx b ∧ nx b < 4294967296 := by unfold nx; omega
  have R := rin a (nx b) a0 a1 hb.1 hb.2
  repeat' (first
    | (refine ex_some (by simp (disch := omega) only [bin_shr, bin_shl, bin_and, bin_or, bin_xor, len_str, toStr_ofL, bin_add, bin_sub, bin_mul, bin_quo, bin_rem, bin_lss, bin_leq, bin_gtr, bin_geq, bin_eql, bin_neq, eqs_cn, eqs_ci, eqs_cb, eqs_cs, Option.map_some, lenT_ofL, lst_ofL, lstSz_ofL, chunk_one, lst_nil, lst_sl, lstSz_sl, lstSz_nil, Bool.and_true, Bool.true_and, Bool.and_false, Bool.false_and, beq_self_eq_true, beq_bb, bne_bb, un_not, un_neg, conv_int, min2_int, max2_int, w64, w32, wu8, wu16, wu32, wu64, tdiv_nn, tmod_nn, cell_zero, cell_succ, cell_v, cells_v, cells_agg, Bool.not_true, Bool.not_false, Int.reduceLT, Int.reduceLE, Int.reduceEq, Int.reduceNeg, Int.reduceAdd, Int.reduceSub, Int.reduceMul, intOf_v, decide_true, decide_false]; rfl) ?_)
    | (refine ex_bool ?_)
    | (refine ⟨_, S, ?_⟩)
    | (refine ⟨_, R, ?_⟩)
    | (refine And.intro ?_ ?_)
    | (intro hx; have hprop := (show ∀ (p : Prop), p → True from fun _ _ => True.intro) _ hx; clear hprop; first | (cases hx; done) | (exfalso; revert hx; simp (disch := omega) only [decide_eq_true_eq, decide_eq_false_iff_not, Bool.not_eq_true', Bool.not_eq_false', Bool.and_eq_true, Bool.and_eq_false_iff, Int.not_lt, Int.not_le, ne_eq, not_false_eq_true, not_true_eq_false, reduceCtorEq, Bool.true_eq_false, Bool.false_eq_true, beq_iff_eq, bne_iff_ne, beq_eq_false_iff_ne, false_or, or_false, true_and, and_true]; done) | (simp (disch := omega) only [decide_eq_true_eq, decide_eq_false_iff_not, Bool.not_eq_true', Bool.not_eq_false', Bool.and_eq_true, Bool.and_eq_false_iff, Int.not_lt, Int.not_le, ne_eq, not_false_eq_true, not_true_eq_false, reduceCtorEq, Bool.true_eq_false, Bool.false_eq_true, beq_iff_eq, bne_iff_ne, beq_eq_false_iff_ne, false_or, or_false, true_and, and_true] at hx; first | (exfalso; omega) | skip) | skip)
    | trivial
    | exact fit_ofL _ _
    | (simp (disch := omega) only [notAgg_v, notAgg_sl, plain_v, fits, fitsOne, fitsCells, xsOf, cell_zero, cell_succ, List.range, List.range.loop, List.map, cond_true, cond_false, D.v.injEq, exists_eq', exists_eq, and_self, and_true, true_and, D.agg.injEq, List.length, exists_eq_left', D.sl.injEq, reduceCtorEq, false_or, true_or, or_true, or_false, cell_zero, cell_succ, cell_v, cells_v, cells_agg, List.length_cons, List.length_nil]; done))
  all_goals first
    | (exfalso; omega)
    | omega
    | rfl
    | exact ⟨_, rfl⟩
    | (simp; done)
    | fail

end Go.Proofs.Ytbeofckoonophaa