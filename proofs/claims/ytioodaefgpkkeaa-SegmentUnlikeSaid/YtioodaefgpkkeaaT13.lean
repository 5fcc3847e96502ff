/-
  Layer 7: the law SegmentPuts.
-/
import Derived.Test.YtioodaefgpkkeaaT1
import Derived.Test.YtioodaefgpkkeaaT2
import Derived.Test.YtioodaefgpkkeaaT3
import Derived.Test.YtioodaefgpkkeaaT4
import Derived.Test.YtioodaefgpkkeaaT5
import Derived.Test.YtioodaefgpkkeaaT6
import Derived.Test.YtioodaefgpkkeaaT7
import Derived.Test.YtioodaefgpkkeaaT8
import Derived.Test.YtioodaefgpkkeaaT9
import Derived.Test.YtioodaefgpkkeaaT10
import Derived.Test.YtioodaefgpkkeaaT12
namespace Go.Proofs.Ytioodaefgpkkeaa
open Go.RowKit
set_option linter.unusedSimpArgs false
set_option linter.unusedVariables false


theorem putA {fl pa ep sq ak wi : Int} {x : D} {zs : List (Int × Int)} {s : List Int} (hX : IsL 2 (prs zs) x) (hl : zs.length ≤ 100000) (hs : Bytes s) (hsl : s.length ≤ 100000) (f0 : 0 ≤ fl) (f1 : fl < 256) (q0 : 0 ≤ sq) (q1 : sq < 4294967296) (a0 : 0 ≤ ak) (a1 : ak < 4294967296) (hz : ∀ z ∈ zs, (0 ≤ z.1 ∧ z.1 < 4294967296) ∧ 0 ≤ z.2 ∧ z.2 < 4294967296) : PureD Try.prog 9 [.agg [.v (.int .u8 fl), .v (.int .i64 pa), .v (.int .i64 ep), .v (.int .u32 sq), .v (.int .u32 ak), .v (.int .i64 wi), x, str s]] [str (putF fl pa ep sq ak wi zs s).1, .v (.int .i64 (putF fl pa ep sq ak wi zs s).2)] := by
  by_cases hc : sgChk fl pa ep ak wi zs.length s.length = 0
  · exact putS _ _ _ _ _ _ _ _ _ hX hl hs hsl f0 f1 q0 q1 a0 a1 hz hc
  · exact putE _ _ _ _ _ _ _ _ _ hX hl hs hsl f0 f1 hc
theorem rputA {fl pa ep sq ak wi : Int} {x : D} {zs : List (Int × Int)} {s : List Int} (hX : IsL 2 (prs zs) x) (hl : zs.length ≤ 100000) (hs : Bytes s) (hsl : s.length ≤ 100000) (f0 : 0 ≤ fl) (f1 : fl < 256) (q0 : 0 ≤ sq) (q1 : sq < 4294967296) (a0 : 0 ≤ ak) (a1 : ak < 4294967296) (hz : ∀ z ∈ zs, (0 ≤ z.1 ∧ z.1 < 4294967296) ∧ 0 ≤ z.2 ∧ z.2 < 4294967296) : PureD Try.prog 10 [.agg [.v (.int .u8 fl), .v (.int .i64 pa), .v (.int .i64 ep), .v (.int .u32 sq), .v (.int .u32 ak), .v (.int .i64 wi), x, str s]] [str (putF fl pa ep sq ak wi zs s).1, .v (.int .i64 (putF fl pa ep sq ak wi zs s).2)] := by
  by_cases hc : sgChk fl pa ep ak wi zs.length s.length = 0
  · exact rputS _ _ _ _ _ _ _ _ _ hX hl hs hsl f0 f1 q0 q1 a0 a1 hz hc
  · exact rputE _ _ _ _ _ _ _ _ _ hX hl hs hsl f0 f1 hc
theorem putF_bytes {fl pa ep sq ak wi : Int} {zs : List (Int × Int)} {s : List Int} (h : Bytes s) : Bytes (putF fl pa ep sq ak wi zs s).1 := by
  unfold putF
  split
  · exact seal_bytes (put_bytes h)
  · exact Bytes.nil
theorem small_ok {zs zt : List (Int × Int)} {s t : List Int} : (zs.length ≤ 8 ∧ zt.length ≤ 8 ∧ s.length ≤ 100 ∧ t.length ≤ 100) ∨ ¬ (zs.length ≤ 8 ∧ zt.length ≤ 8 ∧ s.length ≤ 100 ∧ t.length ≤ 100) := Classical.em _

theorem vc_lputsS (fl pa ep sq ak wi : Int) (x : D) (zs : List (Int × Int)) (s : List Int) (gl qa fp tq bk xi : Int) (y : D) (zt : List (Int × Int)) (t : List Int) (g : Int) : Cond Try.prog (fun _ => none) Try.f3 [.agg [.v (.int .u8 fl), .v (.int .i64 pa), .v (.int .i64 ep), .v (.int .u32 sq), .v (.int .u32 ak), .v (.int .i64 wi), x, str s], .agg [.v (.int .u8 gl), .v (.int .i64 qa), .v (.int .i64 fp), .v (.int .u32 tq), .v (.int .u32 bk), .v (.int .i64 xi), y, str t], .v (.int .u8 g)] [.v (.bool true)] = (((∃ (cs : List D), D.agg [D.v (Value.int IntKind.u8 fl), D.v (Value.int IntKind.i64 pa), D.v (Value.int IntKind.i64 ep), D.v (Value.int IntKind.u32 sq), D.v (Value.int IntKind.u32 ak), D.v (Value.int IntKind.i64 wi), x, str s] = D.agg cs ∧ cs.length = 8) ∧ (∃ (cs : List D), D.agg [D.v (Value.int IntKind.u8 gl), D.v (Value.int IntKind.i64 qa), D.v (Value.int IntKind.i64 fp), D.v (Value.int IntKind.u32 tq), D.v (Value.int IntKind.u32 bk), D.v (Value.int IntKind.i64 xi), y, str t] = D.agg cs ∧ cs.length = 8) ∧ NotAgg (D.v (Value.int IntKind.u8 g)) ∧ True) ∧ ∃ (r : D), D.lenT (TypeDesc.slice 55) x = some r ∧ ∃ (r_1 : D), D.bin BinOp.gtr r (D.v (Value.int IntKind.i64 8)) = some r_1 ∧ ∃ (b : Bool), r_1 = D.v (Value.bool b) ∧ (b = false → ∃ (r : D), D.lenT (TypeDesc.slice 55) y = some r ∧ ∃ (r_2 : D), D.bin BinOp.gtr r (D.v (Value.int IntKind.i64 8)) = some r_2 ∧ ∃ (b : Bool), r_2 = D.v (Value.bool b) ∧ (b = false → ∃ (r : D), D.lenT TypeDesc.string (str s) = some r ∧ ∃ (r_3 : D), D.bin BinOp.gtr r (D.v (Value.int IntKind.i64 100)) = some r_3 ∧ ∃ (b : Bool), r_3 = D.v (Value.bool b) ∧ (b = false → ∃ (r : D), D.lenT TypeDesc.string (str t) = some r ∧ ∃ (r_4 : D), D.bin BinOp.gtr r (D.v (Value.int IntKind.i64 100)) = some r_4 ∧ ∃ (b : Bool), r_4 = D.v (Value.bool b) ∧ (b = true → ∃ (r : D), PureD Try.prog 7 [] [r] ∧ fits [(false, [none])] [r] ∧ ((∃ (y : Value), r = D.v y) ∧ True) ∧ [r] = [D.v (Value.bool true)]) ∧ (b = false → ∃ (r : D), PureD Try.prog 8 [D.agg [D.v (Value.int IntKind.u8 fl), D.v (Value.int IntKind.i64 pa), D.v (Value.int IntKind.i64 ep), D.v (Value.int IntKind.u32 sq), D.v (Value.int IntKind.u32 ak), D.v (Value.int IntKind.i64 wi), x, str s]] [r] ∧ fits [(true, [none, none, none, none, none, none, some 2, none])] [r] ∧ ∃ (r_5 : D), ∃ (r_6 : D), PureD Try.prog 9 [D.agg [r.cell 0, r.cell 1, r.cell 2, r.cell 3, r.cell 4, r.cell 5, r.cell 6, r.cell 7]] [r_5, r_6] ∧ fits [(false, [none]), (false, [none])] [r_5, r_6] ∧ ∃ (r_7 : D), ∃ (r_8 : D), PureD Try.prog 10 [D.agg [D.v (Value.int IntKind.u8 fl), D.v (Value.int IntKind.i64 pa), D.v (Value.int IntKind.i64 ep), D.v (Value.int IntKind.u32 sq), D.v (Value.int IntKind.u32 ak), D.v (Value.int IntKind.i64 wi), x, str s]] [r_7, r_8] ∧ fits [(false, [none]), (false, [none])] [r_7, r_8] ∧ ∃ (r_9 : D), D.bin BinOp.eql r_5 r_7 = some r_9 ∧ ∃ (b : Bool), r_9 = D.v (Value.bool b) ∧ (b = true → ∃ (r_10 : D), D.bin BinOp.eql r_6 r_8 = some r_10 ∧ ∃ (b : Bool), r_10 = D.v (Value.bool b) ∧ (b = true → ∃ (r_11 : D), PureD Try.prog 11 [D.agg [r.cell 0, r.cell 1, r.cell 2, r.cell 3, r.cell 4, r.cell 5, r.cell 6, r.cell 7]] [r_11] ∧ fits [(false, [none])] [r_11] ∧ ∃ (r_12 : D), PureD Try.prog 12 [D.agg [D.v (Value.int IntKind.u8 fl), D.v (Value.int IntKind.i64 pa), D.v (Value.int IntKind.i64 ep), D.v (Value.int IntKind.u32 sq), D.v (Value.int IntKind.u32 ak), D.v (Value.int IntKind.i64 wi), x, str s]] [r_12] ∧ fits [(false, [none])] [r_12] ∧ ∃ (r_13 : D), D.bin BinOp.eql r_11 r_12 = some r_13 ∧ ∃ (b : Bool), r_13 = D.v (Value.bool b) ∧ (b = true → ∃ (r_14 : D), PureD Try.prog 13 [D.agg [r.cell 0, r.cell 1, r.cell 2, r.cell 3, r.cell 4, r.cell 5, r.cell 6, r.cell 7]] [r_14] ∧ fits [(false, [none])] [r_14] ∧ ∃ (r_15 : D), PureD Try.prog 14 [D.agg [D.v (Value.int IntKind.u8 fl), D.v (Value.int IntKind.i64 pa), D.v (Value.int IntKind.i64 ep), D.v (Value.int IntKind.u32 sq), D.v (Value.int IntKind.u32 ak), D.v (Value.int IntKind.i64 wi), x, str s]] [r_15] ∧ fits [(false, [none])] [r_15] ∧ ∃ (r_16 : D), D.bin BinOp.eql r_14 r_15 = some r_16 ∧ ∃ (b : Bool), r_16 = D.v (Value.bool b) ∧ (b = true → ∃ (r_17 : D), PureD Try.prog 15 [D.agg [r.cell 0, r.cell 1, r.cell 2, r.cell 3, r.cell 4, r.cell 5, r.cell 6, r.cell 7], D.v (Value.int IntKind.u8 g)] [r_17] ∧ fits [(false, [none])] [r_17] ∧ ∃ (r_18 : D), PureD Try.prog 16 [D.agg [D.v (Value.int IntKind.u8 fl), D.v (Value.int IntKind.i64 pa), D.v (Value.int IntKind.i64 ep), D.v (Value.int IntKind.u32 sq), D.v (Value.int IntKind.u32 ak), D.v (Value.int IntKind.i64 wi), x, str s], D.v (Value.int IntKind.u8 g)] [r_18] ∧ fits [(false, [none])] [r_18] ∧ ∃ (r_19 : D), r_17.beq r_18 = some r_19 ∧ ∃ (b : Bool), r_19 = D.v (Value.bool b) ∧ (b = true → ∃ (r_20 : D), PureD Try.prog 8 [D.agg [D.v (Value.int IntKind.u8 gl), D.v (Value.int IntKind.i64 qa), D.v (Value.int IntKind.i64 fp), D.v (Value.int IntKind.u32 tq), D.v (Value.int IntKind.u32 bk), D.v (Value.int IntKind.i64 xi), y, str t]] [r_20] ∧ fits [(true, [none, none, none, none, none, none, some 2, none])] [r_20] ∧ ∃ (r_21 : D), PureD Try.prog 17 [D.agg [r.cell 0, r.cell 1, r.cell 2, r.cell 3, r.cell 4, r.cell 5, r.cell 6, r.cell 7], D.agg [r_20.cell 0, r_20.cell 1, r_20.cell 2, r_20.cell 3, r_20.cell 4, r_20.cell 5, r_20.cell 6, r_20.cell 7]] [r_21] ∧ fits [(false, [none])] [r_21] ∧ ∃ (r : D), PureD Try.prog 18 [D.agg [D.v (Value.int IntKind.u8 fl), D.v (Value.int IntKind.i64 pa), D.v (Value.int IntKind.i64 ep), D.v (Value.int IntKind.u32 sq), D.v (Value.int IntKind.u32 ak), D.v (Value.int IntKind.i64 wi), x, str s], D.agg [D.v (Value.int IntKind.u8 gl), D.v (Value.int IntKind.i64 qa), D.v (Value.int IntKind.i64 fp), D.v (Value.int IntKind.u32 tq), D.v (Value.int IntKind.u32 bk), D.v (Value.int IntKind.i64 xi), y, str t]] [r] ∧ fits [(false, [none])] [r] ∧ ∃ (r_22 : D), r_21.beq r = some r_22 ∧ ∃ (b : Bool), r_22 = D.v (Value.bool b) ∧ (b = true → ∃ (r : D), PureD Try.prog 7 [] [r] ∧ fits [(false, [none])] [r] ∧ ((∃ (y : Value), r = D.v y) ∧ True) ∧ [r] = [D.v (Value.bool true)]) ∧ (b = false → (True ∧ True) ∧ [D.v (Value.bool false)] = [D.v (Value.bool true)])) ∧ (b = false → (True ∧ True) ∧ [D.v (Value.bool false)] = [D.v (Value.bool true)])) ∧ (b = false → (True ∧ True) ∧ [D.v (Value.bool false)] = [D.v (Value.bool true)])) ∧ (b = false → (True ∧ True) ∧ [D.v (Value.bool false)] = [D.v (Value.bool true)])) ∧ (b = false → (True ∧ True) ∧ [D.v (Value.bool false)] = [D.v (Value.bool true)])) ∧ (b = false → (True ∧ True) ∧ [D.v (Value.bool false)] = [D.v (Value.bool true)]))) ∧ (b = true → ∃ (r : D), PureD Try.prog 7 [] [r] ∧ fits [(false, [none])] [r] ∧ ((∃ (y : Value), r = D.v y) ∧ True) ∧ [r] = [D.v (Value.bool true)])) ∧ (b = true → ∃ (r : D), PureD Try.prog 7 [] [r] ∧ fits [(false, [none])] [r] ∧ ((∃ (y : Value), r = D.v y) ∧ True) ∧ [r] = [D.v (Value.bool true)])) ∧ (b = true → ∃ (r : D), PureD Try.prog 7 [] [r] ∧ fits [(false, [none])] [r] ∧ ((∃ (y : Value), r = D.v y) ∧ True) ∧ [r] = [D.v (Value.bool true)])) := by kernel_rfl
set_option maxHeartbeats 16000000 in
theorem lputsS (fl pa ep sq ak wi : Int) (x : D) (zs : List (Int × Int)) (s : List Int) (gl qa fp tq bk xi : Int) (y : D) (zt : List (Int × Int)) (t : List Int) (g : Int) (hX : IsL 2 (prs zs) x) (hs : Bytes s) (f0 : 0 ≤ fl) (f1 : fl < 256) (q0 : 0 ≤ sq) (q1 : sq < 4294967296) (a0 : 0 ≤ ak) (a1 : ak < 4294967296) (hz : ∀ z ∈ zs, (0 ≤ z.1 ∧ z.1 < 4294967296) ∧ 0 ≤ z.2 ∧ z.2 < 4294967296) (hY : IsL 2 (prs zt) y) (ht : Bytes t) (k0 : 0 ≤ gl) (k1 : gl < 256) (r0 : 0 ≤ tq) (r1 : tq < 4294967296) (b0 : 0 ≤ bk) (b1 : bk < 4294967296) (hz2 : ∀ z ∈ zt, (0 ≤ z.1 ∧ z.1 < 4294967296) ∧ 0 ≤ z.2 ∧ z.2 < 4294967296) (g0 : 0 ≤ g) (g1 : g < 256) (hS : zs.length ≤ 8 ∧ zt.length ≤ 8 ∧ s.length ≤ 100 ∧ t.length ≤ 100) : PureD Try.prog 3 [.agg [.v (.int .u8 fl), .v (.int .i64 pa), .v (.int .i64 ep), .v (.int .u32 sq), .v (.int .u32 ak), .v (.int .i64 wi), x, str s], .agg [.v (.int .u8 gl), .v (.int .i64 qa), .v (.int .i64 fp), .v (.int .u32 tq), .v (.int .u32 bk), .v (.int .i64 xi), y, str t], .v (.int .u8 g)] [.v (.bool true)] := by
  refine pure_cond (Lp := (fun _ => none)) (by kernel_rfl) Try.func3 (by kernel_rfl) (by kernel_rfl) ?_
  rw [vc_lputsS fl pa ep sq ak wi x zs s gl qa fp tq bk xi y zt t g]
  simp only [cell_zero, cell_succ, hX.lenT, hY.lenT, prs_len, Option.some.injEq, exists_eq_left']
  have AW := awake
  have hl : zs.length ≤ 100000 := by omega
  have hsl : s.length ≤ 100000 := by omega
  have hl2 : zt.length ≤ 100000 := by omega
  have htl : t.length ≤ 100000 := by omega
  have OW := ownS fl pa ep sq ak wi x zs s hX hl hs hsl f0 f1
  have hO : IsL 2 (prs zs) (ofL 2 (prs zs)) := isL_ofL _ _
  have hO2 : IsL 2 (prs zt) (ofL 2 (prs zt)) := isL_ofL _ _
  have PU := putA (pa := pa) (ep := ep) (wi := wi) hO hl hs hsl f0 f1 q0 q1 a0 a1 hz
  have RP := rputA (pa := pa) (ep := ep) (wi := wi) hX hl hs hsl f0 f1 q0 q1 a0 a1 hz
  have pb : Bytes (putF fl pa ep sq ak wi zs s).1 := putF_bytes hs
  generalize putF fl pa ep sq ak wi zs s = pf at PU RP pb
  have eq := bin_seql pb pb
  rw [decide_eq_true rfl] at eq
  have CK := check fl pa ep sq ak wi (ofL 2 (prs zs)) zs s hO hl hs hsl f0 f1
  have RC := rcheck fl pa ep sq ak wi x zs s hX hl hs hsl f0 f1
  have SP := span fl pa ep sq ak wi (ofL 2 (prs zs)) zs s hO hl hs hsl f0 f1
  have RS := rspan fl pa ep sq ak wi x zs s hX hl hs hsl f0 f1
  have HA := has fl pa ep sq ak wi (ofL 2 (prs zs)) zs s g hO hl hs hsl f0 f1 g0 g1
  have RH := rhas fl pa ep sq ak wi x zs s g hX hl hs hsl f0 f1 g0 g1
  have OY := ownS gl qa fp tq bk xi y zt t hY hl2 ht htl k0 k1
  have SA := same fl pa ep sq ak wi (ofL 2 (prs zs)) zs s gl qa fp tq bk xi (ofL 2 (prs zt)) zt t hO hl hs hO2 hl2 ht
  have RA := rsame fl pa ep sq ak wi x zs s gl qa fp tq bk xi y zt t hX hl hs hY hl2 ht
  generalize sameB fl pa ep sq ak wi zs s gl qa fp tq bk xi zt t = sb at SA RA
  generalize hasB fl g = hb at HA RH
  generalize spanF fl s.length = sf at SP RS
  generalize sgChk fl pa ep ak wi zs.length s.length = sc at CK RC
  repeat' (first
    | (refine ex_some (by simp (disch := omega) only [bin_shr, bin_shl, bin_and, bin_or, bin_xor, len_str, toStr_ofL, bin_add, bin_sub, bin_mul, bin_quo, bin_rem, bin_lss, bin_leq, bin_gtr, bin_geq, bin_eql, bin_neq, eqs_cn, eqs_ci, eqs_cb, eqs_cs, Option.map_some, lenT_ofL, lst_ofL, lstSz_ofL, chunk_one, lst_nil, lst_sl, lstSz_sl, lstSz_nil, Bool.and_true, Bool.true_and, Bool.and_false, Bool.false_and, beq_self_eq_true, beq_bb, bne_bb, un_not, un_neg, conv_int, min2_int, max2_int, w64, w32, wu8, wu16, wu32, wu64, tdiv_nn, tmod_nn, cell_zero, cell_succ, cell_v, cells_v, cells_agg, Bool.not_true, Bool.not_false, Int.reduceLT, Int.reduceLE, Int.reduceEq, Int.reduceNeg, Int.reduceAdd, Int.reduceSub, Int.reduceMul, intOf_v, decide_true, decide_false, eq, len_str]; rfl) ?_)
    | (refine ex_bool ?_)
    | (refine ⟨_, AW, ?_⟩)
    | (refine ⟨_, OW, ?_⟩)
    | (refine ⟨_, _, PU, ?_⟩)
    | (refine ⟨_, _, RP, ?_⟩)
    | (refine ⟨_, CK, ?_⟩)
    | (refine ⟨_, RC, ?_⟩)
    | (refine ⟨_, SP, ?_⟩)
    | (refine ⟨_, RS, ?_⟩)
    | (refine ⟨_, HA, ?_⟩)
    | (refine ⟨_, RH, ?_⟩)
    | (refine ⟨_, OY, ?_⟩)
    | (refine ⟨_, SA, ?_⟩)
    | (refine ⟨_, RA, ?_⟩)
    | (refine And.intro ?_ ?_)
    | (intro hx; have hprop := (show ∀ (p : Prop), p → True from fun _ _ => True.intro) _ hx; clear hprop; first | (cases hx; done) | (exfalso; revert hx; simp (disch := omega) only [decide_eq_true_eq, decide_eq_false_iff_not, Bool.not_eq_true', Bool.not_eq_false', Bool.and_eq_true, Bool.and_eq_false_iff, Int.not_lt, Int.not_le, ne_eq, not_false_eq_true, not_true_eq_false, reduceCtorEq, Bool.true_eq_false, Bool.false_eq_true, beq_iff_eq, bne_iff_ne, beq_eq_false_iff_ne, false_or, or_false, true_and, and_true, eq, len_str]; done) | (simp (disch := omega) only [decide_eq_true_eq, decide_eq_false_iff_not, Bool.not_eq_true', Bool.not_eq_false', Bool.and_eq_true, Bool.and_eq_false_iff, Int.not_lt, Int.not_le, ne_eq, not_false_eq_true, not_true_eq_false, reduceCtorEq, Bool.true_eq_false, Bool.false_eq_true, beq_iff_eq, bne_iff_ne, beq_eq_false_iff_ne, false_or, or_false, true_and, and_true, eq, len_str] at hx; first | (exfalso; omega) | skip) | skip)
    | trivial
    | exact fit_ofL _ _
    | (simp (disch := omega) only [notAgg_v, notAgg_sl, plain_v, fits, fitsOne, fitsCells, xsOf, cell_zero, cell_succ, List.range, List.range.loop, List.map, cond_true, cond_false, D.v.injEq, exists_eq', exists_eq, and_self, and_true, true_and, D.agg.injEq, List.length, exists_eq_left', D.sl.injEq, reduceCtorEq, false_or, true_or, or_true, or_false, cell_zero, cell_succ, cell_v, cells_v, cells_agg, List.length_cons, List.length_nil, eq, len_str]; done))
  all_goals first
    | (exfalso; omega)
    | omega
    | rfl
    | exact ⟨_, rfl⟩
    | exact ⟨_, rfl, rfl⟩
    | exact .inr ⟨_, rfl⟩
    | exact notAgg_v _
    | exact hX.notAgg
    | exact hY.notAgg
    | exact plain_v _
    | exact fit_ofL _ _
    | exact plain_ofL (prs_plain _)
    | (simp; done)
    | fail

set_option maxHeartbeats 16000000 in
theorem lputsM (fl pa ep sq ak wi : Int) (x : D) (zs : List (Int × Int)) (s : List Int) (gl qa fp tq bk xi : Int) (y : D) (zt : List (Int × Int)) (t : List Int) (g : Int) (hX : IsL 2 (prs zs) x) (hs : Bytes s) (f0 : 0 ≤ fl) (f1 : fl < 256) (q0 : 0 ≤ sq) (q1 : sq < 4294967296) (a0 : 0 ≤ ak) (a1 : ak < 4294967296) (hz : ∀ z ∈ zs, (0 ≤ z.1 ∧ z.1 < 4294967296) ∧ 0 ≤ z.2 ∧ z.2 < 4294967296) (hY : IsL 2 (prs zt) y) (ht : Bytes t) (k0 : 0 ≤ gl) (k1 : gl < 256) (r0 : 0 ≤ tq) (r1 : tq < 4294967296) (b0 : 0 ≤ bk) (b1 : bk < 4294967296) (hz2 : ∀ z ∈ zt, (0 ≤ z.1 ∧ z.1 < 4294967296) ∧ 0 ≤ z.2 ∧ z.2 < 4294967296) (hS : ¬ (zs.length ≤ 8 ∧ zt.length ≤ 8 ∧ s.length ≤ 100 ∧ t.length ≤ 100)) : PureD Try.prog 3 [.agg [.v (.int .u8 fl), .v (.int .i64 pa), .v (.int .i64 ep), .v (.int .u32 sq), .v (.int .u32 ak), .v (.int .i64 wi), x, str s], .agg [.v (.int .u8 gl), .v (.int .i64 qa), .v (.int .i64 fp), .v (.int .u32 tq), .v (.int .u32 bk), .v (.int .i64 xi), y, str t], .v (.int .u8 g)] [.v (.bool true)] := by
  refine pure_cond (Lp := (fun _ => none)) (by kernel_rfl) Try.func3 (by kernel_rfl) (by kernel_rfl) ?_
  rw [vc_lputsS fl pa ep sq ak wi x zs s gl qa fp tq bk xi y zt t g]
  simp only [cell_zero, cell_succ, hX.lenT, hY.lenT, prs_len, Option.some.injEq, exists_eq_left']
  have AW := awake
  repeat' (first
    | (refine ex_some (by simp (disch := omega) only [bin_shr, bin_shl, bin_and, bin_or, bin_xor, len_str, toStr_ofL, bin_add, bin_sub, bin_mul, bin_quo, bin_rem, bin_lss, bin_leq, bin_gtr, bin_geq, bin_eql, bin_neq, eqs_cn, eqs_ci, eqs_cb, eqs_cs, Option.map_some, lenT_ofL, lst_ofL, lstSz_ofL, chunk_one, lst_nil, lst_sl, lstSz_sl, lstSz_nil, Bool.and_true, Bool.true_and, Bool.and_false, Bool.false_and, beq_self_eq_true, beq_bb, bne_bb, un_not, un_neg, conv_int, min2_int, max2_int, w64, w32, wu8, wu16, wu32, wu64, tdiv_nn, tmod_nn, cell_zero, cell_succ, cell_v, cells_v, cells_agg, Bool.not_true, Bool.not_false, Int.reduceLT, Int.reduceLE, Int.reduceEq, Int.reduceNeg, Int.reduceAdd, Int.reduceSub, Int.reduceMul, intOf_v, decide_true, decide_false, len_str]; rfl) ?_)
    | (refine ex_bool ?_)
    | (refine ⟨_, AW, ?_⟩)
    | (refine And.intro ?_ ?_)
    | (intro hx; have hprop := (show ∀ (p : Prop), p → True from fun _ _ => True.intro) _ hx; clear hprop; first | (cases hx; done) | (exfalso; revert hx; simp (disch := omega) only [decide_eq_true_eq, decide_eq_false_iff_not, Bool.not_eq_true', Bool.not_eq_false', Bool.and_eq_true, Bool.and_eq_false_iff, Int.not_lt, Int.not_le, ne_eq, not_false_eq_true, not_true_eq_false, reduceCtorEq, Bool.true_eq_false, Bool.false_eq_true, beq_iff_eq, bne_iff_ne, beq_eq_false_iff_ne, false_or, or_false, true_and, and_true, len_str]; done) | (simp (disch := omega) only [decide_eq_true_eq, decide_eq_false_iff_not, Bool.not_eq_true', Bool.not_eq_false', Bool.and_eq_true, Bool.and_eq_false_iff, Int.not_lt, Int.not_le, ne_eq, not_false_eq_true, not_true_eq_false, reduceCtorEq, Bool.true_eq_false, Bool.false_eq_true, beq_iff_eq, bne_iff_ne, beq_eq_false_iff_ne, false_or, or_false, true_and, and_true, len_str] at hx; first | (exfalso; omega) | skip) | skip)
    | trivial
    | exact fit_ofL _ _
    | (simp (disch := omega) only [notAgg_v, notAgg_sl, plain_v, fits, fitsOne, fitsCells, xsOf, cell_zero, cell_succ, List.range, List.range.loop, List.map, cond_true, cond_false, D.v.injEq, exists_eq', exists_eq, and_self, and_true, true_and, D.agg.injEq, List.length, exists_eq_left', D.sl.injEq, reduceCtorEq, false_or, true_or, or_true, or_false, cell_zero, cell_succ, cell_v, cells_v, cells_agg, List.length_cons, List.length_nil, len_str]; done))
  all_goals first
    | (exfalso; omega)
    | omega
    | rfl
    | exact ⟨_, rfl⟩
    | exact ⟨_, rfl, rfl⟩
    | exact .inr ⟨_, rfl⟩
    | exact notAgg_v _
    | exact hX.notAgg
    | exact hY.notAgg
    | exact plain_v _
    | exact fit_ofL _ _
    | exact plain_ofL (prs_plain _)
    | (simp; done)
    | fail


theorem sg_cells {ds : List D} (k : All2 Typed [.int .u8, .int .i64, .int .i64, .int .u32, .int .u32, .int .i64, .sl true [.int .u32, .int .u32], .str] ds) : ∃ (fl pa ep sq ak wi : Int) (x : D) (zs : List (Int × Int)) (s : List Int), D.agg ds = .agg [.v (.int .u8 fl), .v (.int .i64 pa), .v (.int .i64 ep), .v (.int .u32 sq), .v (.int .u32 ak), .v (.int .i64 wi), x, str s] ∧ IsL 2 (prs zs) x ∧ Bytes s ∧ (0 ≤ fl ∧ fl < 256) ∧ (0 ≤ sq ∧ sq < 4294967296) ∧ (0 ≤ ak ∧ ak < 4294967296) ∧ ∀ z ∈ zs, (0 ≤ z.1 ∧ z.1 < 4294967296) ∧ 0 ≤ z.2 ∧ z.2 < 4294967296 := by
  obtain ⟨a, ds, rfl, ha, k⟩ := k.cons_
  obtain ⟨b, ds, rfl, hb, k⟩ := k.cons_
  obtain ⟨c, ds, rfl, hc, k⟩ := k.cons_
  obtain ⟨d, ds, rfl, hd, k⟩ := k.cons_
  obtain ⟨e, ds, rfl, he, k⟩ := k.cons_
  obtain ⟨f, ds, rfl, hf, k⟩ := k.cons_
  obtain ⟨x, ds, rfl, hx, k⟩ := k.cons_
  obtain ⟨s, ds, rfl, hs, k⟩ := k.cons_
  obtain rfl := k.nil_
  obtain ⟨a, rfl, wa⟩ := ha.int_
  obtain ⟨b, rfl, _⟩ := hb.int_
  obtain ⟨c, rfl, _⟩ := hc.int_
  obtain ⟨d, rfl, wd⟩ := hd.int_
  obtain ⟨e, rfl, we⟩ := he.int_
  obtain ⟨f, rfl, _⟩ := hf.int_
  obtain ⟨zs, h1, _, h3⟩ := hx.recs2
  obtain ⟨s, rfl, _⟩ := hs.str_
  refine ⟨a, b, c, d, e, f, x, zs, bytesOf s, by rw [str_of], h1, bytesOf_bd s, wf_u8 wa, wf_u32 wd, wf_u32 we, fun z hz => ⟨wf_u32 (h3 z hz).1, wf_u32 (h3 z hz).2⟩⟩
theorem law_SegmentPuts (xs : List D) (h : All2 TypedA [(true, [.int .u8, .int .i64, .int .i64, .int .u32, .int .u32, .int .i64, .sl true [.int .u32, .int .u32], .str]), (true, [.int .u8, .int .i64, .int .i64, .int .u32, .int .u32, .int .i64, .sl true [.int .u32, .int .u32], .str]), (false, [.int .u8])] xs) : PureD Try.prog 3 xs [.v (.bool true)] := by
  obtain ⟨x, xs, rfl, hx, h⟩ := h.cons_
  obtain ⟨y, xs, rfl, hy, h⟩ := h.cons_
  obtain ⟨g, xs, rfl, hg, h⟩ := h.cons_
  obtain rfl := h.nil_
  obtain ⟨ds, rfl, k⟩ := hx.agg
  obtain ⟨es, rfl, m⟩ := hy.agg
  obtain ⟨g, rfl, wg⟩ := hg.one.int_
  obtain ⟨fl, pa, ep, sq, ak, wi, x, zs, s, e1, hX, hs, ⟨f0, f1⟩, ⟨q0, q1⟩, ⟨a0, a1⟩, hz⟩ := sg_cells k
  obtain ⟨gl, qa, fp, tq, bk, xi, y, zt, t, e2, hY, ht, ⟨k0, k1⟩, ⟨r0, r1⟩, ⟨b0, b1⟩, hz2⟩ := sg_cells m
  rw [e1, e2]
  by_cases hS : zs.length ≤ 8 ∧ zt.length ≤ 8 ∧ s.length ≤ 100 ∧ t.length ≤ 100
  · exact lputsS fl pa ep sq ak wi x zs s gl qa fp tq bk xi y zt t g hX hs f0 f1 q0 q1 a0 a1 hz hY ht k0 k1 r0 r1 b0 b1 hz2 (wf_u8 wg).1 (wf_u8 wg).2 hS
  · exact lputsM fl pa ep sq ak wi x zs s gl qa fp tq bk xi y zt t g hX hs f0 f1 q0 q1 a0 a1 hz hY ht k0 k1 r0 r1 b0 b1 hz2 hS

end Go.Proofs.Ytioodaefgpkkeaa