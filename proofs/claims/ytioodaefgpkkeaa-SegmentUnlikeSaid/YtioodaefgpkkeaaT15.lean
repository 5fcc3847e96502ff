/-
  Layer 7: the law SegmentUnlike.
-/
import Derived.Test.YtioodaefgpkkeaaT1
import Derived.Test.YtioodaefgpkkeaaT2
import Derived.Test.YtioodaefgpkkeaaT3
import Derived.Test.YtioodaefgpkkeaaT4
import Derived.Test.YtioodaefgpkkeaaT5
import Derived.Test.YtioodaefgpkkeaaT6
import Derived.Test.YtioodaefgpkkeaaT7
import Derived.Test.YtioodaefgpkkeaaT8
import Derived.Test.YtioodaefgpkkeaaT9
import Derived.Test.YtioodaefgpkkeaaT10
import Derived.Test.YtioodaefgpkkeaaT12
import Derived.Test.YtioodaefgpkkeaaT13
namespace Go.Proofs.Ytioodaefgpkkeaa
open Go.RowKit
set_option linter.unusedSimpArgs false
set_option linter.unusedVariables false


theorem be1_inj {a b : Int} (a0 : 0 ≤ a) (a1 : a < 256) (b0 : 0 ≤ b) (b1 : b < 256) (h : be a 1 = be b 1) : a = b := by
  simp [be, List.range_succ] at h
  omega
theorem be2_inj {a b : Int} (a0 : 0 ≤ a) (a1 : a < 65536) (b0 : 0 ≤ b) (b1 : b < 65536) (h : be a 2 = be b 2) : a = b := by
  simp [be, List.range_succ] at h
  omega
theorem be4_inj {a b : Int} (a0 : 0 ≤ a) (a1 : a < 4294967296) (b0 : 0 ≤ b) (b1 : b < 4294967296) (h : be a 4 = be b 4) : a = b := by
  simp [be, List.range_succ] at h
  omega
theorem app_inj {a b : List Int} {n m : Int} {w : Nat} (h : a ++ be n w = b ++ be m w) : a = b ∧ be n w = be m w := List.append_inj' h (by rw [be_len, be_len])
def FM (zs : List (Int × Int)) : List Int := zs.flatMap fun z => be z.1 4 ++ be z.2 4
theorem bl_fm : ∀ (zs : List (Int × Int)) (h : List Int), blF h zs = h ++ FM zs
  | [], h => by simp [blF, FM]
  | z :: zs, h => by
    show blF (h ++ be z.1 4 ++ be z.2 4) zs = _
    rw [bl_fm zs]; simp [FM]
theorem fm_len : ∀ zs : List (Int × Int), (FM zs).length = 8 * zs.length
  | [] => rfl
  | z :: zs => by
    show ((be z.1 4 ++ be z.2 4) ++ FM zs).length = _
    simp only [List.length_append, be_len, fm_len zs, List.length_cons]; omega
theorem fm_inj : ∀ {zs zt : List (Int × Int)}, zs.length = zt.length → (∀ z ∈ zs, (0 ≤ z.1 ∧ z.1 < 4294967296) ∧ 0 ≤ z.2 ∧ z.2 < 4294967296) → (∀ z ∈ zt, (0 ≤ z.1 ∧ z.1 < 4294967296) ∧ 0 ≤ z.2 ∧ z.2 < 4294967296) → FM zs = FM zt → zs = zt
  | [], [], _, _, _, _ => rfl
  | [], _ :: _, h, _, _, _ => by simp at h
  | _ :: _, [], h, _, _, _ => by simp at h
  | (a, b) :: zs, (c, d) :: zt, hl, h1, h2, h => by
    have e : (be a 4 ++ be b 4) ++ FM zs = (be c 4 ++ be d 4) ++ FM zt := h
    obtain ⟨e1, e2⟩ := List.append_inj e (by simp only [List.length_append, be_len])
    obtain ⟨e3, e4⟩ := app_inj e1
    have z1 := h1 (a, b) (by simp)
    have z2 := h2 (c, d) (by simp)
    have ha := be4_inj z1.1.1 z1.1.2 z2.1.1 z2.1.2 e3
    have hb := be4_inj z1.2.1 z1.2.2 z2.2.1 z2.2.2 e4
    have ih := fm_inj (zs := zs) (zt := zt) (by simp at hl; exact hl) (fun z hz => h1 z (by simp [hz])) (fun z hz => h2 z (by simp [hz])) e2
    simp only at ha hb
    rw [ha, hb, ih]
theorem chk0 {fl pa ep ak wi : Int} {ns nd : Nat} (h : sgChk fl pa ep ak wi ns nd = 0) : (0 ≤ pa ∧ pa < 256) ∧ (0 ≤ ep ∧ ep < 65536) ∧ (0 ≤ wi ∧ wi < 65536) ∧ ns ≤ 3 ∧ nd ≤ 48 := by
  unfold sgChk at h
  split at h
  · omega
  split at h
  · omega
  split at h
  · omega
  · omega
theorem put_inj {fl pa ep sq ak wi : Int} {zs : List (Int × Int)} {s : List Int} {gl qa fp tq bk xi : Int} {zt : List (Int × Int)} {t : List Int} (f0 : 0 ≤ fl) (f1 : fl < 256) (q0 : 0 ≤ sq) (q1 : sq < 4294967296) (a0 : 0 ≤ ak) (a1 : ak < 4294967296) (hz : ∀ z ∈ zs, (0 ≤ z.1 ∧ z.1 < 4294967296) ∧ 0 ≤ z.2 ∧ z.2 < 4294967296) (k0 : 0 ≤ gl) (k1 : gl < 256) (r0 : 0 ≤ tq) (r1 : tq < 4294967296) (b0 : 0 ≤ bk) (b1 : bk < 4294967296) (hz2 : ∀ z ∈ zt, (0 ≤ z.1 ∧ z.1 < 4294967296) ∧ 0 ≤ z.2 ∧ z.2 < 4294967296) (hc : sgChk fl pa ep ak wi zs.length s.length = 0) (hd : sgChk gl qa fp bk xi zt.length t.length = 0) (h : putL fl pa ep sq ak wi zs s = putL gl qa fp tq bk xi zt t) : fl = gl ∧ pa = qa ∧ ep = fp ∧ sq = tq ∧ ak = bk ∧ wi = xi ∧ zs = zt ∧ s = t := by
  obtain ⟨p0, p1, p2, p3, p4⟩ := chk0 hc
  obtain ⟨o0, o1, o2, o3, o4⟩ := chk0 hd
  unfold putL at h
  rw [bl_fm, bl_fm, List.append_assoc, List.append_assoc, List.append_assoc, List.append_assoc] at h
  obtain ⟨h7, h⟩ := List.append_inj h (by rw [hd7_len, hd7_len])
  obtain ⟨h6, e7⟩ := app_inj h7
  obtain ⟨h5, e6⟩ := app_inj h6
  obtain ⟨h4, e5⟩ := app_inj h5
  obtain ⟨h3, e4⟩ := app_inj h4
  obtain ⟨h2, e3⟩ := app_inj h3
  obtain ⟨h1, e2⟩ := app_inj h2
  obtain ⟨h0, e1⟩ := app_inj h1
  have n7 : zs.length = zt.length := by
    have := be1_inj (by omega) (by omega) (by omega) (by omega) e7
    omega
  obtain ⟨g1, g2⟩ := List.append_inj h (by rw [fm_len, fm_len, n7])
  obtain ⟨g3, g4⟩ := List.append_inj g2 (by rw [be_len, be_len])
  exact ⟨be1_inj f0 f1 k0 k1 e1, be1_inj p0.1 p0.2 o0.1 o0.2 e2, be2_inj p1.1 p1.2 o1.1 o1.2 e3, be4_inj q0 q1 r0 r1 e4, be4_inj a0 a1 b0 b1 e5, be2_inj p2.1 p2.2 o2.1 o2.2 e6, fm_inj n7 hz hz2 g1, g4⟩
theorem seal_inj {a b : List Int} (h : sealF a = sealF b) : a = b := by
  have := congrArg unF h
  rw [un_seal, un_seal] at this
  exact (Prod.mk.inj this).1
theorem putF_snd (fl pa ep sq ak wi : Int) (zs : List (Int × Int)) (s : List Int) : (putF fl pa ep sq ak wi zs s).2 = sgChk fl pa ep ak wi zs.length s.length := by
  unfold putF
  split
  · rename_i h; exact h.symm
  · rfl
theorem put_same {fl pa ep sq ak wi : Int} {zs : List (Int × Int)} {s : List Int} {gl qa fp tq bk xi : Int} {zt : List (Int × Int)} {t : List Int} (f0 : 0 ≤ fl) (f1 : fl < 256) (q0 : 0 ≤ sq) (q1 : sq < 4294967296) (a0 : 0 ≤ ak) (a1 : ak < 4294967296) (hz : ∀ z ∈ zs, (0 ≤ z.1 ∧ z.1 < 4294967296) ∧ 0 ≤ z.2 ∧ z.2 < 4294967296) (k0 : 0 ≤ gl) (k1 : gl < 256) (r0 : 0 ≤ tq) (r1 : tq < 4294967296) (b0 : 0 ≤ bk) (b1 : bk < 4294967296) (hz2 : ∀ z ∈ zt, (0 ≤ z.1 ∧ z.1 < 4294967296) ∧ 0 ≤ z.2 ∧ z.2 < 4294967296) (hc : sgChk fl pa ep ak wi zs.length s.length = 0) (hd : sgChk gl qa fp bk xi zt.length t.length = 0) : decide ((putF fl pa ep sq ak wi zs s).1 = (putF gl qa fp tq bk xi zt t).1) = sameB fl pa ep sq ak wi zs s gl qa fp tq bk xi zt t := by
  unfold sameB
  rw [decide_eq_decide]
  constructor
  · intro h
    unfold putF at h
    rw [if_pos hc, if_pos hd] at h
    exact put_inj f0 f1 q0 q1 a0 a1 hz k0 k1 r0 r1 b0 b1 hz2 hc hd (seal_inj h)
  · rintro ⟨rfl, rfl, rfl, rfl, rfl, rfl, rfl, rfl⟩
    rfl
theorem same_refl (fl pa ep sq ak wi : Int) (zs : List (Int × Int)) (s : List Int) : sameB fl pa ep sq ak wi zs s fl pa ep sq ak wi zs s = true := by simp [sameB]
theorem same_symm (fl pa ep sq ak wi : Int) (zs : List (Int × Int)) (s : List Int) (gl qa fp tq bk xi : Int) (zt : List (Int × Int)) (t : List Int) : sameB gl qa fp tq bk xi zt t fl pa ep sq ak wi zs s = sameB fl pa ep sq ak wi zs s gl qa fp tq bk xi zt t := by
  unfold sameB
  rw [decide_eq_decide]
  constructor <;> (rintro ⟨rfl, rfl, rfl, rfl, rfl, rfl, rfl, rfl⟩; simp)

theorem vc_lunlikeS (fl pa ep sq ak wi : Int) (x : D) (zs : List (Int × Int)) (s : List Int) (gl qa fp tq bk xi : Int) (y : D) (zt : List (Int × Int)) (t : List Int) : Cond Try.prog (fun _ => none) Try.f6 [.agg [.v (.int .u8 fl), .v (.int .i64 pa), .v (.int .i64 ep), .v (.int .u32 sq), .v (.int .u32 ak), .v (.int .i64 wi), x, str s], .agg [.v (.int .u8 gl), .v (.int .i64 qa), .v (.int .i64 fp), .v (.int .u32 tq), .v (.int .u32 bk), .v (.int .i64 xi), y, str t]] [.v (.bool true)] = (((∃ (cs : List D), D.agg [D.v (Value.int IntKind.u8 fl), D.v (Value.int IntKind.i64 pa), D.v (Value.int IntKind.i64 ep), D.v (Value.int IntKind.u32 sq), D.v (Value.int IntKind.u32 ak), D.v (Value.int IntKind.i64 wi), x, str s] = D.agg cs ∧ cs.length = 8) ∧ (∃ (cs : List D), D.agg [D.v (Value.int IntKind.u8 gl), D.v (Value.int IntKind.i64 qa), D.v (Value.int IntKind.i64 fp), D.v (Value.int IntKind.u32 tq), D.v (Value.int IntKind.u32 bk), D.v (Value.int IntKind.i64 xi), y, str t] = D.agg cs ∧ cs.length = 8) ∧ True) ∧ ∃ (r : D), D.lenT (TypeDesc.slice 55) x = some r ∧ ∃ (r_1 : D), D.bin BinOp.gtr r (D.v (Value.int IntKind.i64 8)) = some r_1 ∧ ∃ (b : Bool), r_1 = D.v (Value.bool b) ∧ (b = false → ∃ (r : D), D.lenT TypeDesc.string (str s) = some r ∧ ∃ (r_2 : D), D.bin BinOp.gtr r (D.v (Value.int IntKind.i64 100)) = some r_2 ∧ ∃ (b : Bool), r_2 = D.v (Value.bool b) ∧ (b = false → ∃ (r : D), D.lenT (TypeDesc.slice 55) y = some r ∧ ∃ (r_3 : D), D.bin BinOp.gtr r (D.v (Value.int IntKind.i64 8)) = some r_3 ∧ ∃ (b : Bool), r_3 = D.v (Value.bool b) ∧ (b = false → ∃ (r : D), D.lenT TypeDesc.string (str t) = some r ∧ ∃ (r_4 : D), D.bin BinOp.gtr r (D.v (Value.int IntKind.i64 100)) = some r_4 ∧ ∃ (b : Bool), r_4 = D.v (Value.bool b) ∧ (b = true → ∃ (r : D), PureD Try.prog 7 [] [r] ∧ fits [(false, [none])] [r] ∧ ((∃ (y : Value), r = D.v y) ∧ True) ∧ [r] = [D.v (Value.bool true)]) ∧ (b = false → ∃ (r : D), PureD Try.prog 8 [D.agg [D.v (Value.int IntKind.u8 fl), D.v (Value.int IntKind.i64 pa), D.v (Value.int IntKind.i64 ep), D.v (Value.int IntKind.u32 sq), D.v (Value.int IntKind.u32 ak), D.v (Value.int IntKind.i64 wi), x, str s]] [r] ∧ fits [(true, [none, none, none, none, none, none, some 2, none])] [r] ∧ ∃ (r_5 : D), PureD Try.prog 8 [D.agg [D.v (Value.int IntKind.u8 gl), D.v (Value.int IntKind.i64 qa), D.v (Value.int IntKind.i64 fp), D.v (Value.int IntKind.u32 tq), D.v (Value.int IntKind.u32 bk), D.v (Value.int IntKind.i64 xi), y, str t]] [r_5] ∧ fits [(true, [none, none, none, none, none, none, some 2, none])] [r_5] ∧ ∃ (r_6 : D), ∃ (r_7 : D), PureD Try.prog 9 [D.agg [r.cell 0, r.cell 1, r.cell 2, r.cell 3, r.cell 4, r.cell 5, r.cell 6, r.cell 7]] [r_6, r_7] ∧ fits [(false, [none]), (false, [none])] [r_6, r_7] ∧ ∃ (r_8 : D), ∃ (r_9 : D), PureD Try.prog 9 [D.agg [r_5.cell 0, r_5.cell 1, r_5.cell 2, r_5.cell 3, r_5.cell 4, r_5.cell 5, r_5.cell 6, r_5.cell 7]] [r_8, r_9] ∧ fits [(false, [none]), (false, [none])] [r_8, r_9] ∧ ∃ (r_10 : D), D.bin BinOp.neq r_7 (D.v (Value.int IntKind.i64 0)) = some r_10 ∧ ∃ (b : Bool), r_10 = D.v (Value.bool b) ∧ (b = false → ∃ (r_11 : D), D.bin BinOp.neq r_9 (D.v (Value.int IntKind.i64 0)) = some r_11 ∧ ∃ (b : Bool), r_11 = D.v (Value.bool b) ∧ (b = true → ∃ (r_12 : D), PureD Try.prog 11 [D.agg [r.cell 0, r.cell 1, r.cell 2, r.cell 3, r.cell 4, r.cell 5, r.cell 6, r.cell 7]] [r_12] ∧ fits [(false, [none])] [r_12] ∧ ∃ (r : D), D.bin BinOp.eql r_12 r_7 = some r ∧ ∃ (b : Bool), r = D.v (Value.bool b) ∧ (b = true → ∃ (r : D), PureD Try.prog 11 [D.agg [r_5.cell 0, r_5.cell 1, r_5.cell 2, r_5.cell 3, r_5.cell 4, r_5.cell 5, r_5.cell 6, r_5.cell 7]] [r] ∧ fits [(false, [none])] [r] ∧ ∃ (r_13 : D), D.bin BinOp.eql r r_9 = some r_13 ∧ ∃ (b : Bool), r_13 = D.v (Value.bool b) ∧ (b = true → ∃ (r : D), PureD Try.prog 7 [] [r] ∧ fits [(false, [none])] [r] ∧ ((∃ (y : Value), r = D.v y) ∧ True) ∧ [r] = [D.v (Value.bool true)]) ∧ (b = false → (True ∧ True) ∧ [D.v (Value.bool false)] = [D.v (Value.bool true)])) ∧ (b = false → (True ∧ True) ∧ [D.v (Value.bool false)] = [D.v (Value.bool true)])) ∧ (b = false → ∃ (r_12 : D), D.bin BinOp.eql r_6 r_8 = some r_12 ∧ ∃ (r_13 : D), PureD Try.prog 17 [D.agg [r.cell 0, r.cell 1, r.cell 2, r.cell 3, r.cell 4, r.cell 5, r.cell 6, r.cell 7], D.agg [r_5.cell 0, r_5.cell 1, r_5.cell 2, r_5.cell 3, r_5.cell 4, r_5.cell 5, r_5.cell 6, r_5.cell 7]] [r_13] ∧ fits [(false, [none])] [r_13] ∧ ∃ (r_14 : D), r_12.beq r_13 = some r_14 ∧ ∃ (b : Bool), r_14 = D.v (Value.bool b) ∧ (b = true → ∃ (r_15 : D), PureD Try.prog 17 [D.agg [r.cell 0, r.cell 1, r.cell 2, r.cell 3, r.cell 4, r.cell 5, r.cell 6, r.cell 7], D.agg [r.cell 0, r.cell 1, r.cell 2, r.cell 3, r.cell 4, r.cell 5, r.cell 6, r.cell 7]] [r_15] ∧ fits [(false, [none])] [r_15] ∧ ∃ (b : Bool), r_15 = D.v (Value.bool b) ∧ (b = true → ∃ (r_16 : D), PureD Try.prog 17 [D.agg [r.cell 0, r.cell 1, r.cell 2, r.cell 3, r.cell 4, r.cell 5, r.cell 6, r.cell 7], D.agg [r_5.cell 0, r_5.cell 1, r_5.cell 2, r_5.cell 3, r_5.cell 4, r_5.cell 5, r_5.cell 6, r_5.cell 7]] [r_16] ∧ fits [(false, [none])] [r_16] ∧ ∃ (r_17 : D), PureD Try.prog 17 [D.agg [r_5.cell 0, r_5.cell 1, r_5.cell 2, r_5.cell 3, r_5.cell 4, r_5.cell 5, r_5.cell 6, r_5.cell 7], D.agg [r.cell 0, r.cell 1, r.cell 2, r.cell 3, r.cell 4, r.cell 5, r.cell 6, r.cell 7]] [r_17] ∧ fits [(false, [none])] [r_17] ∧ ∃ (r : D), r_16.beq r_17 = some r ∧ ∃ (b : Bool), r = D.v (Value.bool b) ∧ (b = true → ∃ (r : D), PureD Try.prog 7 [] [r] ∧ fits [(false, [none])] [r] ∧ ((∃ (y : Value), r = D.v y) ∧ True) ∧ [r] = [D.v (Value.bool true)]) ∧ (b = false → (True ∧ True) ∧ [D.v (Value.bool false)] = [D.v (Value.bool true)])) ∧ (b = false → (True ∧ True) ∧ [D.v (Value.bool false)] = [D.v (Value.bool true)])) ∧ (b = false → (True ∧ True) ∧ [D.v (Value.bool false)] = [D.v (Value.bool true)]))) ∧ (b = true → ∃ (r_11 : D), PureD Try.prog 11 [D.agg [r.cell 0, r.cell 1, r.cell 2, r.cell 3, r.cell 4, r.cell 5, r.cell 6, r.cell 7]] [r_11] ∧ fits [(false, [none])] [r_11] ∧ ∃ (r : D), D.bin BinOp.eql r_11 r_7 = some r ∧ ∃ (b : Bool), r = D.v (Value.bool b) ∧ (b = true → ∃ (r : D), PureD Try.prog 11 [D.agg [r_5.cell 0, r_5.cell 1, r_5.cell 2, r_5.cell 3, r_5.cell 4, r_5.cell 5, r_5.cell 6, r_5.cell 7]] [r] ∧ fits [(false, [none])] [r] ∧ ∃ (r_12 : D), D.bin BinOp.eql r r_9 = some r_12 ∧ ∃ (b : Bool), r_12 = D.v (Value.bool b) ∧ (b = true → ∃ (r : D), PureD Try.prog 7 [] [r] ∧ fits [(false, [none])] [r] ∧ ((∃ (y : Value), r = D.v y) ∧ True) ∧ [r] = [D.v (Value.bool true)]) ∧ (b = false → (True ∧ True) ∧ [D.v (Value.bool false)] = [D.v (Value.bool true)])) ∧ (b = false → (True ∧ True) ∧ [D.v (Value.bool false)] = [D.v (Value.bool true)])))) ∧ (b = true → ∃ (r : D), PureD Try.prog 7 [] [r] ∧ fits [(false, [none])] [r] ∧ ((∃ (y : Value), r = D.v y) ∧ True) ∧ [r] = [D.v (Value.bool true)])) ∧ (b = true → ∃ (r : D), PureD Try.prog 7 [] [r] ∧ fits [(false, [none])] [r] ∧ ((∃ (y : Value), r = D.v y) ∧ True) ∧ [r] = [D.v (Value.bool true)])) ∧ (b = true → ∃ (r : D), PureD Try.prog 7 [] [r] ∧ fits [(false, [none])] [r] ∧ ((∃ (y : Value), r = D.v y) ∧ True) ∧ [r] = [D.v (Value.bool true)])) := by kernel_rfl
set_option maxHeartbeats 16000000 in
theorem lunlikeS (fl pa ep sq ak wi : Int) (x : D) (zs : List (Int × Int)) (s : List Int) (gl qa fp tq bk xi : Int) (y : D) (zt : List (Int × Int)) (t : List Int) (hX : IsL 2 (prs zs) x) (hs : Bytes s) (f0 : 0 ≤ fl) (f1 : fl < 256) (q0 : 0 ≤ sq) (q1 : sq < 4294967296) (a0 : 0 ≤ ak) (a1 : ak < 4294967296) (hz : ∀ z ∈ zs, (0 ≤ z.1 ∧ z.1 < 4294967296) ∧ 0 ≤ z.2 ∧ z.2 < 4294967296) (hY : IsL 2 (prs zt) y) (ht : Bytes t) (k0 : 0 ≤ gl) (k1 : gl < 256) (r0 : 0 ≤ tq) (r1 : tq < 4294967296) (b0 : 0 ≤ bk) (b1 : bk < 4294967296) (hz2 : ∀ z ∈ zt, (0 ≤ z.1 ∧ z.1 < 4294967296) ∧ 0 ≤ z.2 ∧ z.2 < 4294967296) (hS : zs.length ≤ 8 ∧ zt.length ≤ 8 ∧ s.length ≤ 100 ∧ t.length ≤ 100) : PureD Try.prog 6 [.agg [.v (.int .u8 fl), .v (.int .i64 pa), .v (.int .i64 ep), .v (.int .u32 sq), .v (.int .u32 ak), .v (.int .i64 wi), x, str s], .agg [.v (.int .u8 gl), .v (.int .i64 qa), .v (.int .i64 fp), .v (.int .u32 tq), .v (.int .u32 bk), .v (.int .i64 xi), y, str t]] [.v (.bool true)] := by
  refine pure_cond (Lp := (fun _ => none)) (by kernel_rfl) Try.func6 (by kernel_rfl) (by kernel_rfl) ?_
  rw [vc_lunlikeS fl pa ep sq ak wi x zs s gl qa fp tq bk xi y zt t]
  simp only [cell_zero, cell_succ, hX.lenT, hY.lenT, prs_len, Option.some.injEq, exists_eq_left']
  have AW := awake
  have hl : zs.length ≤ 100000 := by omega
  have hsl : s.length ≤ 100000 := by omega
  have hl2 : zt.length ≤ 100000 := by omega
  have htl : t.length ≤ 100000 := by omega
  have OW := ownS fl pa ep sq ak wi x zs s hX hl hs hsl f0 f1
  have OY := ownS gl qa fp tq bk xi y zt t hY hl2 ht htl k0 k1
  have hO : IsL 2 (prs zs) (ofL 2 (prs zs)) := isL_ofL _ _
  have hO2 : IsL 2 (prs zt) (ofL 2 (prs zt)) := isL_ofL _ _
  have PU := putA (pa := pa) (ep := ep) (wi := wi) hO hl hs hsl f0 f1 q0 q1 a0 a1 hz
  have PT := putA (pa := qa) (ep := fp) (wi := xi) hO2 hl2 ht htl k0 k1 r0 r1 b0 b1 hz2
  have CK := check fl pa ep sq ak wi (ofL 2 (prs zs)) zs s hO hl hs hsl f0 f1
  have CT := check gl qa fp tq bk xi (ofL 2 (prs zt)) zt t hO2 hl2 ht htl k0 k1
  have SA := same fl pa ep sq ak wi (ofL 2 (prs zs)) zs s gl qa fp tq bk xi (ofL 2 (prs zt)) zt t hO hl hs hO2 hl2 ht
  have SB := same gl qa fp tq bk xi (ofL 2 (prs zt)) zt t fl pa ep sq ak wi (ofL 2 (prs zs)) zs s hO2 hl2 ht hO hl hs
  have SC := same fl pa ep sq ak wi (ofL 2 (prs zs)) zs s fl pa ep sq ak wi (ofL 2 (prs zs)) zs s hO hl hs hO hl hs
  have SD := same gl qa fp tq bk xi (ofL 2 (prs zt)) zt t gl qa fp tq bk xi (ofL 2 (prs zt)) zt t hO2 hl2 ht hO2 hl2 ht
  rw [same_symm] at SB
  rw [same_refl] at SC SD
  have ps := put_same (pa := pa) (ep := ep) (wi := wi) (s := s) (qa := qa) (fp := fp) (xi := xi) (t := t) f0 f1 q0 q1 a0 a1 hz k0 k1 r0 r1 b0 b1 hz2
  rw [putF_snd] at PU PT
  have eq := bin_seql (putF_bytes (fl := fl) (pa := pa) (ep := ep) (sq := sq) (ak := ak) (wi := wi) (zs := zs) hs) (putF_bytes (fl := gl) (pa := qa) (ep := fp) (sq := tq) (ak := bk) (wi := xi) (zs := zt) ht)
  generalize (putF fl pa ep sq ak wi zs s).1 = pf at PU ps eq
  generalize (putF gl qa fp tq bk xi zt t).1 = pg at PT ps eq
  generalize sgChk fl pa ep ak wi zs.length s.length = c at PU CK ps
  generalize sgChk gl qa fp bk xi zt.length t.length = d at PT CT ps
  generalize hsb : sameB fl pa ep sq ak wi zs s gl qa fp tq bk xi zt t = sb at SA SB ps
  by_cases h00 : c = 0 ∧ d = 0
  · obtain ⟨rfl, rfl⟩ := h00
    rw [ps rfl rfl] at eq
    repeat' (first
      | (refine ex_some (by simp (disch := omega) only [bin_shr, bin_shl, bin_and, bin_or, bin_xor, len_str, toStr_ofL, bin_add, bin_sub, bin_mul, bin_quo, bin_rem, bin_lss, bin_leq, bin_gtr, bin_geq, bin_eql, bin_neq, eqs_cn, eqs_ci, eqs_cb, eqs_cs, Option.map_some, lenT_ofL, lst_ofL, lstSz_ofL, chunk_one, lst_nil, lst_sl, lstSz_sl, lstSz_nil, Bool.and_true, Bool.true_and, Bool.and_false, Bool.false_and, beq_self_eq_true, beq_bb, bne_bb, un_not, un_neg, conv_int, min2_int, max2_int, w64, w32, wu8, wu16, wu32, wu64, tdiv_nn, tmod_nn, cell_zero, cell_succ, cell_v, cells_v, cells_agg, Bool.not_true, Bool.not_false, Int.reduceLT, Int.reduceLE, Int.reduceEq, Int.reduceNeg, Int.reduceAdd, Int.reduceSub, Int.reduceMul, intOf_v, decide_true, decide_false, eq, len_str]; rfl) ?_)
      | (refine ex_bool ?_)
      | (refine ⟨_, AW, ?_⟩)
      | (refine ⟨_, OW, ?_⟩)
      | (refine ⟨_, OY, ?_⟩)
      | (refine ⟨_, _, PU, ?_⟩)
      | (refine ⟨_, _, PT, ?_⟩)
      | (refine ⟨_, CK, ?_⟩)
      | (refine ⟨_, CT, ?_⟩)
      | (refine ⟨_, SC, ?_⟩)
      | (refine ⟨_, SD, ?_⟩)
      | (refine ⟨_, SA, ?_⟩)
      | (refine ⟨_, SB, ?_⟩)
      | (refine And.intro ?_ ?_)
      | (intro hx; have hprop := (show ∀ (p : Prop), p → True from fun _ _ => True.intro) _ hx; clear hprop; first | (cases hx; done) | (exfalso; revert hx; simp (disch := omega) only [decide_eq_true_eq, decide_eq_false_iff_not, Bool.not_eq_true', Bool.not_eq_false', Bool.and_eq_true, Bool.and_eq_false_iff, Int.not_lt, Int.not_le, ne_eq, not_false_eq_true, not_true_eq_false, reduceCtorEq, Bool.true_eq_false, Bool.false_eq_true, beq_iff_eq, bne_iff_ne, beq_eq_false_iff_ne, false_or, or_false, true_and, and_true, eq, len_str]; done) | (simp (disch := omega) only [decide_eq_true_eq, decide_eq_false_iff_not, Bool.not_eq_true', Bool.not_eq_false', Bool.and_eq_true, Bool.and_eq_false_iff, Int.not_lt, Int.not_le, ne_eq, not_false_eq_true, not_true_eq_false, reduceCtorEq, Bool.true_eq_false, Bool.false_eq_true, beq_iff_eq, bne_iff_ne, beq_eq_false_iff_ne, false_or, or_false, true_and, and_true, eq, len_str] at hx; first | (exfalso; omega) | skip) | skip)
      | trivial
      | exact fit_ofL _ _
      | (simp (disch := omega) only [notAgg_v, notAgg_sl, plain_v, fits, fitsOne, fitsCells, xsOf, cell_zero, cell_succ, List.range, List.range.loop, List.map, cond_true, cond_false, D.v.injEq, exists_eq', exists_eq, and_self, and_true, true_and, D.agg.injEq, List.length, exists_eq_left', D.sl.injEq, reduceCtorEq, false_or, true_or, or_true, or_false, cell_zero, cell_succ, cell_v, cells_v, cells_agg, List.length_cons, List.length_nil, eq, len_str]; done))
    all_goals first
      | (exfalso; omega)
      | omega
      | rfl
      | exact ⟨_, rfl⟩
      | exact ⟨_, rfl, rfl⟩
      | exact .inr ⟨_, rfl⟩
      | exact notAgg_v _
      | exact hX.notAgg
      | exact hY.notAgg
      | exact plain_v _
      | exact fit_ofL _ _
      | exact plain_ofL (prs_plain _)
      | (exfalso; exact h00 ⟨by omega, by omega⟩)
      | (exfalso; apply h00; constructor <;> (first | assumption | omega); done)
      | (simp; done)
      | fail
  · have hne := h00
    repeat' (first
      | (refine ex_some (by simp (disch := omega) only [bin_shr, bin_shl, bin_and, bin_or, bin_xor, len_str, toStr_ofL, bin_add, bin_sub, bin_mul, bin_quo, bin_rem, bin_lss, bin_leq, bin_gtr, bin_geq, bin_eql, bin_neq, eqs_cn, eqs_ci, eqs_cb, eqs_cs, Option.map_some, lenT_ofL, lst_ofL, lstSz_ofL, chunk_one, lst_nil, lst_sl, lstSz_sl, lstSz_nil, Bool.and_true, Bool.true_and, Bool.and_false, Bool.false_and, beq_self_eq_true, beq_bb, bne_bb, un_not, un_neg, conv_int, min2_int, max2_int, w64, w32, wu8, wu16, wu32, wu64, tdiv_nn, tmod_nn, cell_zero, cell_succ, cell_v, cells_v, cells_agg, Bool.not_true, Bool.not_false, Int.reduceLT, Int.reduceLE, Int.reduceEq, Int.reduceNeg, Int.reduceAdd, Int.reduceSub, Int.reduceMul, intOf_v, decide_true, decide_false, eq, len_str]; rfl) ?_)
      | (refine ex_bool ?_)
      | (refine ⟨_, AW, ?_⟩)
      | (refine ⟨_, OW, ?_⟩)
      | (refine ⟨_, OY, ?_⟩)
      | (refine ⟨_, _, PU, ?_⟩)
      | (refine ⟨_, _, PT, ?_⟩)
      | (refine ⟨_, CK, ?_⟩)
      | (refine ⟨_, CT, ?_⟩)
      | (refine ⟨_, SC, ?_⟩)
      | (refine ⟨_, SD, ?_⟩)
      | (refine ⟨_, SA, ?_⟩)
      | (refine ⟨_, SB, ?_⟩)
      | (refine And.intro ?_ ?_)
      | (intro hx; have hprop := (show ∀ (p : Prop), p → True from fun _ _ => True.intro) _ hx; clear hprop; first | (cases hx; done) | (exfalso; revert hx; simp (disch := omega) only [decide_eq_true_eq, decide_eq_false_iff_not, Bool.not_eq_true', Bool.not_eq_false', Bool.and_eq_true, Bool.and_eq_false_iff, Int.not_lt, Int.not_le, ne_eq, not_false_eq_true, not_true_eq_false, reduceCtorEq, Bool.true_eq_false, Bool.false_eq_true, beq_iff_eq, bne_iff_ne, beq_eq_false_iff_ne, false_or, or_false, true_and, and_true, eq, len_str]; done) | (simp (disch := omega) only [decide_eq_true_eq, decide_eq_false_iff_not, Bool.not_eq_true', Bool.not_eq_false', Bool.and_eq_true, Bool.and_eq_false_iff, Int.not_lt, Int.not_le, ne_eq, not_false_eq_true, not_true_eq_false, reduceCtorEq, Bool.true_eq_false, Bool.false_eq_true, beq_iff_eq, bne_iff_ne, beq_eq_false_iff_ne, false_or, or_false, true_and, and_true, eq, len_str] at hx; first | (exfalso; omega) | skip) | skip)
      | trivial
      | exact fit_ofL _ _
      | (simp (disch := omega) only [notAgg_v, notAgg_sl, plain_v, fits, fitsOne, fitsCells, xsOf, cell_zero, cell_succ, List.range, List.range.loop, List.map, cond_true, cond_false, D.v.injEq, exists_eq', exists_eq, and_self, and_true, true_and, D.agg.injEq, List.length, exists_eq_left', D.sl.injEq, reduceCtorEq, false_or, true_or, or_true, or_false, cell_zero, cell_succ, cell_v, cells_v, cells_agg, List.length_cons, List.length_nil, eq, len_str]; done))
    all_goals first
      | (exfalso; omega)
      | omega
      | rfl
      | exact ⟨_, rfl⟩
      | exact ⟨_, rfl, rfl⟩
      | exact .inr ⟨_, rfl⟩
      | exact notAgg_v _
      | exact hX.notAgg
      | exact hY.notAgg
      | exact plain_v _
      | exact fit_ofL _ _
      | exact plain_ofL (prs_plain _)
      | (exfalso; exact h00 ⟨by omega, by omega⟩)
      | (exfalso; apply h00; constructor <;> (first | assumption | omega); done)
      | (simp; done)
      | fail

set_option maxHeartbeats 16000000 in
theorem lunlikeM (fl pa ep sq ak wi : Int) (x : D) (zs : List (Int × Int)) (s : List Int) (gl qa fp tq bk xi : Int) (y : D) (zt : List (Int × Int)) (t : List Int) (hX : IsL 2 (prs zs) x) (hs : Bytes s) (f0 : 0 ≤ fl) (f1 : fl < 256) (q0 : 0 ≤ sq) (q1 : sq < 4294967296) (a0 : 0 ≤ ak) (a1 : ak < 4294967296) (hz : ∀ z ∈ zs, (0 ≤ z.1 ∧ z.1 < 4294967296) ∧ 0 ≤ z.2 ∧ z.2 < 4294967296) (hY : IsL 2 (prs zt) y) (ht : Bytes t) (k0 : 0 ≤ gl) (k1 : gl < 256) (r0 : 0 ≤ tq) (r1 : tq < 4294967296) (b0 : 0 ≤ bk) (b1 : bk < 4294967296) (hz2 : ∀ z ∈ zt, (0 ≤ z.1 ∧ z.1 < 4294967296) ∧ 0 ≤ z.2 ∧ z.2 < 4294967296) (hS : ¬ (zs.length ≤ 8 ∧ zt.length ≤ 8 ∧ s.length ≤ 100 ∧ t.length ≤ 100)) : PureD Try.prog 6 [.agg [.v (.int .u8 fl), .v (.int .i64 pa), .v (.int .i64 ep), .v (.int .u32 sq), .v (.int .u32 ak), .v (.int .i64 wi), x, str s], .agg [.v (.int .u8 gl), .v (.int .i64 qa), .v (.int .i64 fp), .v (.int .u32 tq), .v (.int .u32 bk), .v (.int .i64 xi), y, str t]] [.v (.bool true)] := by
  refine pure_cond (Lp := (fun _ => none)) (by kernel_rfl) Try.func6 (by kernel_rfl) (by kernel_rfl) ?_
  rw [vc_lunlikeS fl pa ep sq ak wi x zs s gl qa fp tq bk xi y zt t]
  simp only [cell_zero, cell_succ, hX.lenT, hY.lenT, prs_len, Option.some.injEq, exists_eq_left']
  have AW := awake
  repeat' (first
    | (refine ex_some (by simp (disch := omega) only [bin_shr, bin_shl, bin_and, bin_or, bin_xor, len_str, toStr_ofL, bin_add, bin_sub, bin_mul, bin_quo, bin_rem, bin_lss, bin_leq, bin_gtr, bin_geq, bin_eql, bin_neq, eqs_cn, eqs_ci, eqs_cb, eqs_cs, Option.map_some, lenT_ofL, lst_ofL, lstSz_ofL, chunk_one, lst_nil, lst_sl, lstSz_sl, lstSz_nil, Bool.and_true, Bool.true_and, Bool.and_false, Bool.false_and, beq_self_eq_true, beq_bb, bne_bb, un_not, un_neg, conv_int, min2_int, max2_int, w64, w32, wu8, wu16, wu32, wu64, tdiv_nn, tmod_nn, cell_zero, cell_succ, cell_v, cells_v, cells_agg, Bool.not_true, Bool.not_false, Int.reduceLT, Int.reduceLE, Int.reduceEq, Int.reduceNeg, Int.reduceAdd, Int.reduceSub, Int.reduceMul, intOf_v, decide_true, decide_false, len_str]; rfl) ?_)
    | (refine ex_bool ?_)
    | (refine ⟨_, AW, ?_⟩)
    | (refine And.intro ?_ ?_)
    | (intro hx; have hprop := (show ∀ (p : Prop), p → True from fun _ _ => True.intro) _ hx; clear hprop; first | (cases hx; done) | (exfalso; revert hx; simp (disch := omega) only [decide_eq_true_eq, decide_eq_false_iff_not, Bool.not_eq_true', Bool.not_eq_false', Bool.and_eq_true, Bool.and_eq_false_iff, Int.not_lt, Int.not_le, ne_eq, not_false_eq_true, not_true_eq_false, reduceCtorEq, Bool.true_eq_false, Bool.false_eq_true, beq_iff_eq, bne_iff_ne, beq_eq_false_iff_ne, false_or, or_false, true_and, and_true, len_str]; done) | (simp (disch := omega) only [decide_eq_true_eq, decide_eq_false_iff_not, Bool.not_eq_true', Bool.not_eq_false', Bool.and_eq_true, Bool.and_eq_false_iff, Int.not_lt, Int.not_le, ne_eq, not_false_eq_true, not_true_eq_false, reduceCtorEq, Bool.true_eq_false, Bool.false_eq_true, beq_iff_eq, bne_iff_ne, beq_eq_false_iff_ne, false_or, or_false, true_and, and_true, len_str] at hx; first | (exfalso; omega) | skip) | skip)
    | trivial
    | exact fit_ofL _ _
    | (simp (disch := omega) only [notAgg_v, notAgg_sl, plain_v, fits, fitsOne, fitsCells, xsOf, cell_zero, cell_succ, List.range, List.range.loop, List.map, cond_true, cond_false, D.v.injEq, exists_eq', exists_eq, and_self, and_true, true_and, D.agg.injEq, List.length, exists_eq_left', D.sl.injEq, reduceCtorEq, false_or, true_or, or_true, or_false, cell_zero, cell_succ, cell_v, cells_v, cells_agg, List.length_cons, List.length_nil, len_str]; done))
  all_goals first
    | (exfalso; omega)
    | omega
    | rfl
    | exact ⟨_, rfl⟩
    | exact ⟨_, rfl, rfl⟩
    | exact .inr ⟨_, rfl⟩
    | exact notAgg_v _
    | exact hX.notAgg
    | exact hY.notAgg
    | exact plain_v _
    | exact fit_ofL _ _
    | exact plain_ofL (prs_plain _)
    | (simp; done)
    | fail


theorem law_SegmentUnlike (xs : List D) (h : All2 TypedA [(true, [.int .u8, .int .i64, .int .i64, .int .u32, .int .u32, .int .i64, .sl true [.int .u32, .int .u32], .str]), (true, [.int .u8, .int .i64, .int .i64, .int .u32, .int .u32, .int .i64, .sl true [.int .u32, .int .u32], .str])] xs) : PureD Try.prog 6 xs [.v (.bool true)] := by
  obtain ⟨x, xs, rfl, hx, h⟩ := h.cons_
  obtain ⟨y, xs, rfl, hy, h⟩ := h.cons_
  obtain rfl := h.nil_
  obtain ⟨ds, rfl, k⟩ := hx.agg
  obtain ⟨es, rfl, m⟩ := hy.agg
  obtain ⟨fl, pa, ep, sq, ak, wi, x, zs, s, e1, hX, hs, ⟨f0, f1⟩, ⟨q0, q1⟩, ⟨a0, a1⟩, hz⟩ := sg_cells k
  obtain ⟨gl, qa, fp, tq, bk, xi, y, zt, t, e2, hY, ht, ⟨k0, k1⟩, ⟨r0, r1⟩, ⟨b0, b1⟩, hz2⟩ := sg_cells m
  rw [e1, e2]
  by_cases hS : zs.length ≤ 8 ∧ zt.length ≤ 8 ∧ s.length ≤ 100 ∧ t.length ≤ 100
  · exact lunlikeS fl pa ep sq ak wi x zs s gl qa fp tq bk xi y zt t hX hs f0 f1 q0 q1 a0 a1 hz hY ht k0 k1 r0 r1 b0 b1 hz2 hS
  · exact lunlikeM fl pa ep sq ak wi x zs s gl qa fp tq bk xi y zt t hX hs f0 f1 q0 q1 a0 a1 hz hY ht k0 k1 r0 r1 b0 b1 hz2 hS

end Go.Proofs.Ytioodaefgpkkeaa