/-
  Layer 7: bytes of a segment, by the program.
-/
import Derived.Test.YtioodaefgpkkeaaT1
import Derived.Test.YtioodaefgpkkeaaT2
import Derived.Test.YtioodaefgpkkeaaT3
import Derived.Test.YtioodaefgpkkeaaT4
import Derived.Test.YtioodaefgpkkeaaT5
import Derived.Test.YtioodaefgpkkeaaT6
namespace Go.Proofs.Ytioodaefgpkkeaa
open Go.RowKit
set_option linter.unusedSimpArgs false
set_option linter.unusedVariables false


def hd1 (fl : Int) : List Int := [] ++ be fl 1
def hd2 (fl pa : Int) : List Int := hd1 fl ++ be pa 1
def hd3 (fl pa ep : Int) : List Int := hd2 fl pa ++ be ep 2
def hd4 (fl pa ep sq : Int) : List Int := hd3 fl pa ep ++ be sq 4
def hd5 (fl pa ep sq ak : Int) : List Int := hd4 fl pa ep sq ++ be ak 4
def hd6 (fl pa ep sq ak wi : Int) : List Int := hd5 fl pa ep sq ak ++ be wi 2
def hd7 (fl pa ep sq ak wi : Int) (n : Nat) : List Int := hd6 fl pa ep sq ak wi ++ be (n : Nat) 1
def blF (h : List Int) (zs : List (Int × Int)) : List Int := zs.foldl (fun b z => b ++ be z.1 4 ++ be z.2 4) h
def putL (fl pa ep sq ak wi : Int) (zs : List (Int × Int)) (s : List Int) : List Int := blF (hd7 fl pa ep sq ak wi zs.length) zs ++ be (s.length : Nat) 1 ++ s
def putF (fl pa ep sq ak wi : Int) (zs : List (Int × Int)) (s : List Int) : List Int × Int :=
  if sgChk fl pa ep ak wi zs.length s.length = 0 then (sealF (putL fl pa ep sq ak wi zs s), 0) else ([], sgChk fl pa ep ak wi zs.length s.length)
theorem bl_last (h : List Int) {zs : List (Int × Int)} {k : Nat} (hk : k < zs.length) : blF h (zs.take (k + 1)) = blF h (zs.take k) ++ be (zs.getD k (0, 0)).1 4 ++ be (zs.getD k (0, 0)).2 4 := by
  unfold blF
  rw [List.take_succ_eq_append_getElem hk, List.foldl_append, List.getD_eq_getElem?_getD, List.getElem?_eq_getElem hk]; rfl
theorem bl_len (h : List Int) : ∀ zs : List (Int × Int), (blF h zs).length = h.length + 8 * zs.length := by
  intro zs
  induction zs generalizing h with
  | nil => simp [blF]
  | cons z zs ih =>
    have := ih (h ++ be z.1 4 ++ be z.2 4)
    simp only [blF, List.foldl_cons] at this ⊢
    rw [this]; simp [be_len]; omega
theorem bl_bytes : ∀ {zs : List (Int × Int)} {h : List Int}, Bytes h → Bytes (blF h zs)
  | [], h, hh => hh
  | z :: zs, h, hh => bl_bytes (zs := zs) (h := h ++ be z.1 4 ++ be z.2 4) ((hh.append (be_bytes _ _)).append (be_bytes _ _))
theorem hd7_len (fl pa ep sq ak wi : Int) (n : Nat) : (hd7 fl pa ep sq ak wi n).length = 15 := by simp [hd7, hd6, hd5, hd4, hd3, hd2, hd1, be_len]
theorem hd7_bytes (fl pa ep sq ak wi : Int) (n : Nat) : Bytes (hd7 fl pa ep sq ak wi n) := by
  unfold hd7 hd6 hd5 hd4 hd3 hd2 hd1
  exact ((((((Bytes.nil.append (be_bytes _ _)).append (be_bytes _ _)).append (be_bytes _ _)).append (be_bytes _ _)).append (be_bytes _ _)).append (be_bytes _ _)).append (be_bytes _ _)
theorem put_bytes {fl pa ep sq ak wi : Int} {zs : List (Int × Int)} {s : List Int} (h : Bytes s) : Bytes (putL fl pa ep sq ak wi zs s) := ((bl_bytes (hd7_bytes _ _ _ _ _ _ _)).append (be_bytes _ _)).append h
theorem put_len (fl pa ep sq ak wi : Int) (zs : List (Int × Int)) (s : List Int) : (putL fl pa ep sq ak wi zs s).length = 16 + 8 * zs.length + s.length := by
  simp only [putL, List.length_append, bl_len, hd7_len, be_len]; omega
theorem fi1 {n : Int} (h0 : 0 ≤ n) (h : n < 256) : fiF n (1 : Nat) = true := by rw [fi_div h0 (by omega) (by omega), decide_eq_true_eq]; exact Int.ediv_eq_zero_of_lt h0 h
theorem fi2 {n : Int} (h0 : 0 ≤ n) (h : n < 65536) : fiF n (2 : Nat) = true := by rw [fi_div h0 (by omega) (by omega), decide_eq_true_eq]; exact Int.ediv_eq_zero_of_lt h0 h
theorem fi4 {n : Int} (h0 : 0 ≤ n) (h : n < 4294967296) : fiF n (4 : Nat) = true := by rw [fi_div h0 (by omega) (by omega), decide_eq_true_eq]; exact Int.ediv_eq_zero_of_lt h0 h
theorem isB (l : List Int) : IsL 1 (ints .u8 l) (.sl 1 (ints .u8 l)) := .inl rfl
theorem sg_ok {fl pa ep ak wi : Int} {ns nd : Nat} (h : sgChk fl pa ep ak wi ns nd = 0) : fl ≤ 31 ∧ (0 ≤ pa ∧ pa < 4) ∧ (0 ≤ ep ∧ ep ≤ 65535) ∧ (0 ≤ wi ∧ wi ≤ 65535) ∧ ns ≤ 3 ∧ nd ≤ 48 := by
  unfold sgChk at h
  (repeat' split at h) <;> first | omega | (exfalso; omega)

theorem sg_bd (fl pa ep ak wi : Int) (ns nd : Nat) : 0 ≤ sgChk fl pa ep ak wi ns nd ∧ sgChk fl pa ep ak wi ns nd ≤ 12 := by unfold sgChk; (repeat' split) <;> omega

theorem vc_putS (fl pa ep sq ak wi : Int) (x : D) (zs : List (Int × Int)) (s : List Int) : Cond Try.prog (fun k => if k = 12 then some ⟨[47], [5], [1, 45, 46], []⟩ else none) Try.f9 [.agg [.v (.int .u8 fl), .v (.int .i64 pa), .v (.int .i64 ep), .v (.int .u32 sq), .v (.int .u32 ak), .v (.int .i64 wi), x, str s]] [str (putF fl pa ep sq ak wi zs s).1, .v (.int .i64 (putF fl pa ep sq ak wi zs s).2)] = (((∃ (cs : List D), D.agg [D.v (Value.int IntKind.u8 fl), D.v (Value.int IntKind.i64 pa), D.v (Value.int IntKind.i64 ep), D.v (Value.int IntKind.u32 sq), D.v (Value.int IntKind.u32 ak), D.v (Value.int IntKind.i64 wi), x, str s] = D.agg cs ∧ cs.length = 8) ∧ True) ∧ ∃ (r : D), PureD Try.prog 11 [D.agg [D.v (Value.int IntKind.u8 fl), D.v (Value.int IntKind.i64 pa), D.v (Value.int IntKind.i64 ep), D.v (Value.int IntKind.u32 sq), D.v (Value.int IntKind.u32 ak), D.v (Value.int IntKind.i64 wi), x, str s]] [r] ∧ fits [(false, [none])] [r] ∧ ∃ (r_1 : D), D.bin BinOp.neq r (D.v (Value.int IntKind.i64 0)) = some r_1 ∧ ∃ (b : Bool), r_1 = D.v (Value.bool b) ∧ (b = true → (True ∧ (∃ (y : Value), r = D.v y) ∧ True) ∧ [D.v (Value.string { data := { toList := [] } }), r] = [str (putF fl pa ep sq ak wi zs s).1, D.v (Value.int IntKind.i64 (putF fl pa ep sq ak wi zs s).snd)]) ∧ (b = false → ∃ (r : D), D.conv IntKind.i64 (D.v (Value.int IntKind.u8 fl)) = some r ∧ ∃ (r_2 : D), PureD Try.prog 23 [D.v (Value.slice none 0 0), r, D.v (Value.int IntKind.i64 1)] [r_2] ∧ fits [(false, [some 1])] [r_2] ∧ ∃ (r : D), PureD Try.prog 23 [r_2, D.v (Value.int IntKind.i64 pa), D.v (Value.int IntKind.i64 1)] [r] ∧ fits [(false, [some 1])] [r] ∧ ∃ (r_3 : D), PureD Try.prog 23 [r, D.v (Value.int IntKind.i64 ep), D.v (Value.int IntKind.i64 2)] [r_3] ∧ fits [(false, [some 1])] [r_3] ∧ ∃ (r : D), D.conv IntKind.i64 (D.v (Value.int IntKind.u32 sq)) = some r ∧ ∃ (r_4 : D), PureD Try.prog 23 [r_3, r, D.v (Value.int IntKind.i64 4)] [r_4] ∧ fits [(false, [some 1])] [r_4] ∧ ∃ (r : D), D.conv IntKind.i64 (D.v (Value.int IntKind.u32 ak)) = some r ∧ ∃ (r_5 : D), PureD Try.prog 23 [r_4, r, D.v (Value.int IntKind.i64 4)] [r_5] ∧ fits [(false, [some 1])] [r_5] ∧ ∃ (r : D), PureD Try.prog 23 [r_5, D.v (Value.int IntKind.i64 wi), D.v (Value.int IntKind.i64 2)] [r] ∧ fits [(false, [some 1])] [r] ∧ ∃ (r_6 : D), D.lenT (TypeDesc.slice 54) x = some r_6 ∧ ∃ (r_7 : D), PureD Try.prog 23 [r, r_6, D.v (Value.int IntKind.i64 1)] [r_7] ∧ fits [(false, [some 1])] [r_7] ∧ ∃ (r : D), D.lenT (TypeDesc.slice 54) x = some r ∧ ∃ (I : List D → Prop), ∃ (μ : List D → Nat), ((D.v (Value.int IntKind.i64 0) = D.v (Value.int IntKind.i64 0) ∧ true = true ∧ (true = true ∧ true = true) ∧ x = x ∧ r = r ∧ True) ∧ ((true = true ∧ r_7 = r_7) ∧ (D.v (Value.int IntKind.u8 fl) = D.v (Value.int IntKind.u8 fl) ∧ D.v (Value.int IntKind.i64 pa) = D.v (Value.int IntKind.i64 pa) ∧ D.v (Value.int IntKind.i64 ep) = D.v (Value.int IntKind.i64 ep) ∧ D.v (Value.int IntKind.u32 sq) = D.v (Value.int IntKind.u32 sq) ∧ D.v (Value.int IntKind.u32 ak) = D.v (Value.int IntKind.u32 ak) ∧ D.v (Value.int IntKind.i64 wi) = D.v (Value.int IntKind.i64 wi) ∧ x = x ∧ str s = str s ∧ True) ∧ True) ∧ I [D.v (Value.int IntKind.i64 0), r_7]) ∧ ∀ (r_8 r_9 : D), I [r_8, r_9] → ∃ (r_10 : D), D.bin BinOp.lss r_8 r = some r_10 ∧ ∃ (b : Bool), r_10 = D.v (Value.bool b) ∧ (b = true → D.inb 2 x r_8 ∧ 0 + 2 ≤ (x.at_ r_8).cells.length ∧ ∃ (r_11 : D), D.conv IntKind.i64 ((x.at_ r_8).cell (0 + 0)) = some r_11 ∧ ∃ (r_12 : D), PureD Try.prog 23 [r_9, r_11, D.v (Value.int IntKind.i64 4)] [r_12] ∧ fits [(false, [some 1])] [r_12] ∧ ∃ (r_13 : D), D.conv IntKind.i64 ((x.at_ r_8).cell (0 + 1)) = some r_13 ∧ ∃ (r_14 : D), PureD Try.prog 23 [r_12, r_13, D.v (Value.int IntKind.i64 4)] [r_14] ∧ fits [(false, [some 1])] [r_14] ∧ ∃ (r_15 : D), D.bin BinOp.add r_8 (D.v (Value.int IntKind.i64 1)) = some r_15 ∧ (r_15 = r_15 ∧ true = true ∧ (true = true ∧ true = true) ∧ x = x ∧ r = r ∧ True) ∧ ((true = true ∧ r_14 = r_14) ∧ (D.v (Value.int IntKind.u8 fl) = D.v (Value.int IntKind.u8 fl) ∧ D.v (Value.int IntKind.i64 pa) = D.v (Value.int IntKind.i64 pa) ∧ D.v (Value.int IntKind.i64 ep) = D.v (Value.int IntKind.i64 ep) ∧ D.v (Value.int IntKind.u32 sq) = D.v (Value.int IntKind.u32 sq) ∧ D.v (Value.int IntKind.u32 ak) = D.v (Value.int IntKind.u32 ak) ∧ D.v (Value.int IntKind.i64 wi) = D.v (Value.int IntKind.i64 wi) ∧ x = x ∧ str s = str s ∧ True) ∧ True) ∧ I [r_15, r_14] ∧ μ [r_15, r_14] < μ [r_8, r_9]) ∧ (b = false → ∃ (r : D), D.lenT TypeDesc.string (str s) = some r ∧ ∃ (r_11 : D), PureD Try.prog 23 [r_9, r, D.v (Value.int IntKind.i64 1)] [r_11] ∧ fits [(false, [some 1])] [r_11] ∧ ∃ (r : D), r_11.toStr = some r ∧ ∃ (r_12 : D), D.bin BinOp.add r (str s) = some r_12 ∧ ∃ (r : D), PureD Try.prog 24 [r_12] [r] ∧ fits [(false, [none])] [r] ∧ ((∃ (y : Value), r = D.v y) ∧ True ∧ True) ∧ [r, D.v (Value.int IntKind.i64 0)] = [str (putF fl pa ep sq ak wi zs s).1, D.v (Value.int IntKind.i64 (putF fl pa ep sq ak wi zs s).snd)]))) := by kernel_rfl
set_option maxHeartbeats 8000000 in
theorem putS (fl pa ep sq ak wi : Int) (x : D) (zs : List (Int × Int)) (s : List Int) (hX : IsL 2 (prs zs) x) (hl : zs.length ≤ 100000) (hs : Bytes s) (hsl : s.length ≤ 100000) (f0 : 0 ≤ fl) (f1 : fl < 256) (q0 : 0 ≤ sq) (q1 : sq < 4294967296) (a0 : 0 ≤ ak) (a1 : ak < 4294967296) (hz : ∀ z ∈ zs, (0 ≤ z.1 ∧ z.1 < 4294967296) ∧ 0 ≤ z.2 ∧ z.2 < 4294967296) (hc : sgChk fl pa ep ak wi zs.length s.length = 0) : PureD Try.prog 9 [.agg [.v (.int .u8 fl), .v (.int .i64 pa), .v (.int .i64 ep), .v (.int .u32 sq), .v (.int .u32 ak), .v (.int .i64 wi), x, str s]] [str (putF fl pa ep sq ak wi zs s).1, .v (.int .i64 (putF fl pa ep sq ak wi zs s).2)] := by
  refine pure_cond (Lp := (fun k => if k = 12 then some ⟨[47], [5], [1, 45, 46], []⟩ else none)) (by kernel_rfl) Try.func9 (by kernel_rfl) (by kernel_rfl) ?_
  rw [vc_putS fl pa ep sq ak wi x zs s]
  have CK := check fl pa ep sq ak wi x zs s hX hl hs hsl f0 f1
  have hk := sg_bd fl pa ep ak wi zs.length s.length
  obtain ⟨c1, c2, c3, c4, c5, c6⟩ := sg_ok hc
  rw [hc] at CK
  rw [show putF fl pa ep sq ak wi zs s = (sealF (putL fl pa ep sq ak wi zs s), 0) from if_pos hc]
  have e1 : True := trivial
  have L1 := lay (.v nilS) ([]) fl 1 (.inr ⟨rfl, rfl⟩) (by simp) (by omega) (by omega) (fi1 (by omega) (by omega))
  have L2 := lay (.sl 1 (ints .u8 (hd1 fl))) (hd1 fl) pa 1 (isB _) (by simp [hd7, hd6, hd5, hd4, hd3, hd2, hd1, be_len]) (by omega) (by omega) (fi1 (by omega) (by omega))
  have L3 := lay (.sl 1 (ints .u8 (hd2 fl pa))) (hd2 fl pa) ep 2 (isB _) (by simp [hd7, hd6, hd5, hd4, hd3, hd2, hd1, be_len]) (by omega) (by omega) (fi2 (by omega) (by omega))
  have L4 := lay (.sl 1 (ints .u8 (hd3 fl pa ep))) (hd3 fl pa ep) sq 4 (isB _) (by simp [hd7, hd6, hd5, hd4, hd3, hd2, hd1, be_len]) (by omega) (by omega) (fi4 (by omega) (by omega))
  have L5 := lay (.sl 1 (ints .u8 (hd4 fl pa ep sq))) (hd4 fl pa ep sq) ak 4 (isB _) (by simp [hd7, hd6, hd5, hd4, hd3, hd2, hd1, be_len]) (by omega) (by omega) (fi4 (by omega) (by omega))
  have L6 := lay (.sl 1 (ints .u8 (hd5 fl pa ep sq ak))) (hd5 fl pa ep sq ak) wi 2 (isB _) (by simp [hd7, hd6, hd5, hd4, hd3, hd2, hd1, be_len]) (by omega) (by omega) (fi2 (by omega) (by omega))
  have L7 := lay (.sl 1 (ints .u8 (hd6 fl pa ep sq ak wi))) (hd6 fl pa ep sq ak wi) ((zs.length : Nat) : Int) 1 (isB _) (by simp [hd7, hd6, hd5, hd4, hd3, hd2, hd1, be_len]) (by omega) (by omega) (fi1 (by omega) (by omega))
  simp only [hX.lenT, prs_len, Option.some.injEq, exists_eq_left']
  repeat' (first
    | (refine ex_some (by simp (disch := omega) only [bin_shr, bin_shl, bin_and, bin_or, bin_xor, len_str, toStr_ofL, bin_add, bin_sub, bin_mul, bin_quo, bin_rem, bin_lss, bin_leq, bin_gtr, bin_geq, bin_eql, bin_neq, eqs_cn, eqs_ci, eqs_cb, eqs_cs, Option.map_some, lenT_ofL, lst_ofL, lstSz_ofL, chunk_one, lst_nil, lst_sl, lstSz_sl, lstSz_nil, Bool.and_true, Bool.true_and, Bool.and_false, Bool.false_and, beq_self_eq_true, beq_bb, bne_bb, un_not, un_neg, conv_int, min2_int, max2_int, w64, w32, wu8, wu16, wu32, wu64, tdiv_nn, tmod_nn, cell_zero, cell_succ, cell_v, cells_v, cells_agg, Bool.not_true, Bool.not_false, Int.reduceLT, Int.reduceLE, Int.reduceEq, Int.reduceNeg, Int.reduceAdd, Int.reduceSub, Int.reduceMul, intOf_v, decide_true, decide_false, e1, hX.lenT, prs_len, len_str]; rfl) ?_)
    | (refine ex_bool ?_)
    | (refine ⟨_, CK, ?_⟩)
    | (refine ⟨_, L1, ?_⟩)
    | (refine ⟨_, L2, ?_⟩)
    | (refine ⟨_, L3, ?_⟩)
    | (refine ⟨_, L4, ?_⟩)
    | (refine ⟨_, L5, ?_⟩)
    | (refine ⟨_, L6, ?_⟩)
    | (refine ⟨_, L7, ?_⟩)
    | (refine ⟨_, L8, ?_⟩)
    | (refine ⟨_, M1, ?_⟩)
    | (refine ⟨_, M2, ?_⟩)
    | (refine ⟨_, SL, ?_⟩)
    | (refine ⟨(fun r => ∃ k : Nat, k ≤ zs.length ∧ r = [.v (.int .i64 (k : Nat)), .sl 1 (ints .u8 (blF (hd7 fl pa ep sq ak wi zs.length) (zs.take k)))]), leftN zs.length, ?_⟩)
    | (refine fun (r2 r3 : D) (hI : (fun r => ∃ k : Nat, k ≤ zs.length ∧ r = [.v (.int .i64 (k : Nat)), .sl 1 (ints .u8 (blF (hd7 fl pa ep sq ak wi zs.length) (zs.take k)))]) [r2, r3]) => ?_; obtain ⟨k, hk, hl0⟩ := hI; simp only [List.cons.injEq, and_true] at hl0; obtain ⟨rfl, rfl⟩ := hl0; by_cases hlt : k < zs.length <;> first | (have hk1 : k < zs.length := (by omega); have e1 := prs_at hX hk1; have i1 := prs_inb hX hk1; have hbl := bl_last (hd7 fl pa ep sq ak wi zs.length) hk1; have hzk := hz (zs.getD k (0, 0)) (by simp [List.getD, hk1]); generalize zs.getD k (0, 0) = p at e1 hbl hzk; obtain ⟨p1, p2⟩ := p; simp only at e1 hbl hzk; have hlen := bl_len (hd7 fl pa ep sq ak wi zs.length) (zs.take k); rw [hd7_len, List.length_take] at hlen; generalize blF (hd7 fl pa ep sq ak wi zs.length) (zs.take k) = bb at hbl hlen; have M1 := lay (.sl 1 (ints .u8 bb)) bb p1 4 (isB _) (by omega) (by omega) (by omega) (fi4 (by omega) (by omega)); have M2 := lay (.sl 1 (ints .u8 (bb ++ be p1 4))) (bb ++ be p1 4) p2 4 (isB _) (by rw [List.length_append, be_len]; omega) (by omega) (by omega) (fi4 (by omega) (by omega)); simp only [e1, Nat.zero_add, cell_zero, cell_succ, cells_agg, List.length_cons, List.length_nil]; have inl : True := trivial) | (have hkk : k = zs.length := (by omega); subst hkk; rw [List.take_length]; have hlen := bl_len (hd7 fl pa ep sq ak wi zs.length) zs; rw [hd7_len] at hlen; have hbb := bl_bytes (zs := zs) (hd7_bytes fl pa ep sq ak wi zs.length); have hpl := put_len fl pa ep sq ak wi zs s; have hpb : Bytes (putL fl pa ep sq ak wi zs s) := put_bytes hs; have SL := sealP (putL fl pa ep sq ak wi zs s) hpb (by omega); have ts := toStr_is (isB (blF (hd7 fl pa ep sq ak wi zs.length) zs ++ be ((s.length : Nat) : Int) 1)); have sa := bin_sadd (a := blF (hd7 fl pa ep sq ak wi zs.length) zs ++ be ((s.length : Nat) : Int) 1) (b := s) (by rw [List.length_append, be_len]; omega); have L8 := lay (.sl 1 (ints .u8 (blF (hd7 fl pa ep sq ak wi zs.length) zs))) (blF (hd7 fl pa ep sq ak wi zs.length) zs) ((s.length : Nat) : Int) 1 (isB _) (by omega) (by omega) (by omega) (fi1 (by omega) (by omega)); have e1 : True := trivial; have inl2 : True := trivial))
    | (exact i1)
    | (refine ex_some ts ?_)
    | (refine ex_some sa ?_)
    | (refine ⟨(0 : Nat), Nat.zero_le _, rfl⟩)
    | (have := inl; refine ⟨(k + 1 : Nat), by omega, ?_⟩)
    | (refine And.intro ?_ ?_)
    | (intro hx; have hprop := (show ∀ (p : Prop), p → True from fun _ _ => True.intro) _ hx; clear hprop; first | (cases hx; done) | (exfalso; revert hx; simp (disch := omega) only [decide_eq_true_eq, decide_eq_false_iff_not, Bool.not_eq_true', Bool.not_eq_false', Bool.and_eq_true, Bool.and_eq_false_iff, Int.not_lt, Int.not_le, ne_eq, not_false_eq_true, not_true_eq_false, reduceCtorEq, Bool.true_eq_false, Bool.false_eq_true, beq_iff_eq, bne_iff_ne, beq_eq_false_iff_ne, false_or, or_false, true_and, and_true, e1, hX.lenT, prs_len, len_str]; done) | (simp (disch := omega) only [decide_eq_true_eq, decide_eq_false_iff_not, Bool.not_eq_true', Bool.not_eq_false', Bool.and_eq_true, Bool.and_eq_false_iff, Int.not_lt, Int.not_le, ne_eq, not_false_eq_true, not_true_eq_false, reduceCtorEq, Bool.true_eq_false, Bool.false_eq_true, beq_iff_eq, bne_iff_ne, beq_eq_false_iff_ne, false_or, or_false, true_and, and_true, e1, hX.lenT, prs_len, len_str] at hx; first | (exfalso; omega) | skip) | skip)
    | trivial
    | exact fit_ofL _ _
    | (simp (disch := omega) only [notAgg_v, notAgg_sl, plain_v, fits, fitsOne, fitsCells, xsOf, cell_zero, cell_succ, List.range, List.range.loop, List.map, cond_true, cond_false, D.v.injEq, exists_eq', exists_eq, and_self, and_true, true_and, D.agg.injEq, List.length, exists_eq_left', D.sl.injEq, reduceCtorEq, false_or, true_or, or_true, or_false, cell_zero, cell_succ, cell_v, cells_v, cells_agg, List.length_cons, List.length_nil, e1, hX.lenT, prs_len, len_str]; done))
  all_goals first
    | (exfalso; omega)
    | omega
    | rfl
    | (rw [hbl]; first | done | rfl)
    | exact ⟨_, rfl⟩
    | exact notAgg_v _
    | exact .inr ⟨_, rfl⟩
    | exact plain_sl (ints_plain _ _)
    | (simp only [leftN]; omega)
    | (simp; done)
    | fail

set_option maxHeartbeats 4000000 in
theorem putE (fl pa ep sq ak wi : Int) (x : D) (zs : List (Int × Int)) (s : List Int) (hX : IsL 2 (prs zs) x) (hl : zs.length ≤ 100000) (hs : Bytes s) (hsl : s.length ≤ 100000) (f0 : 0 ≤ fl) (f1 : fl < 256) (hc : sgChk fl pa ep ak wi zs.length s.length ≠ 0) : PureD Try.prog 9 [.agg [.v (.int .u8 fl), .v (.int .i64 pa), .v (.int .i64 ep), .v (.int .u32 sq), .v (.int .u32 ak), .v (.int .i64 wi), x, str s]] [str (putF fl pa ep sq ak wi zs s).1, .v (.int .i64 (putF fl pa ep sq ak wi zs s).2)] := by
  refine pure_cond (Lp := (fun k => if k = 12 then some ⟨[47], [5], [1, 45, 46], []⟩ else none)) (by kernel_rfl) Try.func9 (by kernel_rfl) (by kernel_rfl) ?_
  rw [vc_putS fl pa ep sq ak wi x zs s]
  have CK := check fl pa ep sq ak wi x zs s hX hl hs hsl f0 f1
  have hk := sg_bd fl pa ep ak wi zs.length s.length
  rw [show putF fl pa ep sq ak wi zs s = ([], sgChk fl pa ep ak wi zs.length s.length) from if_neg hc]
  repeat' (first
    | (refine ex_some (by simp (disch := omega) only [bin_shr, bin_shl, bin_and, bin_or, bin_xor, len_str, toStr_ofL, bin_add, bin_sub, bin_mul, bin_quo, bin_rem, bin_lss, bin_leq, bin_gtr, bin_geq, bin_eql, bin_neq, eqs_cn, eqs_ci, eqs_cb, eqs_cs, Option.map_some, lenT_ofL, lst_ofL, lstSz_ofL, chunk_one, lst_nil, lst_sl, lstSz_sl, lstSz_nil, Bool.and_true, Bool.true_and, Bool.and_false, Bool.false_and, beq_self_eq_true, beq_bb, bne_bb, un_not, un_neg, conv_int, min2_int, max2_int, w64, w32, wu8, wu16, wu32, wu64, tdiv_nn, tmod_nn, cell_zero, cell_succ, cell_v, cells_v, cells_agg, Bool.not_true, Bool.not_false, Int.reduceLT, Int.reduceLE, Int.reduceEq, Int.reduceNeg, Int.reduceAdd, Int.reduceSub, Int.reduceMul, intOf_v, decide_true, decide_false]; rfl) ?_)
    | (refine ex_bool ?_)
    | (refine ⟨_, CK, ?_⟩)
    | (refine And.intro ?_ ?_)
    | (intro hx; have hprop := (show ∀ (p : Prop), p → True from fun _ _ => True.intro) _ hx; clear hprop; first | (cases hx; done) | (exfalso; revert hx; simp (disch := omega) only [decide_eq_true_eq, decide_eq_false_iff_not, Bool.not_eq_true', Bool.not_eq_false', Bool.and_eq_true, Bool.and_eq_false_iff, Int.not_lt, Int.not_le, ne_eq, not_false_eq_true, not_true_eq_false, reduceCtorEq, Bool.true_eq_false, Bool.false_eq_true, beq_iff_eq, bne_iff_ne, beq_eq_false_iff_ne, false_or, or_false, true_and, and_true]; done) | (simp (disch := omega) only [decide_eq_true_eq, decide_eq_false_iff_not, Bool.not_eq_true', Bool.not_eq_false', Bool.and_eq_true, Bool.and_eq_false_iff, Int.not_lt, Int.not_le, ne_eq, not_false_eq_true, not_true_eq_false, reduceCtorEq, Bool.true_eq_false, Bool.false_eq_true, beq_iff_eq, bne_iff_ne, beq_eq_false_iff_ne, false_or, or_false, true_and, and_true] at hx; first | (exfalso; omega) | skip) | skip)
    | trivial
    | exact fit_ofL _ _
    | (simp (disch := omega) only [notAgg_v, notAgg_sl, plain_v, fits, fitsOne, fitsCells, xsOf, cell_zero, cell_succ, List.range, List.range.loop, List.map, cond_true, cond_false, D.v.injEq, exists_eq', exists_eq, and_self, and_true, true_and, D.agg.injEq, List.length, exists_eq_left', D.sl.injEq, reduceCtorEq, false_or, true_or, or_true, or_false, cell_zero, cell_succ, cell_v, cells_v, cells_agg, List.length_cons, List.length_nil]; done))
  all_goals first
    | (exfalso; omega)
    | omega
    | rfl
    | exact ⟨_, rfl⟩
    | exact notAgg_v _
    | exact .inr ⟨_, rfl⟩
    | exact plain_sl (ints_plain _ _)
    | (simp only [leftN]; omega)
    | (simp; done)
    | fail

end Go.Proofs.Ytioodaefgpkkeaa