/-
  Layer 7: sums, step by step.
-/
import Derived.Test.YtioodaefgpkkeaaAm19
namespace Go.Proofs.Ytioodaefgpkkeaa
open Go.RowKit
set_option linter.unusedSimpArgs false
set_option linter.unusedVariables false


theorem wu32m (z : Int) : IntKind.u32.wrap z = z % 4294967296 := by
  have e : IntKind.u32.wrap z = if (0 : Int) ≤ z ∧ z ≤ 4294967295 then z else z % 4294967296 := by
    first
      | rfl
      | (simp [IntKind.wrap, IntKind.signed, IntKind.bits]; omega)
  rw [e]; split <;> omega
def xu (a b : Int) : Int := bitsI .xor .u32 a b
theorem xu_def (a b : Int) : bitsI .xor .u32 a b = xu a b := rfl
theorem xu_bd (a b : Int) : 0 ≤ xu a b ∧ xu a b < 4294967296 := by
  have : xu a b = IntKind.u32.wrap ((BitVec.ofInt IntKind.u32.bits a ^^^ BitVec.ofInt IntKind.u32.bits b).toNat : Nat) := rfl
  rw [this, wu32m]; omega
theorem xu_comm (a b : Int) : xu a b = xu b a := by
  have h : ∀ a b : Int, xu a b = IntKind.u32.wrap ((BitVec.ofInt IntKind.u32.bits a ^^^ BitVec.ofInt IntKind.u32.bits b).toNat : Nat) := fun _ _ => rfl
  rw [h, h, BitVec.xor_comm]
theorem and1 {a : Int} (h0 : 0 ≤ a) (h1 : a < 4294967296) : bitsI .and .u32 a 1 = a % 2 := by
  obtain ⟨n, rfl⟩ := Int.eq_ofNat_of_zero_le h0
  have e1 : BitVec.ofInt IntKind.u32.bits (n : Int) = BitVec.ofNat 32 n := rfl
  have e2 : BitVec.ofInt IntKind.u32.bits 1 = BitVec.ofNat 32 1 := rfl
  simp only [bitsI]
  rw [e1, e2]
  have e3 : (BitVec.ofNat 32 n &&& BitVec.ofNat 32 1).toNat = n % 2 := by
    rw [BitVec.toNat_and, BitVec.toNat_ofNat, BitVec.toNat_ofNat, Nat.mod_eq_of_lt (by omega), Nat.mod_eq_of_lt (by omega)]
    exact Nat.and_two_pow_sub_one_eq_mod n 1
  show IntKind.u32.wrap ((BitVec.ofNat 32 n &&& BitVec.ofNat 32 1).toNat : Nat) = _
  rw [e3, wu32m]; omega
def stp (r : Int) : Int := if r % 2 = 1 then xu (r / 2) 3988292384 else r / 2
theorem stp_bd {r : Int} (h0 : 0 ≤ r) (h1 : r < 4294967296) : 0 ≤ stp r ∧ stp r < 4294967296 := by
  unfold stp; split
  · exact xu_bd _ _
  · omega
def stpN : Nat → Int → Int
  | 0, r => r
  | n + 1, r => stpN n (stp r)
theorem stpN_bd : ∀ {n : Nat} {r : Int}, 0 ≤ r → r < 4294967296 → 0 ≤ stpN n r ∧ stpN n r < 4294967296
  | 0, _, h0, h1 => ⟨h0, h1⟩
  | n + 1, r, h0, h1 => stpN_bd (n := n) (r := stp r) (stp_bd h0 h1).1 (stp_bd h0 h1).2
theorem shr1 (z : Int) : z.fdiv (2 ^ min (1 : Int).toNat IntKind.u32.bits) = z / 2 := by
  rw [show (2 : Int) ^ min (1 : Int).toNat IntKind.u32.bits = 2 by rfl, Int.fdiv_eq_ediv_of_nonneg _ (by decide)]
theorem bin_xoru (a b : Int) : D.bin .xor (.v (.int .u32 a)) (.v (.int .u32 b)) = some (.v (.int .u32 (xu a b))) := by simp [D.bin, sbin, ibin, xu]
/-- All bits turned. -/
def nt (r : Int) : Int := xu 4294967295 r
theorem un_xoru (a : Int) : D.un .xor (.v (.int .u32 a)) = some (.v (.int .u32 (nt a))) := by
  have : IntKind.u32.max = 4294967295 := rfl
  simp only [D.un, sun, nt, xu, Option.map_some]
  rfl
def moreF (z : Int) (s : List Int) : Int := s.foldl (fun r b => stpN 8 (xu r b)) z
theorem more_take {s : List Int} {i : Nat} (z : Int) (h : i < s.length) : moreF z (s.take (i + 1)) = stpN 8 (xu (moreF z (s.take i)) (s.getD i 0)) := by
  unfold moreF
  rw [List.take_succ_eq_append_getElem h, List.foldl_append, List.getD_eq_getElem?_getD, List.getElem?_eq_getElem h]; rfl
theorem more_bd : ∀ {z : Int} {s : List Int}, 0 ≤ z → z < 4294967296 → 0 ≤ moreF z s ∧ moreF z s < 4294967296
  | _, [], h0, h1 => ⟨h0, h1⟩
  | z, b :: s, h0, h1 => more_bd (z := stpN 8 (xu z b)) (s := s) (stpN_bd (xu_bd z b).1 (xu_bd z b).2).1 (stpN_bd (xu_bd z b).1 (xu_bd z b).2).2
def sumF (s : List Int) : Int := nt (moreF (nt 0) s)
theorem sum_bd (s : List Int) : 0 ≤ sumF s ∧ sumF s < 4294967296 := xu_bd _ _
def left2 : List D → Nat
  | _ :: .v (.int _ i) :: _ => i.toNat
  | _ => 0
def leftN (n : Nat) : List D → Nat
  | .v (.int _ i) :: _ => n - i.toNat
  | _ => 0

theorem vc_stepped (x : Int) : Cond Try.prog (fun k => if k = 2000 then some ⟨[0, 3], [], [], []⟩ else none) Try.f58 [.v (.int .u32 x)] [.v (.int .u32 (stpN 8 x))] = ((NotAgg (D.v (Value.int IntKind.u32 x)) ∧ True) ∧ ∃ (I : List D → Prop), ∃ (μ : List D → Nat), ((D.v (Value.int IntKind.u32 x) = D.v (Value.int IntKind.u32 x) ∧ D.v (Value.int IntKind.i64 8) = D.v (Value.int IntKind.i64 8) ∧ True) ∧ True ∧ I [D.v (Value.int IntKind.u32 x), D.v (Value.int IntKind.i64 8)]) ∧ ∀ (r r_1 : D), I [r, r_1] → ∃ (r_2 : D), D.bin BinOp.and r (D.v (Value.int IntKind.u32 1)) = some r_2 ∧ ∃ (r_3 : D), D.bin BinOp.shr r (D.v (Value.int IntKind.u64 1)) = some r_3 ∧ ∃ (r_4 : D), D.bin BinOp.eql r_2 (D.v (Value.int IntKind.u32 1)) = some r_4 ∧ ∃ (b : Bool), r_4 = D.v (Value.bool b) ∧ (b = true → ∃ (r_5 : D), D.bin BinOp.xor r_3 (D.v (Value.int IntKind.u32 3988292384)) = some r_5 ∧ ∃ (r_6 : D), D.bin BinOp.sub r_1 (D.v (Value.int IntKind.i64 1)) = some r_6 ∧ ∃ (r_7 : D), D.bin BinOp.gtr r_6 (D.v (Value.int IntKind.i64 0)) = some r_7 ∧ ∃ (b : Bool), r_7 = D.v (Value.bool b) ∧ (b = true → (r_5 = r_5 ∧ r_6 = r_6 ∧ True) ∧ True ∧ I [r_5, r_6] ∧ μ [r_5, r_6] < μ [r, r_1]) ∧ (b = false → ((∃ (y : Value), r_5 = D.v y) ∧ True) ∧ [r_5] = [D.v (Value.int IntKind.u32 (stpN 8 x))])) ∧ (b = false → ∃ (r_5 : D), D.bin BinOp.sub r_1 (D.v (Value.int IntKind.i64 1)) = some r_5 ∧ ∃ (r_6 : D), D.bin BinOp.gtr r_5 (D.v (Value.int IntKind.i64 0)) = some r_6 ∧ ∃ (b : Bool), r_6 = D.v (Value.bool b) ∧ (b = true → (r_3 = r_3 ∧ r_5 = r_5 ∧ True) ∧ True ∧ I [r_3, r_5] ∧ μ [r_3, r_5] < μ [r, r_1]) ∧ (b = false → ((∃ (y : Value), r_3 = D.v y) ∧ True) ∧ [r_3] = [D.v (Value.int IntKind.u32 (stpN 8 x))]))) := by kernel_rfl
set_option maxHeartbeats 4000000 in
theorem stepped (x : Int) (x0 : 0 ≤ x) (x1 : x < 4294967296) : PureD Try.prog 58 [.v (.int .u32 x)] [.v (.int .u32 (stpN 8 x))] := by
  refine pure_cond (Lp := (fun k => if k = 2000 then some ⟨[0, 3], [], [], []⟩ else none)) (by kernel_rfl) Try.func58 (by kernel_rfl) (by kernel_rfl) ?_
  rw [vc_stepped x]
  have a1 : True := trivial
  have s1 : True := trivial
  repeat' (first
    | (refine ex_some (by simp (disch := omega) only [bin_shr, bin_shl, bin_and, bin_or, bin_xor, len_str, toStr_ofL, bin_add, bin_sub, bin_mul, bin_quo, bin_rem, bin_lss, bin_leq, bin_gtr, bin_geq, bin_eql, bin_neq, eqs_cn, eqs_ci, eqs_cb, eqs_cs, Option.map_some, lenT_ofL, lst_ofL, lstSz_ofL, chunk_one, lst_nil, lst_sl, lstSz_sl, lstSz_nil, Bool.and_true, Bool.true_and, Bool.and_false, Bool.false_and, beq_self_eq_true, beq_bb, bne_bb, un_not, un_neg, conv_int, min2_int, max2_int, w64, w32, wu8, wu16, wu32, wu64, tdiv_nn, tmod_nn, cell_zero, cell_succ, cell_v, cells_v, cells_agg, Bool.not_true, Bool.not_false, Int.reduceLT, Int.reduceLE, Int.reduceEq, Int.reduceNeg, Int.reduceAdd, Int.reduceSub, Int.reduceMul, intOf_v, decide_true, decide_false, a1, s1, xu_def]; rfl) ?_)
    | (refine ex_bool ?_)
    | (refine ⟨(fun r => ∃ (z : Int) (m : Nat), (1 ≤ m ∧ m ≤ 8) ∧ 0 ≤ z ∧ z < 4294967296 ∧ stpN m z = stpN 8 x ∧ r = [.v (.int .u32 z), .v (.int .i64 (m : Nat))]), left2, ?_⟩)
    | (refine fun (r2 r3 : D) (hI : (fun r => ∃ (z : Int) (m : Nat), (1 ≤ m ∧ m ≤ 8) ∧ 0 ≤ z ∧ z < 4294967296 ∧ stpN m z = stpN 8 x ∧ r = [.v (.int .u32 z), .v (.int .i64 (m : Nat))]) [r2, r3]) => ?_; obtain ⟨z, m, hm, hz, hz1, hch, hl0⟩ := hI; simp only [List.cons.injEq, and_true] at hl0; obtain ⟨rfl, rfl⟩ := hl0; by_cases hlt : 0 ≤ z <;> first | (obtain ⟨m2, rfl⟩ : ∃ m2, m = m2 + 1 := ⟨m - 1, by omega⟩; have a1 := and1 hz hz1; have s1 := shr1 z; have hst : stpN (m2 + 1) z = stpN m2 (stp z) := rfl; have sb := stp_bd hz hz1; rw [hst] at hch; rcases (show z % 2 = 0 ∨ z % 2 = 1 by omega) with hp | hp; all_goals (first | (have hq : z % 2 = 1 := (by omega); have hs : stp z = xu (z / 2) 3988292384 := if_pos hp; rw [hs] at hch sb; have inl : True := trivial) | (have hq : ¬ z % 2 = 1 := (by omega); have hs : stp z = z / 2 := if_neg hq; rw [hs] at hch sb; have inl : True := trivial)); all_goals (rcases Nat.eq_zero_or_pos m2 with h0 | h0); all_goals (first | (have hm0 : m2 = 0 := (by omega); subst hm0; have hfin : stpN 0 (stp z) = stpN 8 x := (by rw [hs]; exact hch); have hfin : stp z = stpN 8 x := hfin; have inl2 : True := trivial) | (have hm0 : 0 < m2 := (by omega); have inl3 : True := trivial))) | (have inl9 : True := trivial))
    | (exact ⟨x, 8, by omega, x0, x1, rfl, rfl⟩)
    | (have := inl3; refine ⟨_, m2, by omega, sb.1, sb.2, hch, ?_⟩)
    | (refine And.intro ?_ ?_)
    | (intro hx; have hprop := (show ∀ (p : Prop), p → True from fun _ _ => True.intro) _ hx; clear hprop; first | (cases hx; done) | (exfalso; revert hx; simp (disch := omega) only [decide_eq_true_eq, decide_eq_false_iff_not, Bool.not_eq_true', Bool.not_eq_false', Bool.and_eq_true, Bool.and_eq_false_iff, Int.not_lt, Int.not_le, ne_eq, not_false_eq_true, not_true_eq_false, reduceCtorEq, Bool.true_eq_false, Bool.false_eq_true, beq_iff_eq, bne_iff_ne, beq_eq_false_iff_ne, false_or, or_false, true_and, and_true, a1, s1, xu_def]; done) | (simp (disch := omega) only [decide_eq_true_eq, decide_eq_false_iff_not, Bool.not_eq_true', Bool.not_eq_false', Bool.and_eq_true, Bool.and_eq_false_iff, Int.not_lt, Int.not_le, ne_eq, not_false_eq_true, not_true_eq_false, reduceCtorEq, Bool.true_eq_false, Bool.false_eq_true, beq_iff_eq, bne_iff_ne, beq_eq_false_iff_ne, false_or, or_false, true_and, and_true, a1, s1, xu_def] at hx; first | (exfalso; omega) | skip) | skip)
    | trivial
    | exact fit_ofL _ _
    | (simp (disch := omega) only [notAgg_v, notAgg_sl, plain_v, fits, fitsOne, fitsCells, xsOf, cell_zero, cell_succ, List.range, List.range.loop, List.map, cond_true, cond_false, D.v.injEq, exists_eq', exists_eq, and_self, and_true, true_and, D.agg.injEq, List.length, exists_eq_left', D.sl.injEq, reduceCtorEq, false_or, true_or, or_true, or_false, cell_zero, cell_succ, cell_v, cells_v, cells_agg, List.length_cons, List.length_nil, a1, s1, xu_def]; done))
  all_goals first
    | (exfalso; omega)
    | omega
    | rfl
    | (rw [← hfin, hs]; done)
    | exact ⟨_, rfl⟩
    | exact notAgg_v _
    | (simp only [left2]; omega)
    | (simp only [leftN]; omega)
    | (simp; done)
    | fail

theorem vc_rstep (x : Int) : Cond Try.prog (fun k => if k = 2 then some ⟨[3, 0], [], [], []⟩ else none) Try.f57 [.v (.int .u32 x)] [.v (.int .u32 (stpN 8 x))] = ((NotAgg (D.v (Value.int IntKind.u32 x)) ∧ True) ∧ ∃ (I : List D → Prop), ∃ (μ : List D → Nat), ((D.v (Value.int IntKind.i64 0) = D.v (Value.int IntKind.i64 0) ∧ D.v (Value.int IntKind.u32 x) = D.v (Value.int IntKind.u32 x) ∧ True) ∧ True ∧ I [D.v (Value.int IntKind.i64 0), D.v (Value.int IntKind.u32 x)]) ∧ ∀ (r r_1 : D), I [r, r_1] → ∃ (r_2 : D), D.bin BinOp.lss r (D.v (Value.int IntKind.i64 8)) = some r_2 ∧ ∃ (b : Bool), r_2 = D.v (Value.bool b) ∧ (b = true → ∃ (r_3 : D), D.bin BinOp.rem r_1 (D.v (Value.int IntKind.u32 2)) = some r_3 ∧ ∃ (r_4 : D), D.bin BinOp.eql r_3 (D.v (Value.int IntKind.u32 1)) = some r_4 ∧ ∃ (b : Bool), r_4 = D.v (Value.bool b) ∧ (b = true → ∃ (r_5 : D), D.bin BinOp.quo r_1 (D.v (Value.int IntKind.u32 2)) = some r_5 ∧ ∃ (r_6 : D), D.bin BinOp.xor r_5 (D.v (Value.int IntKind.u32 3988292384)) = some r_6 ∧ ∃ (r_7 : D), D.bin BinOp.add r (D.v (Value.int IntKind.i64 1)) = some r_7 ∧ (r_7 = r_7 ∧ r_6 = r_6 ∧ True) ∧ True ∧ I [r_7, r_6] ∧ μ [r_7, r_6] < μ [r, r_1]) ∧ (b = false → ∃ (r_5 : D), D.bin BinOp.quo r_1 (D.v (Value.int IntKind.u32 2)) = some r_5 ∧ ∃ (r_6 : D), D.bin BinOp.add r (D.v (Value.int IntKind.i64 1)) = some r_6 ∧ (r_6 = r_6 ∧ r_5 = r_5 ∧ True) ∧ True ∧ I [r_6, r_5] ∧ μ [r_6, r_5] < μ [r, r_1])) ∧ (b = false → ((∃ (y : Value), r_1 = D.v y) ∧ True) ∧ [r_1] = [D.v (Value.int IntKind.u32 (stpN 8 x))])) := by kernel_rfl
set_option maxHeartbeats 4000000 in
theorem rstep (x : Int) (x0 : 0 ≤ x) (x1 : x < 4294967296) : PureD Try.prog 57 [.v (.int .u32 x)] [.v (.int .u32 (stpN 8 x))] := by
  refine pure_cond (Lp := (fun k => if k = 2 then some ⟨[3, 0], [], [], []⟩ else none)) (by kernel_rfl) Try.func57 (by kernel_rfl) (by kernel_rfl) ?_
  rw [vc_rstep x]
  repeat' (first
    | (refine ex_some (by simp (disch := omega) only [bin_shr, bin_shl, bin_and, bin_or, bin_xor, len_str, toStr_ofL, bin_add, bin_sub, bin_mul, bin_quo, bin_rem, bin_lss, bin_leq, bin_gtr, bin_geq, bin_eql, bin_neq, eqs_cn, eqs_ci, eqs_cb, eqs_cs, Option.map_some, lenT_ofL, lst_ofL, lstSz_ofL, chunk_one, lst_nil, lst_sl, lstSz_sl, lstSz_nil, Bool.and_true, Bool.true_and, Bool.and_false, Bool.false_and, beq_self_eq_true, beq_bb, bne_bb, un_not, un_neg, conv_int, min2_int, max2_int, w64, w32, wu8, wu16, wu32, wu64, tdiv_nn, tmod_nn, cell_zero, cell_succ, cell_v, cells_v, cells_agg, Bool.not_true, Bool.not_false, Int.reduceLT, Int.reduceLE, Int.reduceEq, Int.reduceNeg, Int.reduceAdd, Int.reduceSub, Int.reduceMul, intOf_v, decide_true, decide_false, xu_def]; rfl) ?_)
    | (refine ex_bool ?_)
    | (refine ⟨(fun r => ∃ (k : Nat) (z : Int), k ≤ 8 ∧ 0 ≤ z ∧ z < 4294967296 ∧ stpN (8 - k) z = stpN 8 x ∧ r = [.v (.int .i64 (k : Nat)), .v (.int .u32 z)]), leftN 8, ?_⟩)
    | (refine fun (r2 r3 : D) (hI : (fun r => ∃ (k : Nat) (z : Int), k ≤ 8 ∧ 0 ≤ z ∧ z < 4294967296 ∧ stpN (8 - k) z = stpN 8 x ∧ r = [.v (.int .i64 (k : Nat)), .v (.int .u32 z)]) [r2, r3]) => ?_; obtain ⟨k, z, hk, hz, hz1, hch, hl0⟩ := hI; simp only [List.cons.injEq, and_true] at hl0; obtain ⟨rfl, rfl⟩ := hl0; by_cases hlt : k < 8 <;> first | (have hk1 : k < 8 := (by omega); obtain ⟨m2, hm⟩ : ∃ m2, 8 - k = m2 + 1 := ⟨7 - k, by omega⟩; have hm2 : 8 - (k + 1) = m2 := (by omega); rw [hm] at hch; have hst : stpN (m2 + 1) z = stpN m2 (stp z) := rfl; have sb := stp_bd hz hz1; rw [hst] at hch; rcases (show z % 2 = 0 ∨ z % 2 = 1 by omega) with hp | hp; all_goals (first | (have hq : z % 2 = 1 := (by omega); have hs : stp z = xu (z / 2) 3988292384 := if_pos hp; rw [hs] at hch sb; have inl : True := trivial) | (have hq : ¬ z % 2 = 1 := (by omega); have hs : stp z = z / 2 := if_neg hq; rw [hs] at hch sb; have inl : True := trivial))) | (have hkk : k = 8 := (by omega); subst hkk; have hfin : z = stpN 8 x := hch; have inl2 : True := trivial))
    | (exact ⟨0, x, by omega, x0, x1, rfl, rfl⟩)
    | (have := inl; refine ⟨k + 1, _, by omega, sb.1, sb.2, by rw [hm2]; exact hch, ?_⟩)
    | (refine And.intro ?_ ?_)
    | (intro hx; have hprop := (show ∀ (p : Prop), p → True from fun _ _ => True.intro) _ hx; clear hprop; first | (cases hx; done) | (exfalso; revert hx; simp (disch := omega) only [decide_eq_true_eq, decide_eq_false_iff_not, Bool.not_eq_true', Bool.not_eq_false', Bool.and_eq_true, Bool.and_eq_false_iff, Int.not_lt, Int.not_le, ne_eq, not_false_eq_true, not_true_eq_false, reduceCtorEq, Bool.true_eq_false, Bool.false_eq_true, beq_iff_eq, bne_iff_ne, beq_eq_false_iff_ne, false_or, or_false, true_and, and_true, xu_def]; done) | (simp (disch := omega) only [decide_eq_true_eq, decide_eq_false_iff_not, Bool.not_eq_true', Bool.not_eq_false', Bool.and_eq_true, Bool.and_eq_false_iff, Int.not_lt, Int.not_le, ne_eq, not_false_eq_true, not_true_eq_false, reduceCtorEq, Bool.true_eq_false, Bool.false_eq_true, beq_iff_eq, bne_iff_ne, beq_eq_false_iff_ne, false_or, or_false, true_and, and_true, xu_def] at hx; first | (exfalso; omega) | skip) | skip)
    | trivial
    | exact fit_ofL _ _
    | (simp (disch := omega) only [notAgg_v, notAgg_sl, plain_v, fits, fitsOne, fitsCells, xsOf, cell_zero, cell_succ, List.range, List.range.loop, List.map, cond_true, cond_false, D.v.injEq, exists_eq', exists_eq, and_self, and_true, true_and, D.agg.injEq, List.length, exists_eq_left', D.sl.injEq, reduceCtorEq, false_or, true_or, or_true, or_false, cell_zero, cell_succ, cell_v, cells_v, cells_agg, List.length_cons, List.length_nil, xu_def]; done))
  all_goals first
    | (exfalso; omega)
    | omega
    | rfl
    | (rw [← hfin]; done)
    | exact ⟨_, rfl⟩
    | exact notAgg_v _
    | (simp only [left2]; omega)
    | (simp only [leftN]; omega)
    | (simp; done)
    | fail

theorem vc_turned (x : Int) : Cond Try.prog (fun _ => none) Try.f56 [.v (.int .u32 x)] [.v (.int .u32 (nt x))] = ((NotAgg (D.v (Value.int IntKind.u32 x)) ∧ True) ∧ ∃ (r : D), D.bin BinOp.xor (D.v (Value.int IntKind.u32 x)) (D.v (Value.int IntKind.u32 4294967295)) = some r ∧ ((∃ (y : Value), r = D.v y) ∧ True) ∧ [r] = [D.v (Value.int IntKind.u32 (nt x))]) := by kernel_rfl
theorem turned (x : Int)  : PureD Try.prog 56 [.v (.int .u32 x)] [.v (.int .u32 (nt x))] := by
  refine pure_cond (Lp := (fun _ => none)) (by kernel_rfl) Try.func56 (by kernel_rfl) (by kernel_rfl) ?_
  rw [vc_turned x]
  repeat' (first
    | (refine ex_some (by simp (disch := omega) only [bin_shr, bin_shl, bin_and, bin_or, bin_xor, len_str, toStr_ofL, bin_add, bin_sub, bin_mul, bin_quo, bin_rem, bin_lss, bin_leq, bin_gtr, bin_geq, bin_eql, bin_neq, eqs_cn, eqs_ci, eqs_cb, eqs_cs, Option.map_some, lenT_ofL, lst_ofL, lstSz_ofL, chunk_one, lst_nil, lst_sl, lstSz_sl, lstSz_nil, Bool.and_true, Bool.true_and, Bool.and_false, Bool.false_and, beq_self_eq_true, beq_bb, bne_bb, un_not, un_neg, conv_int, min2_int, max2_int, w64, w32, wu8, wu16, wu32, wu64, tdiv_nn, tmod_nn, cell_zero, cell_succ, cell_v, cells_v, cells_agg, Bool.not_true, Bool.not_false, Int.reduceLT, Int.reduceLE, Int.reduceEq, Int.reduceNeg, Int.reduceAdd, Int.reduceSub, Int.reduceMul, intOf_v, decide_true, decide_false, xu_def]; rfl) ?_)
    | (refine ex_bool ?_)
    | (refine And.intro ?_ ?_)
    | (intro hx; have hprop := (show ∀ (p : Prop), p → True from fun _ _ => True.intro) _ hx; clear hprop; first | (cases hx; done) | (exfalso; revert hx; simp (disch := omega) only [decide_eq_true_eq, decide_eq_false_iff_not, Bool.not_eq_true', Bool.not_eq_false', Bool.and_eq_true, Bool.and_eq_false_iff, Int.not_lt, Int.not_le, ne_eq, not_false_eq_true, not_true_eq_false, reduceCtorEq, Bool.true_eq_false, Bool.false_eq_true, beq_iff_eq, bne_iff_ne, beq_eq_false_iff_ne, false_or, or_false, true_and, and_true, xu_def]; done) | (simp (disch := omega) only [decide_eq_true_eq, decide_eq_false_iff_not, Bool.not_eq_true', Bool.not_eq_false', Bool.and_eq_true, Bool.and_eq_false_iff, Int.not_lt, Int.not_le, ne_eq, not_false_eq_true, not_true_eq_false, reduceCtorEq, Bool.true_eq_false, Bool.false_eq_true, beq_iff_eq, bne_iff_ne, beq_eq_false_iff_ne, false_or, or_false, true_and, and_true, xu_def] at hx; first | (exfalso; omega) | skip) | skip)
    | trivial
    | exact fit_ofL _ _
    | (simp (disch := omega) only [notAgg_v, notAgg_sl, plain_v, fits, fitsOne, fitsCells, xsOf, cell_zero, cell_succ, List.range, List.range.loop, List.map, cond_true, cond_false, D.v.injEq, exists_eq', exists_eq, and_self, and_true, true_and, D.agg.injEq, List.length, exists_eq_left', D.sl.injEq, reduceCtorEq, false_or, true_or, or_true, or_false, cell_zero, cell_succ, cell_v, cells_v, cells_agg, List.length_cons, List.length_nil, xu_def]; done))
  all_goals first
    | (exfalso; omega)
    | omega
    | rfl
    | (unfold nt; rw [xu_comm]; done)
    | exact ⟨_, rfl⟩
    | exact notAgg_v _
    | (simp only [left2]; omega)
    | (simp only [leftN]; omega)
    | (simp; done)
    | fail

theorem vc_more (z : Int) (s : List Int) : Cond Try.prog (fun k => if k = 3 then some ⟨[11, 5], [], [1, 10], []⟩ else none) Try.f55 [.v (.int .u32 z), str s] [.v (.int .u32 (nt (moreF (nt z) s)))] = ((NotAgg (D.v (Value.int IntKind.u32 z)) ∧ NotAgg (str s) ∧ True) ∧ ∃ (r : D), D.un UnOp.xor (D.v (Value.int IntKind.u32 z)) = some r ∧ ∃ (r_1 : D), D.lenT TypeDesc.string (str s) = some r_1 ∧ ∃ (I : List D → Prop), ∃ (μ : List D → Nat), ((D.v (Value.int IntKind.i64 0) = D.v (Value.int IntKind.i64 0) ∧ r = r ∧ str s = str s ∧ r_1 = r_1 ∧ True) ∧ True ∧ I [D.v (Value.int IntKind.i64 0), r]) ∧ ∀ (r r_2 : D), I [r, r_2] → ∃ (r_3 : D), D.bin BinOp.lss r r_1 = some r_3 ∧ ∃ (b : Bool), r_3 = D.v (Value.bool b) ∧ (b = true → (str s).sinb r ∧ ∃ (r_4 : D), D.conv IntKind.u32 ((str s).byteAt r) = some r_4 ∧ ∃ (r_5 : D), D.bin BinOp.xor r_2 r_4 = some r_5 ∧ ∃ (r_6 : D), PureD Try.prog 58 [r_5] [r_6] ∧ fits [(false, [none])] [r_6] ∧ ∃ (r_7 : D), D.bin BinOp.add r (D.v (Value.int IntKind.i64 1)) = some r_7 ∧ (r_7 = r_7 ∧ r_6 = r_6 ∧ str s = str s ∧ r_1 = r_1 ∧ True) ∧ True ∧ I [r_7, r_6] ∧ μ [r_7, r_6] < μ [r, r_2]) ∧ (b = false → ∃ (r : D), D.un UnOp.xor r_2 = some r ∧ ((∃ (y : Value), r = D.v y) ∧ True) ∧ [r] = [D.v (Value.int IntKind.u32 (nt (moreF (nt z) s)))])) := by kernel_rfl
set_option maxHeartbeats 4000000 in
theorem more (z : Int) (s : List Int) (hs : Bytes s) (hl : s.length ≤ 100000) (z0 : 0 ≤ z) (z1 : z < 4294967296) : PureD Try.prog 55 [.v (.int .u32 z), str s] [.v (.int .u32 (nt (moreF (nt z) s)))] := by
  refine pure_cond (Lp := (fun k => if k = 3 then some ⟨[11, 5], [], [1, 10], []⟩ else none)) (by kernel_rfl) Try.func55 (by kernel_rfl) (by kernel_rfl) ?_
  rw [vc_more z s]
  have e1 : True := trivial
  repeat' (first
    | (refine ex_some (by simp (disch := omega) only [bin_shr, bin_shl, bin_and, bin_or, bin_xor, len_str, toStr_ofL, bin_add, bin_sub, bin_mul, bin_quo, bin_rem, bin_lss, bin_leq, bin_gtr, bin_geq, bin_eql, bin_neq, eqs_cn, eqs_ci, eqs_cb, eqs_cs, Option.map_some, lenT_ofL, lst_ofL, lstSz_ofL, chunk_one, lst_nil, lst_sl, lstSz_sl, lstSz_nil, Bool.and_true, Bool.true_and, Bool.and_false, Bool.false_and, beq_self_eq_true, beq_bb, bne_bb, un_not, un_neg, conv_int, min2_int, max2_int, w64, w32, wu8, wu16, wu32, wu64, tdiv_nn, tmod_nn, cell_zero, cell_succ, cell_v, cells_v, cells_agg, Bool.not_true, Bool.not_false, Int.reduceLT, Int.reduceLE, Int.reduceEq, Int.reduceNeg, Int.reduceAdd, Int.reduceSub, Int.reduceMul, intOf_v, decide_true, decide_false, e1, xu_def, un_xoru]; rfl) ?_)
    | (refine ex_bool ?_)
    | (refine ⟨_, S, ?_⟩)
    | (refine ⟨(fun r => ∃ (k : Nat), k ≤ s.length ∧ r = [.v (.int .i64 (k : Nat)), .v (.int .u32 (moreF (nt z) (s.take k)))]), leftN s.length, ?_⟩)
    | (refine fun (r2 r3 : D) (hI : (fun r => ∃ (k : Nat), k ≤ s.length ∧ r = [.v (.int .i64 (k : Nat)), .v (.int .u32 (moreF (nt z) (s.take k)))]) [r2, r3]) => ?_; obtain ⟨k, hk, hl0⟩ := hI; simp only [List.cons.injEq, and_true] at hl0; obtain ⟨rfl, rfl⟩ := hl0; by_cases hlt : k < s.length <;> first | (have hk1 : k < s.length := (by omega); have e1 := byteAt_str hs .i64 (n := k) hk1; have i1 := sinb_str (l := s) .i64 (n := (k : Nat)) (by omega) (by omega); have hb := hs.getD k; have hm := more_take (nt z) hk1; have hbd := more_bd (z := nt z) (s := s.take k) (xu_bd _ _).1 (xu_bd _ _).2; generalize s.getD k 0 = b at e1 hb hm; generalize moreF (nt z) (s.take k) = q at hm hbd; have xb := xu_bd q b; have S := stepped (xu q b) xb.1 xb.2; have inl : True := trivial) | (have hkk : k = s.length := (by omega); subst hkk; rw [List.take_length]; have e1 : True := trivial; have inl2 : True := trivial))
    | (exact i1)
    | (refine ⟨0, Nat.zero_le _, rfl⟩)
    | (have := inl; refine ⟨k + 1, by omega, ?_⟩)
    | (refine And.intro ?_ ?_)
    | (intro hx; have hprop := (show ∀ (p : Prop), p → True from fun _ _ => True.intro) _ hx; clear hprop; first | (cases hx; done) | (exfalso; revert hx; simp (disch := omega) only [decide_eq_true_eq, decide_eq_false_iff_not, Bool.not_eq_true', Bool.not_eq_false', Bool.and_eq_true, Bool.and_eq_false_iff, Int.not_lt, Int.not_le, ne_eq, not_false_eq_true, not_true_eq_false, reduceCtorEq, Bool.true_eq_false, Bool.false_eq_true, beq_iff_eq, bne_iff_ne, beq_eq_false_iff_ne, false_or, or_false, true_and, and_true, e1, xu_def, un_xoru]; done) | (simp (disch := omega) only [decide_eq_true_eq, decide_eq_false_iff_not, Bool.not_eq_true', Bool.not_eq_false', Bool.and_eq_true, Bool.and_eq_false_iff, Int.not_lt, Int.not_le, ne_eq, not_false_eq_true, not_true_eq_false, reduceCtorEq, Bool.true_eq_false, Bool.false_eq_true, beq_iff_eq, bne_iff_ne, beq_eq_false_iff_ne, false_or, or_false, true_and, and_true, e1, xu_def, un_xoru] at hx; first | (exfalso; omega) | skip) | skip)
    | trivial
    | exact fit_ofL _ _
    | (simp (disch := omega) only [notAgg_v, notAgg_sl, plain_v, fits, fitsOne, fitsCells, xsOf, cell_zero, cell_succ, List.range, List.range.loop, List.map, cond_true, cond_false, D.v.injEq, exists_eq', exists_eq, and_self, and_true, true_and, D.agg.injEq, List.length, exists_eq_left', D.sl.injEq, reduceCtorEq, false_or, true_or, or_true, or_false, cell_zero, cell_succ, cell_v, cells_v, cells_agg, List.length_cons, List.length_nil, e1, xu_def, un_xoru]; done))
  all_goals first
    | (exfalso; omega)
    | omega
    | rfl
    | (rw [hm]; done)
    | (rw [hm]; rfl)
    | exact ⟨_, rfl⟩
    | exact notAgg_v _
    | (simp only [left2]; omega)
    | (simp only [leftN]; omega)
    | (simp; done)
    | fail

theorem vc_rmore (z : Int) (s : List Int) : Cond Try.prog (fun k => if k = 3 then some ⟨[6, 5], [], [1], []⟩ else none) Try.f53 [.v (.int .u32 z), str s] [.v (.int .u32 (nt (moreF (nt z) s)))] = ((NotAgg (D.v (Value.int IntKind.u32 z)) ∧ NotAgg (str s) ∧ True) ∧ ∃ (r : D), PureD Try.prog 56 [D.v (Value.int IntKind.u32 z)] [r] ∧ fits [(false, [none])] [r] ∧ ∃ (I : List D → Prop), ∃ (μ : List D → Nat), ((D.v (Value.int IntKind.i64 0) = D.v (Value.int IntKind.i64 0) ∧ r = r ∧ str s = str s ∧ True) ∧ True ∧ I [D.v (Value.int IntKind.i64 0), r]) ∧ ∀ (r r_1 : D), I [r, r_1] → ∃ (r_2 : D), D.lenT TypeDesc.string (str s) = some r_2 ∧ ∃ (r_3 : D), D.bin BinOp.lss r r_2 = some r_3 ∧ ∃ (b : Bool), r_3 = D.v (Value.bool b) ∧ (b = true → (str s).sinb r ∧ ∃ (r_4 : D), D.conv IntKind.u32 ((str s).byteAt r) = some r_4 ∧ ∃ (r_5 : D), D.bin BinOp.xor r_1 r_4 = some r_5 ∧ ∃ (r_6 : D), PureD Try.prog 57 [r_5] [r_6] ∧ fits [(false, [none])] [r_6] ∧ ∃ (r_7 : D), D.bin BinOp.add r (D.v (Value.int IntKind.i64 1)) = some r_7 ∧ (r_7 = r_7 ∧ r_6 = r_6 ∧ str s = str s ∧ True) ∧ True ∧ I [r_7, r_6] ∧ μ [r_7, r_6] < μ [r, r_1]) ∧ (b = false → ∃ (r : D), PureD Try.prog 56 [r_1] [r] ∧ fits [(false, [none])] [r] ∧ ((∃ (y : Value), r = D.v y) ∧ True) ∧ [r] = [D.v (Value.int IntKind.u32 (nt (moreF (nt z) s)))])) := by kernel_rfl
set_option maxHeartbeats 4000000 in
theorem rmore (z : Int) (s : List Int) (hs : Bytes s) (hl : s.length ≤ 100000) (z0 : 0 ≤ z) (z1 : z < 4294967296) : PureD Try.prog 53 [.v (.int .u32 z), str s] [.v (.int .u32 (nt (moreF (nt z) s)))] := by
  refine pure_cond (Lp := (fun k => if k = 3 then some ⟨[6, 5], [], [1], []⟩ else none)) (by kernel_rfl) Try.func53 (by kernel_rfl) (by kernel_rfl) ?_
  rw [vc_rmore z s]
  have T1 := turned z
  have T2 := turned (moreF (nt z) s)
  have e1 : True := trivial
  repeat' (first
    | (refine ex_some (by simp (disch := omega) only [bin_shr, bin_shl, bin_and, bin_or, bin_xor, len_str, toStr_ofL, bin_add, bin_sub, bin_mul, bin_quo, bin_rem, bin_lss, bin_leq, bin_gtr, bin_geq, bin_eql, bin_neq, eqs_cn, eqs_ci, eqs_cb, eqs_cs, Option.map_some, lenT_ofL, lst_ofL, lstSz_ofL, chunk_one, lst_nil, lst_sl, lstSz_sl, lstSz_nil, Bool.and_true, Bool.true_and, Bool.and_false, Bool.false_and, beq_self_eq_true, beq_bb, bne_bb, un_not, un_neg, conv_int, min2_int, max2_int, w64, w32, wu8, wu16, wu32, wu64, tdiv_nn, tmod_nn, cell_zero, cell_succ, cell_v, cells_v, cells_agg, Bool.not_true, Bool.not_false, Int.reduceLT, Int.reduceLE, Int.reduceEq, Int.reduceNeg, Int.reduceAdd, Int.reduceSub, Int.reduceMul, intOf_v, decide_true, decide_false, e1, xu_def, un_xoru]; rfl) ?_)
    | (refine ex_bool ?_)
    | (refine ⟨_, T1, ?_⟩)
    | (refine ⟨_, T2, ?_⟩)
    | (refine ⟨_, S, ?_⟩)
    | (refine ⟨(fun r => ∃ (k : Nat), k ≤ s.length ∧ r = [.v (.int .i64 (k : Nat)), .v (.int .u32 (moreF (nt z) (s.take k)))]), leftN s.length, ?_⟩)
    | (refine fun (r2 r3 : D) (hI : (fun r => ∃ (k : Nat), k ≤ s.length ∧ r = [.v (.int .i64 (k : Nat)), .v (.int .u32 (moreF (nt z) (s.take k)))]) [r2, r3]) => ?_; obtain ⟨k, hk, hl0⟩ := hI; simp only [List.cons.injEq, and_true] at hl0; obtain ⟨rfl, rfl⟩ := hl0; by_cases hlt : k < s.length <;> first | (have hk1 : k < s.length := (by omega); have e1 := byteAt_str hs .i64 (n := k) hk1; have i1 := sinb_str (l := s) .i64 (n := (k : Nat)) (by omega) (by omega); have hb := hs.getD k; have hm := more_take (nt z) hk1; have hbd := more_bd (z := nt z) (s := s.take k) (xu_bd _ _).1 (xu_bd _ _).2; generalize s.getD k 0 = b at e1 hb hm; generalize moreF (nt z) (s.take k) = q at hm hbd; have xb := xu_bd q b; have S := rstep (xu q b) xb.1 xb.2; have inl : True := trivial) | (have hkk : k = s.length := (by omega); subst hkk; rw [List.take_length]; have e1 : True := trivial; have inl2 : True := trivial))
    | (exact i1)
    | (refine ⟨0, Nat.zero_le _, rfl⟩)
    | (have := inl; refine ⟨k + 1, by omega, ?_⟩)
    | (refine And.intro ?_ ?_)
    | (intro hx; have hprop := (show ∀ (p : Prop), p → True from fun _ _ => True.intro) _ hx; clear hprop; first | (cases hx; done) | (exfalso; revert hx; simp (disch := omega) only [decide_eq_true_eq, decide_eq_false_iff_not, Bool.not_eq_true', Bool.not_eq_false', Bool.and_eq_true, Bool.and_eq_false_iff, Int.not_lt, Int.not_le, ne_eq, not_false_eq_true, not_true_eq_false, reduceCtorEq, Bool.true_eq_false, Bool.false_eq_true, beq_iff_eq, bne_iff_ne, beq_eq_false_iff_ne, false_or, or_false, true_and, and_true, e1, xu_def, un_xoru]; done) | (simp (disch := omega) only [decide_eq_true_eq, decide_eq_false_iff_not, Bool.not_eq_true', Bool.not_eq_false', Bool.and_eq_true, Bool.and_eq_false_iff, Int.not_lt, Int.not_le, ne_eq, not_false_eq_true, not_true_eq_false, reduceCtorEq, Bool.true_eq_false, Bool.false_eq_true, beq_iff_eq, bne_iff_ne, beq_eq_false_iff_ne, false_or, or_false, true_and, and_true, e1, xu_def, un_xoru] at hx; first | (exfalso; omega) | skip) | skip)
    | trivial
    | exact fit_ofL _ _
    | (simp (disch := omega) only [notAgg_v, notAgg_sl, plain_v, fits, fitsOne, fitsCells, xsOf, cell_zero, cell_succ, List.range, List.range.loop, List.map, cond_true, cond_false, D.v.injEq, exists_eq', exists_eq, and_self, and_true, true_and, D.agg.injEq, List.length, exists_eq_left', D.sl.injEq, reduceCtorEq, false_or, true_or, or_true, or_false, cell_zero, cell_succ, cell_v, cells_v, cells_agg, List.length_cons, List.length_nil, e1, xu_def, un_xoru]; done))
  all_goals first
    | (exfalso; omega)
    | omega
    | rfl
    | (rw [hm]; done)
    | (rw [hm]; rfl)
    | exact ⟨_, rfl⟩
    | exact notAgg_v _
    | (simp only [left2]; omega)
    | (simp only [leftN]; omega)
    | (simp; done)
    | fail

theorem vc_sum (s : List Int) : Cond Try.prog (fun _ => none) Try.f52 [str s] [.v (.int .u32 (sumF s))] = ((NotAgg (str s) ∧ True) ∧ ∃ (r : D), PureD Try.prog 55 [D.v (Value.int IntKind.u32 0), str s] [r] ∧ fits [(false, [none])] [r] ∧ ((∃ (y : Value), r = D.v y) ∧ True) ∧ [r] = [D.v (Value.int IntKind.u32 (sumF s))]) := by kernel_rfl
theorem sum (s : List Int) (hs : Bytes s) (hl : s.length ≤ 100000) : PureD Try.prog 52 [str s] [.v (.int .u32 (sumF s))] := by
  refine pure_cond (Lp := (fun _ => none)) (by kernel_rfl) Try.func52 (by kernel_rfl) (by kernel_rfl) ?_
  rw [vc_sum s]
  have M := more 0 s hs hl (by omega) (by omega)
  repeat' (first
    | (refine ex_some (by simp (disch := omega) only [bin_shr, bin_shl, bin_and, bin_or, bin_xor, len_str, toStr_ofL, bin_add, bin_sub, bin_mul, bin_quo, bin_rem, bin_lss, bin_leq, bin_gtr, bin_geq, bin_eql, bin_neq, eqs_cn, eqs_ci, eqs_cb, eqs_cs, Option.map_some, lenT_ofL, lst_ofL, lstSz_ofL, chunk_one, lst_nil, lst_sl, lstSz_sl, lstSz_nil, Bool.and_true, Bool.true_and, Bool.and_false, Bool.false_and, beq_self_eq_true, beq_bb, bne_bb, un_not, un_neg, conv_int, min2_int, max2_int, w64, w32, wu8, wu16, wu32, wu64, tdiv_nn, tmod_nn, cell_zero, cell_succ, cell_v, cells_v, cells_agg, Bool.not_true, Bool.not_false, Int.reduceLT, Int.reduceLE, Int.reduceEq, Int.reduceNeg, Int.reduceAdd, Int.reduceSub, Int.reduceMul, intOf_v, decide_true, decide_false]; rfl) ?_)
    | (refine ex_bool ?_)
    | (refine ⟨_, M, ?_⟩)
    | (refine And.intro ?_ ?_)
    | (intro hx; have hprop := (show ∀ (p : Prop), p → True from fun _ _ => True.intro) _ hx; clear hprop; first | (cases hx; done) | (exfalso; revert hx; simp (disch := omega) only [decide_eq_true_eq, decide_eq_false_iff_not, Bool.not_eq_true', Bool.not_eq_false', Bool.and_eq_true, Bool.and_eq_false_iff, Int.not_lt, Int.not_le, ne_eq, not_false_eq_true, not_true_eq_false, reduceCtorEq, Bool.true_eq_false, Bool.false_eq_true, beq_iff_eq, bne_iff_ne, beq_eq_false_iff_ne, false_or, or_false, true_and, and_true]; done) | (simp (disch := omega) only [decide_eq_true_eq, decide_eq_false_iff_not, Bool.not_eq_true', Bool.not_eq_false', Bool.and_eq_true, Bool.and_eq_false_iff, Int.not_lt, Int.not_le, ne_eq, not_false_eq_true, not_true_eq_false, reduceCtorEq, Bool.true_eq_false, Bool.false_eq_true, beq_iff_eq, bne_iff_ne, beq_eq_false_iff_ne, false_or, or_false, true_and, and_true] at hx; first | (exfalso; omega) | skip) | skip)
    | trivial
    | exact fit_ofL _ _
    | (simp (disch := omega) only [notAgg_v, notAgg_sl, plain_v, fits, fitsOne, fitsCells, xsOf, cell_zero, cell_succ, List.range, List.range.loop, List.map, cond_true, cond_false, D.v.injEq, exists_eq', exists_eq, and_self, and_true, true_and, D.agg.injEq, List.length, exists_eq_left', D.sl.injEq, reduceCtorEq, false_or, true_or, or_true, or_false, cell_zero, cell_succ, cell_v, cells_v, cells_agg, List.length_cons, List.length_nil]; done))
  all_goals first
    | (exfalso; omega)
    | omega
    | rfl
    | exact ⟨_, rfl⟩
    | exact notAgg_v _
    | (simp only [left2]; omega)
    | (simp only [leftN]; omega)
    | (simp; done)
    | fail

theorem vc_rsum (s : List Int) : Cond Try.prog (fun _ => none) Try.f45 [str s] [.v (.int .u32 (sumF s))] = ((NotAgg (str s) ∧ True) ∧ ∃ (r : D), PureD Try.prog 53 [D.v (Value.int IntKind.u32 0), str s] [r] ∧ fits [(false, [none])] [r] ∧ ((∃ (y : Value), r = D.v y) ∧ True) ∧ [r] = [D.v (Value.int IntKind.u32 (sumF s))]) := by kernel_rfl
theorem rsum (s : List Int) (hs : Bytes s) (hl : s.length ≤ 100000) : PureD Try.prog 45 [str s] [.v (.int .u32 (sumF s))] := by
  refine pure_cond (Lp := (fun _ => none)) (by kernel_rfl) Try.func45 (by kernel_rfl) (by kernel_rfl) ?_
  rw [vc_rsum s]
  have M := rmore 0 s hs hl (by omega) (by omega)
  repeat' (first
    | (refine ex_some (by simp (disch := omega) only [bin_shr, bin_shl, bin_and, bin_or, bin_xor, len_str, toStr_ofL, bin_add, bin_sub, bin_mul, bin_quo, bin_rem, bin_lss, bin_leq, bin_gtr, bin_geq, bin_eql, bin_neq, eqs_cn, eqs_ci, eqs_cb, eqs_cs, Option.map_some, lenT_ofL, lst_ofL, lstSz_ofL, chunk_one, lst_nil, lst_sl, lstSz_sl, lstSz_nil, Bool.and_true, Bool.true_and, Bool.and_false, Bool.false_and, beq_self_eq_true, beq_bb, bne_bb, un_not, un_neg, conv_int, min2_int, max2_int, w64, w32, wu8, wu16, wu32, wu64, tdiv_nn, tmod_nn, cell_zero, cell_succ, cell_v, cells_v, cells_agg, Bool.not_true, Bool.not_false, Int.reduceLT, Int.reduceLE, Int.reduceEq, Int.reduceNeg, Int.reduceAdd, Int.reduceSub, Int.reduceMul, intOf_v, decide_true, decide_false]; rfl) ?_)
    | (refine ex_bool ?_)
    | (refine ⟨_, M, ?_⟩)
    | (refine And.intro ?_ ?_)
    | (intro hx; have hprop := (show ∀ (p : Prop), p → True from fun _ _ => True.intro) _ hx; clear hprop; first | (cases hx; done) | (exfalso; revert hx; simp (disch := omega) only [decide_eq_true_eq, decide_eq_false_iff_not, Bool.not_eq_true', Bool.not_eq_false', Bool.and_eq_true, Bool.and_eq_false_iff, Int.not_lt, Int.not_le, ne_eq, not_false_eq_true, not_true_eq_false, reduceCtorEq, Bool.true_eq_false, Bool.false_eq_true, beq_iff_eq, bne_iff_ne, beq_eq_false_iff_ne, false_or, or_false, true_and, and_true]; done) | (simp (disch := omega) only [decide_eq_true_eq, decide_eq_false_iff_not, Bool.not_eq_true', Bool.not_eq_false', Bool.and_eq_true, Bool.and_eq_false_iff, Int.not_lt, Int.not_le, ne_eq, not_false_eq_true, not_true_eq_false, reduceCtorEq, Bool.true_eq_false, Bool.false_eq_true, beq_iff_eq, bne_iff_ne, beq_eq_false_iff_ne, false_or, or_false, true_and, and_true] at hx; first | (exfalso; omega) | skip) | skip)
    | trivial
    | exact fit_ofL _ _
    | (simp (disch := omega) only [notAgg_v, notAgg_sl, plain_v, fits, fitsOne, fitsCells, xsOf, cell_zero, cell_succ, List.range, List.range.loop, List.map, cond_true, cond_false, D.v.injEq, exists_eq', exists_eq, and_self, and_true, true_and, D.agg.injEq, List.length, exists_eq_left', D.sl.injEq, reduceCtorEq, false_or, true_or, or_true, or_false, cell_zero, cell_succ, cell_v, cells_v, cells_agg, List.length_cons, List.length_nil]; done))
  all_goals first
    | (exfalso; omega)
    | omega
    | rfl
    | exact ⟨_, rfl⟩
    | exact notAgg_v _
    | (simp only [left2]; omega)
    | (simp only [leftN]; omega)
    | (simp; done)
    | fail

end Go.Proofs.Ytioodaefgpkkeaa