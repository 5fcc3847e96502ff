/-
  Layer 13: flags; what a segment may be; numbers that go round.
-/
import Derived.Test.YtbeofckoonophaaAm19
namespace Go.Proofs.Ytbeofckoonophaa
open Go.RowKit
set_option linter.unusedSimpArgs false
set_option linter.unusedVariables false


def land8 (a b : Int) : Int := ((a.toNat &&& b.toNat : Nat) : Int)
theorem and_u8 {a b : Int} (h0 : 0 ≤ a) (h1 : a < 256) (k0 : 0 ≤ b) (k1 : b < 256) : bitsI .and .u8 a b = land8 a b := by
  obtain ⟨n, rfl⟩ := Int.eq_ofNat_of_zero_le h0
  obtain ⟨m, rfl⟩ := Int.eq_ofNat_of_zero_le k0
  have e1 : BitVec.ofInt IntKind.u8.bits (n : Int) = BitVec.ofNat 8 n := rfl
  have e2 : BitVec.ofInt IntKind.u8.bits (m : Int) = BitVec.ofNat 8 m := rfl
  simp only [bitsI]
  rw [e1, e2]
  have e3 : (BitVec.ofNat 8 n &&& BitVec.ofNat 8 m).toNat = n &&& m := by
    rw [BitVec.toNat_and, BitVec.toNat_ofNat, BitVec.toNat_ofNat, Nat.mod_eq_of_lt (by omega), Nat.mod_eq_of_lt (by omega)]
  show IntKind.u8.wrap ((BitVec.ofNat 8 n &&& BitVec.ofNat 8 m).toNat : Nat) = _
  have : n &&& m ≤ n := Nat.and_le_left
  rw [e3, wu8 (by omega) (by omega)]
  simp [land8]
/-- A has all flags of b. -/
def hasB (a b : Int) : Bool := decide (land8 a b = b)
def hasR : Nat → Int → Int → Bool
  | 0, _, _ => true
  | n + 1, g, f => if g % 2 = 1 ∧ f % 2 = 0 then false else hasR n (g / 2) (f / 2)
theorem and_half (a b : Nat) : a &&& b = b ↔ (b % 2 = 1 → a % 2 = 1) ∧ (a / 2) &&& (b / 2) = b / 2 := by
  have h : ∀ a b : Nat, a &&& b = b ↔ ∀ i, b.testBit i = true → a.testBit i = true := fun a b => by
    constructor
    · intro e i hi
      have := congrArg (fun x => x.testBit i) e
      simp only [Nat.testBit_and, hi, Bool.and_true] at this
      exact this
    · intro e
      refine Nat.eq_of_testBit_eq fun i => ?_
      rw [Nat.testBit_and]
      cases hb : b.testBit i
      · simp
      · rw [e i hb]; rfl
  rw [h, h]
  constructor
  · intro e
    refine ⟨fun hb => ?_, fun i hi => ?_⟩
    · have := e 0 (by simpa [Nat.testBit_zero] using hb); simpa [Nat.testBit_zero] using this
    · have := e (i + 1) (by rw [Nat.testBit_succ]; exact hi); rwa [Nat.testBit_succ] at this
  · rintro ⟨e1, e2⟩ i hi
    cases i with
    | zero => have := e1 (by simpa [Nat.testBit_zero] using hi); simpa [Nat.testBit_zero] using this
    | succ i => rw [Nat.testBit_succ] at hi ⊢; exact e2 i hi
theorem hasR_nat : ∀ (n a b : Nat), b < 2 ^ n → hasR n (b : Int) (a : Int) = decide (a &&& b = b)
  | 0, a, b, h => by
    have : b = 0 := by simpa using h
    subst this; simp [hasR]
  | n + 1, a, b, h => by
    have ih := hasR_nat n (a / 2) (b / 2) (by rw [Nat.pow_succ] at h; omega)
    have e1 : ((b : Int) / 2) = ((b / 2 : Nat) : Int) := rfl
    have e2 : ((a : Int) / 2) = ((a / 2 : Nat) : Int) := rfl
    simp only [hasR]
    rw [e1, e2, ih]
    by_cases hc : b % 2 = 1 ∧ a % 2 = 0
    · rw [if_pos (by omega)]
      symm; rw [decide_eq_false_iff_not]
      intro e
      have := (and_half a b).1 e
      omega
    · rw [if_neg (by omega)]
      rw [decide_eq_decide]
      constructor
      · intro e; exact (and_half a b).2 ⟨by omega, e⟩
      · intro e; exact ((and_half a b).1 e).2
theorem hasR_eq {a b : Int} (h0 : 0 ≤ a) (k0 : 0 ≤ b) (k1 : b < 256) : hasR 8 b a = hasB a b := by
  obtain ⟨n, rfl⟩ := Int.eq_ofNat_of_zero_le h0
  obtain ⟨m, rfl⟩ := Int.eq_ofNat_of_zero_le k0
  rw [hasR_nat 8 n m (by simp; omega)]
  unfold hasB land8
  rw [decide_eq_decide]
  simp only [Int.toNat_natCast]
  omega
theorem fin8 {p : Int → Prop} (h : ∀ a : Fin 256, p ((a.val : Nat) : Int)) {a : Int} (h0 : 0 ≤ a) (h1 : a < 256) : p a := by
  obtain ⟨n, rfl⟩ := Int.eq_ofNat_of_zero_le h0
  exact h ⟨n, by omega⟩
theorem andn31 {a : Int} (h0 : 0 ≤ a) (h1 : a < 256) : (bitsI .andNot .u8 a 31 = 0 ∧ a ≤ 31) ∨ (bitsI .andNot .u8 a 31 ≠ 0 ∧ 31 < a) := fin8 (p := fun a => (bitsI .andNot .u8 a 31 = 0 ∧ a ≤ 31) ∨ (bitsI .andNot .u8 a 31 ≠ 0 ∧ 31 < a)) (by decide +kernel) h0 h1
theorem and9 {a : Int} (h0 : 0 ≤ a) (h1 : a < 256) : (decide (bitsI .and .u8 a 9 = 0)) = (!hasB a 1 && !hasB a 8) := fin8 (p := fun a => (decide (bitsI .and .u8 a 9 = 0)) = (!hasB a 1 && !hasB a 8)) (by decide +kernel) h0 h1
theorem bin_andn (k : IntKind) (a b : Int) : D.bin .andNot (.v (.int k a)) (.v (.int k b)) = some (.v (.int k (bitsI .andNot k a b))) := by simp [D.bin, sbin, ibin]
def prs (zs : List (Int × Int)) : List D := zs.map fun z => .agg [.v (.int .u32 z.1), .v (.int .u32 z.2)]
theorem prs_len (zs : List (Int × Int)) : (prs zs).length = zs.length := by simp [prs]
theorem len_ba (s : ByteArray) : D.lenT .string (.v (.string s)) = some (.v (.int .i64 (s.size : Nat))) := rfl
/-- What a segment may be. -/
def sgChk (fl pa ep ak wi : Int) (ns nd : Nat) : Int :=
  if 31 < fl then 12 else if pa < 0 ∨ 4 ≤ pa ∨ ep < 0 ∨ 65535 < ep ∨ wi < 0 ∨ 65535 < wi then 8 else if 3 < ns ∨ 48 < nd then 5
  else if (hasB fl 2 = false ∧ (0 < ns ∨ ak ≠ 0)) ∨ ((hasB fl 1 = true ∨ hasB fl 8 = true) ∧ nd ≠ 0) then 4 else 0
def lm8 : List D → Nat
  | _ => 0

theorem vc_has (fl pa ep sq ak wi : Int) (x : D) (zs : List (Int × Int)) (s : List Int) (g : Int) : Cond Try.prog (fun _ => none) Try.f31 [.agg [.v (.int .u8 fl), .v (.int .i64 pa), .v (.int .i64 ep), .v (.int .u32 sq), .v (.int .u32 ak), .v (.int .i64 wi), x, str s], .v (.int .u8 g)] [.v (.bool (hasB fl g))] = (((∃ (cs : List D), D.agg [D.v (Value.int IntKind.u8 fl), D.v (Value.int IntKind.i64 pa), D.v (Value.int IntKind.i64 ep), D.v (Value.int IntKind.u32 sq), D.v (Value.int IntKind.u32 ak), D.v (Value.int IntKind.i64 wi), x, str s] = D.agg cs ∧ cs.length = 8) ∧ NotAgg (D.v (Value.int IntKind.u8 g)) ∧ True) ∧ ∃ (r : D), D.bin BinOp.and (D.v (Value.int IntKind.u8 fl)) (D.v (Value.int IntKind.u8 g)) = some r ∧ ∃ (r_1 : D), D.bin BinOp.eql r (D.v (Value.int IntKind.u8 g)) = some r_1 ∧ ((∃ (y : Value), r_1 = D.v y) ∧ True) ∧ [r_1] = [D.v (Value.bool (hasB fl g))]) := by kernel_rfl
theorem has (fl pa ep sq ak wi : Int) (x : D) (zs : List (Int × Int)) (s : List Int) (g : Int) (hX : IsL 2 (prs zs) x) (hl : zs.length ≤ 100000) (hs : Bytes s) (hsl : s.length ≤ 100000) (f0 : 0 ≤ fl) (f1 : fl < 256) (g0 : 0 ≤ g) (g1 : g < 256) : PureD Try.prog 31 [.agg [.v (.int .u8 fl), .v (.int .i64 pa), .v (.int .i64 ep), .v (.int .u32 sq), .v (.int .u32 ak), .v (.int .i64 wi), x, str s], .v (.int .u8 g)] [.v (.bool (hasB fl g))] := by
  refine pure_cond (Lp := (fun _ => none)) (by kernel_rfl) Try.func31 (by kernel_rfl) (by kernel_rfl) ?_
  rw [vc_has fl pa ep sq ak wi x zs s g]
  have h1 := and_u8 f0 f1 g0 g1
  repeat' (first
    | (refine ex_some (by simp (disch := omega) only [bin_shr, bin_shl, bin_and, bin_or, bin_xor, len_str, toStr_ofL, bin_add, bin_sub, bin_mul, bin_quo, bin_rem, bin_lss, bin_leq, bin_gtr, bin_geq, bin_eql, bin_neq, eqs_cn, eqs_ci, eqs_cb, eqs_cs, Option.map_some, lenT_ofL, lst_ofL, lstSz_ofL, chunk_one, lst_nil, lst_sl, lstSz_sl, lstSz_nil, Bool.and_true, Bool.true_and, Bool.and_false, Bool.false_and, beq_self_eq_true, beq_bb, bne_bb, un_not, un_neg, conv_int, min2_int, max2_int, w64, w32, wu8, wu16, wu32, wu64, tdiv_nn, tmod_nn, cell_zero, cell_succ, cell_v, cells_v, cells_agg, Bool.not_true, Bool.not_false, Int.reduceLT, Int.reduceLE, Int.reduceEq, Int.reduceNeg, Int.reduceAdd, Int.reduceSub, Int.reduceMul, intOf_v, decide_true, decide_false, h1]; rfl) ?_)
    | (refine ex_bool ?_)
    | (refine And.intro ?_ ?_)
    | (intro hx; have hprop := (show ∀ (p : Prop), p → True from fun _ _ => True.intro) _ hx; clear hprop; first | (cases hx; done) | (exfalso; revert hx; simp (disch := omega) only [decide_eq_true_eq, decide_eq_false_iff_not, Bool.not_eq_true', Bool.not_eq_false', Bool.and_eq_true, Bool.and_eq_false_iff, Int.not_lt, Int.not_le, ne_eq, not_false_eq_true, not_true_eq_false, reduceCtorEq, Bool.true_eq_false, Bool.false_eq_true, beq_iff_eq, bne_iff_ne, beq_eq_false_iff_ne, false_or, or_false, true_and, and_true, h1]; done) | (simp (disch := omega) only [decide_eq_true_eq, decide_eq_false_iff_not, Bool.not_eq_true', Bool.not_eq_false', Bool.and_eq_true, Bool.and_eq_false_iff, Int.not_lt, Int.not_le, ne_eq, not_false_eq_true, not_true_eq_false, reduceCtorEq, Bool.true_eq_false, Bool.false_eq_true, beq_iff_eq, bne_iff_ne, beq_eq_false_iff_ne, false_or, or_false, true_and, and_true, h1] at hx; first | (exfalso; omega) | skip) | skip)
    | trivial
    | exact fit_ofL _ _
    | (simp (disch := omega) only [notAgg_v, notAgg_sl, plain_v, fits, fitsOne, fitsCells, xsOf, cell_zero, cell_succ, List.range, List.range.loop, List.map, cond_true, cond_false, D.v.injEq, exists_eq', exists_eq, and_self, and_true, true_and, D.agg.injEq, List.length, exists_eq_left', D.sl.injEq, reduceCtorEq, false_or, true_or, or_true, or_false, cell_zero, cell_succ, cell_v, cells_v, cells_agg, List.length_cons, List.length_nil, h1]; done))
  all_goals first
    | (exfalso; omega)
    | omega
    | rfl
    | (rw [h1]; rfl)
    | exact ⟨_, rfl⟩
    | (simp; done)
    | fail

end Go.Proofs.Ytbeofckoonophaa