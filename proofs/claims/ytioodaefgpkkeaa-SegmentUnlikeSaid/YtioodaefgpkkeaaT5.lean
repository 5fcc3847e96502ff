/-
  Layer 7: numbers by the document; flags; what segments may be.
-/
import Derived.Test.YtioodaefgpkkeaaT1
import Derived.Test.YtioodaefgpkkeaaT2
import Derived.Test.YtioodaefgpkkeaaT3
import Derived.Test.YtioodaefgpkkeaaT4
namespace Go.Proofs.Ytioodaefgpkkeaa
open Go.RowKit
set_option linter.unusedSimpArgs false
set_option linter.unusedVariables false


def land8 (a b : Int) : Int := ((a.toNat &&& b.toNat : Nat) : Int)
theorem and_u8 {a b : Int} (h0 : 0 ≤ a) (h1 : a < 256) (k0 : 0 ≤ b) (k1 : b < 256) : bitsI .and .u8 a b = land8 a b := by
  obtain ⟨n, rfl⟩ := Int.eq_ofNat_of_zero_le h0
  obtain ⟨m, rfl⟩ := Int.eq_ofNat_of_zero_le k0
  have e1 : BitVec.ofInt IntKind.u8.bits (n : Int) = BitVec.ofNat 8 n := rfl
  have e2 : BitVec.ofInt IntKind.u8.bits (m : Int) = BitVec.ofNat 8 m := rfl
  simp only [bitsI]
  rw [e1, e2]
  have e3 : (BitVec.ofNat 8 n &&& BitVec.ofNat 8 m).toNat = n &&& m := by
    rw [BitVec.toNat_and, BitVec.toNat_ofNat, BitVec.toNat_ofNat, Nat.mod_eq_of_lt (by omega), Nat.mod_eq_of_lt (by omega)]
  show IntKind.u8.wrap ((BitVec.ofNat 8 n &&& BitVec.ofNat 8 m).toNat : Nat) = _
  have : n &&& m ≤ n := Nat.and_le_left
  rw [e3, wu8 (by omega) (by omega)]
  simp [land8]
/-- A has all flags of b. -/
def hasB (a b : Int) : Bool := decide (land8 a b = b)
def hasR : Nat → Int → Int → Bool
  | 0, _, _ => true
  | n + 1, g, f => if g % 2 = 1 ∧ f % 2 = 0 then false else hasR n (g / 2) (f / 2)
theorem and_half (a b : Nat) : a &&& b = b ↔ (b % 2 = 1 → a % 2 = 1) ∧ (a / 2) &&& (b / 2) = b / 2 := by
  have h : ∀ a b : Nat, a &&& b = b ↔ ∀ i, b.testBit i = true → a.testBit i = true := fun a b => by
    constructor
    · intro e i hi
      have := congrArg (fun x => x.testBit i) e
      simp only [Nat.testBit_and, hi, Bool.and_true] at this
      exact this
    · intro e
      refine Nat.eq_of_testBit_eq fun i => ?_
      rw [Nat.testBit_and]
      cases hb : b.testBit i
      · simp
      · rw [e i hb]; rfl
  rw [h, h]
  constructor
  · intro e
    refine ⟨fun hb => ?_, fun i hi => ?_⟩
    · have := e 0 (by simpa [Nat.testBit_zero] using hb); simpa [Nat.testBit_zero] using this
    · have := e (i + 1) (by rw [Nat.testBit_succ]; exact hi); rwa [Nat.testBit_succ] at this
  · rintro ⟨e1, e2⟩ i hi
    cases i with
    | zero => have := e1 (by simpa [Nat.testBit_zero] using hi); simpa [Nat.testBit_zero] using this
    | succ i => rw [Nat.testBit_succ] at hi ⊢; exact e2 i hi
theorem hasR_nat : ∀ (n a b : Nat), b < 2 ^ n → hasR n (b : Int) (a : Int) = decide (a &&& b = b)
  | 0, a, b, h => by
    have : b = 0 := by simpa using h
    subst this; simp [hasR]
  | n + 1, a, b, h => by
    have ih := hasR_nat n (a / 2) (b / 2) (by rw [Nat.pow_succ] at h; omega)
    have e1 : ((b : Int) / 2) = ((b / 2 : Nat) : Int) := rfl
    have e2 : ((a : Int) / 2) = ((a / 2 : Nat) : Int) := rfl
    simp only [hasR]
    rw [e1, e2, ih]
    by_cases hc : b % 2 = 1 ∧ a % 2 = 0
    · rw [if_pos (by omega)]
      symm; rw [decide_eq_false_iff_not]
      intro e
      have := (and_half a b).1 e
      omega
    · rw [if_neg (by omega)]
      rw [decide_eq_decide]
      constructor
      · intro e; exact (and_half a b).2 ⟨by omega, e⟩
      · intro e; exact ((and_half a b).1 e).2
theorem hasR_eq {a b : Int} (h0 : 0 ≤ a) (k0 : 0 ≤ b) (k1 : b < 256) : hasR 8 b a = hasB a b := by
  obtain ⟨n, rfl⟩ := Int.eq_ofNat_of_zero_le h0
  obtain ⟨m, rfl⟩ := Int.eq_ofNat_of_zero_le k0
  rw [hasR_nat 8 n m (by simp; omega)]
  unfold hasB land8
  rw [decide_eq_decide]
  simp only [Int.toNat_natCast]
  omega
theorem fin8 {p : Int → Prop} (h : ∀ a : Fin 256, p ((a.val : Nat) : Int)) {a : Int} (h0 : 0 ≤ a) (h1 : a < 256) : p a := by
  obtain ⟨n, rfl⟩ := Int.eq_ofNat_of_zero_le h0
  exact h ⟨n, by omega⟩
theorem andn31 {a : Int} (h0 : 0 ≤ a) (h1 : a < 256) : (bitsI .andNot .u8 a 31 = 0 ∧ a ≤ 31) ∨ (bitsI .andNot .u8 a 31 ≠ 0 ∧ 31 < a) := fin8 (p := fun a => (bitsI .andNot .u8 a 31 = 0 ∧ a ≤ 31) ∨ (bitsI .andNot .u8 a 31 ≠ 0 ∧ 31 < a)) (by decide +kernel) h0 h1
theorem and9 {a : Int} (h0 : 0 ≤ a) (h1 : a < 256) : (decide (bitsI .and .u8 a 9 = 0)) = (!hasB a 1 && !hasB a 8) := fin8 (p := fun a => (decide (bitsI .and .u8 a 9 = 0)) = (!hasB a 1 && !hasB a 8)) (by decide +kernel) h0 h1
theorem bin_andn (k : IntKind) (a b : Int) : D.bin .andNot (.v (.int k a)) (.v (.int k b)) = some (.v (.int k (bitsI .andNot k a b))) := by simp [D.bin, sbin, ibin]
def prs (zs : List (Int × Int)) : List D := zs.map fun z => .agg [.v (.int .u32 z.1), .v (.int .u32 z.2)]
theorem prs_len (zs : List (Int × Int)) : (prs zs).length = zs.length := by simp [prs]
theorem len_ba (s : ByteArray) : D.lenT .string (.v (.string s)) = some (.v (.int .i64 (s.size : Nat))) := rfl
/-- What a segment may be. -/
def sgChk (fl pa ep ak wi : Int) (ns nd : Nat) : Int :=
  if 31 < fl then 12 else if pa < 0 ∨ 4 ≤ pa ∨ ep < 0 ∨ 65535 < ep ∨ wi < 0 ∨ 65535 < wi then 8 else if 3 < ns ∨ 48 < nd then 5
  else if (hasB fl 2 = false ∧ (0 < ns ∨ ak ≠ 0)) ∨ ((hasB fl 1 = true ∨ hasB fl 8 = true) ∧ nd ≠ 0) then 4 else 0
def lm8 : List D → Nat
  | _ => 0

theorem ne_empty {s : List Int} (hs : Bytes s) : D.bin .neq (str s) (.v (.string ⟨⟨[]⟩⟩)) = some (.v (.bool (decide (s.length ≠ 0)))) := by
  have := bin_sneq hs Bytes.nil
  rw [show (!decide (s = [])) = decide (s.length ≠ 0) by cases s <;> simp] at this
  exact this
def left8 : List D → Nat
  | .v (.int _ i) :: _ => 8 - i.toNat
  | _ => 0
theorem has_land (a b : Int) : hasB a b = decide (land8 a b = b) := rfl

def spanF (fl : Int) (n : Nat) : Int := (n : Nat) + (if hasB fl 1 = true then 1 else 0) + (if hasB fl 4 = true then 1 else 0)

theorem vc_rnumber (l : List Int) (a e : Int) (n : Int) : Cond Try.prog (fun k => if k = 7 then some ⟨[9, 8], [], [4, 6, 7], []⟩ else none) Try.f38 [.agg [str (l), .v (.int .i64 (a)), .v (.int .i64 (e))], .v (.int .i64 n)] [.agg [str (l), .v (.int .i64 ((cuF l a e n true).1.1)), .v (.int .i64 ((cuF l a e n true).1.2))], .v (.int .i64 (vN (cuF l a e n true).2))] = (((∃ (cs : List D), D.agg [str l, D.v (Value.int IntKind.i64 a), D.v (Value.int IntKind.i64 e)] = D.agg cs ∧ cs.length = 3) ∧ NotAgg (D.v (Value.int IntKind.i64 n)) ∧ True) ∧ ∃ (r : D), D.bin BinOp.eql (D.v (Value.int IntKind.i64 e)) (D.v (Value.int IntKind.i64 0)) = some r ∧ ∃ (b : Bool), r = D.v (Value.bool b) ∧ (b = true → ∃ (r : D), PureD Try.prog 50 [D.agg [str l, D.v (Value.int IntKind.i64 a), D.v (Value.int IntKind.i64 e)]] [r] ∧ fits [(false, [none])] [r] ∧ ∃ (b : Bool), r = D.v (Value.bool b) ∧ (b = true → ∃ (r : D), D.bin BinOp.lss (D.v (Value.int IntKind.i64 n)) (D.v (Value.int IntKind.i64 1)) = some r ∧ ∃ (b : Bool), r = D.v (Value.bool b) ∧ (b = false → ∃ (r : D), D.bin BinOp.gtr (D.v (Value.int IntKind.i64 n)) (D.v (Value.int IntKind.i64 7)) = some r ∧ ∃ (b : Bool), r = D.v (Value.bool b) ∧ (b = true → ((∃ (y : Value), str l = D.v y) ∧ (∃ (y : Value), D.v (Value.int IntKind.i64 a) = D.v y) ∧ True ∧ True ∧ True) ∧ [D.agg [str l, D.v (Value.int IntKind.i64 a), D.v (Value.int IntKind.i64 2)], D.v (Value.int IntKind.i64 0)] = [D.agg [str l, D.v (Value.int IntKind.i64 (cuF l a e n true).fst.fst), D.v (Value.int IntKind.i64 (cuF l a e n true).fst.snd)], D.v (Value.int IntKind.i64 (vN (cuF l a e n true).2))]) ∧ (b = false → ∃ (r : D), ∃ (r_1 : D), PureD Try.prog 39 [D.agg [str l, D.v (Value.int IntKind.i64 a), D.v (Value.int IntKind.i64 e)], D.v (Value.int IntKind.i64 n)] [r, r_1] ∧ fits [(true, [none, none, none]), (false, [none])] [r, r_1] ∧ ∃ (I : List D → Prop), ∃ (μ : List D → Nat), ((D.v (Value.int IntKind.i64 0) = D.v (Value.int IntKind.i64 0) ∧ D.v (Value.int IntKind.i64 0) = D.v (Value.int IntKind.i64 0) ∧ (true = true ∧ true = true) ∧ (true = true ∧ true = true) ∧ r_1 = r_1 ∧ True) ∧ ((D.v (Value.string { data := { toList := [] } }) = D.v (Value.string { data := { toList := [] } }) ∧ D.v (Value.int IntKind.i64 0) = D.v (Value.int IntKind.i64 0) ∧ D.v (Value.int IntKind.i64 0) = D.v (Value.int IntKind.i64 0) ∧ True) ∧ (r.cell 0 = r.cell 0 ∧ r.cell 1 = r.cell 1 ∧ r.cell 2 = r.cell 2 ∧ True) ∧ True) ∧ I [D.v (Value.int IntKind.i64 0), D.v (Value.int IntKind.i64 0)]) ∧ ∀ (r_2 r_3 : D), I [r_2, r_3] → ∃ (r_4 : D), D.lenT TypeDesc.string r_1 = some r_4 ∧ ∃ (r_5 : D), D.bin BinOp.lss r_2 r_4 = some r_5 ∧ ∃ (b : Bool), r_5 = D.v (Value.bool b) ∧ (b = true → ∃ (r_6 : D), D.bin BinOp.mul (D.v (Value.int IntKind.i64 256)) r_3 = some r_6 ∧ r_1.sinb r_2 ∧ ∃ (r_7 : D), D.conv IntKind.i64 (r_1.byteAt r_2) = some r_7 ∧ ∃ (r_8 : D), D.bin BinOp.add r_6 r_7 = some r_8 ∧ ∃ (r_9 : D), D.bin BinOp.add r_2 (D.v (Value.int IntKind.i64 1)) = some r_9 ∧ (r_9 = r_9 ∧ r_8 = r_8 ∧ (true = true ∧ true = true) ∧ (true = true ∧ true = true) ∧ r_1 = r_1 ∧ True) ∧ ((D.v (Value.string { data := { toList := [] } }) = D.v (Value.string { data := { toList := [] } }) ∧ D.v (Value.int IntKind.i64 0) = D.v (Value.int IntKind.i64 0) ∧ D.v (Value.int IntKind.i64 0) = D.v (Value.int IntKind.i64 0) ∧ True) ∧ (r.cell 0 = r.cell 0 ∧ r.cell 1 = r.cell 1 ∧ r.cell 2 = r.cell 2 ∧ True) ∧ True) ∧ I [r_9, r_8] ∧ μ [r_9, r_8] < μ [r_2, r_3]) ∧ (b = false → ((∃ (y : Value), r.cell 0 = D.v y) ∧ (∃ (y : Value), r.cell 1 = D.v y) ∧ (∃ (y : Value), r.cell 2 = D.v y) ∧ (∃ (y : Value), r_3 = D.v y) ∧ True) ∧ [D.agg [r.cell 0, r.cell 1, r.cell 2], r_3] = [D.agg [str l, D.v (Value.int IntKind.i64 (cuF l a e n true).fst.fst), D.v (Value.int IntKind.i64 (cuF l a e n true).fst.snd)], D.v (Value.int IntKind.i64 (vN (cuF l a e n true).2))]))) ∧ (b = true → ((∃ (y : Value), str l = D.v y) ∧ (∃ (y : Value), D.v (Value.int IntKind.i64 a) = D.v y) ∧ True ∧ True ∧ True) ∧ [D.agg [str l, D.v (Value.int IntKind.i64 a), D.v (Value.int IntKind.i64 2)], D.v (Value.int IntKind.i64 0)] = [D.agg [str l, D.v (Value.int IntKind.i64 (cuF l a e n true).fst.fst), D.v (Value.int IntKind.i64 (cuF l a e n true).fst.snd)], D.v (Value.int IntKind.i64 (vN (cuF l a e n true).2))])) ∧ (b = false → ∃ (r : D), ∃ (r_1 : D), PureD Try.prog 39 [D.agg [str l, D.v (Value.int IntKind.i64 a), D.v (Value.int IntKind.i64 e)], D.v (Value.int IntKind.i64 n)] [r, r_1] ∧ fits [(true, [none, none, none]), (false, [none])] [r, r_1] ∧ ∃ (I : List D → Prop), ∃ (μ : List D → Nat), ((D.v (Value.int IntKind.i64 0) = D.v (Value.int IntKind.i64 0) ∧ D.v (Value.int IntKind.i64 0) = D.v (Value.int IntKind.i64 0) ∧ (true = true ∧ true = true) ∧ (true = true ∧ true = true) ∧ r_1 = r_1 ∧ True) ∧ ((D.v (Value.string { data := { toList := [] } }) = D.v (Value.string { data := { toList := [] } }) ∧ D.v (Value.int IntKind.i64 0) = D.v (Value.int IntKind.i64 0) ∧ D.v (Value.int IntKind.i64 0) = D.v (Value.int IntKind.i64 0) ∧ True) ∧ (r.cell 0 = r.cell 0 ∧ r.cell 1 = r.cell 1 ∧ r.cell 2 = r.cell 2 ∧ True) ∧ True) ∧ I [D.v (Value.int IntKind.i64 0), D.v (Value.int IntKind.i64 0)]) ∧ ∀ (r_2 r_3 : D), I [r_2, r_3] → ∃ (r_4 : D), D.lenT TypeDesc.string r_1 = some r_4 ∧ ∃ (r_5 : D), D.bin BinOp.lss r_2 r_4 = some r_5 ∧ ∃ (b : Bool), r_5 = D.v (Value.bool b) ∧ (b = true → ∃ (r_6 : D), D.bin BinOp.mul (D.v (Value.int IntKind.i64 256)) r_3 = some r_6 ∧ r_1.sinb r_2 ∧ ∃ (r_7 : D), D.conv IntKind.i64 (r_1.byteAt r_2) = some r_7 ∧ ∃ (r_8 : D), D.bin BinOp.add r_6 r_7 = some r_8 ∧ ∃ (r_9 : D), D.bin BinOp.add r_2 (D.v (Value.int IntKind.i64 1)) = some r_9 ∧ (r_9 = r_9 ∧ r_8 = r_8 ∧ (true = true ∧ true = true) ∧ (true = true ∧ true = true) ∧ r_1 = r_1 ∧ True) ∧ ((D.v (Value.string { data := { toList := [] } }) = D.v (Value.string { data := { toList := [] } }) ∧ D.v (Value.int IntKind.i64 0) = D.v (Value.int IntKind.i64 0) ∧ D.v (Value.int IntKind.i64 0) = D.v (Value.int IntKind.i64 0) ∧ True) ∧ (r.cell 0 = r.cell 0 ∧ r.cell 1 = r.cell 1 ∧ r.cell 2 = r.cell 2 ∧ True) ∧ True) ∧ I [r_9, r_8] ∧ μ [r_9, r_8] < μ [r_2, r_3]) ∧ (b = false → ((∃ (y : Value), r.cell 0 = D.v y) ∧ (∃ (y : Value), r.cell 1 = D.v y) ∧ (∃ (y : Value), r.cell 2 = D.v y) ∧ (∃ (y : Value), r_3 = D.v y) ∧ True) ∧ [D.agg [r.cell 0, r.cell 1, r.cell 2], r_3] = [D.agg [str l, D.v (Value.int IntKind.i64 (cuF l a e n true).fst.fst), D.v (Value.int IntKind.i64 (cuF l a e n true).fst.snd)], D.v (Value.int IntKind.i64 (vN (cuF l a e n true).2))]))) ∧ (b = false → ∃ (r : D), ∃ (r_1 : D), PureD Try.prog 39 [D.agg [str l, D.v (Value.int IntKind.i64 a), D.v (Value.int IntKind.i64 e)], D.v (Value.int IntKind.i64 n)] [r, r_1] ∧ fits [(true, [none, none, none]), (false, [none])] [r, r_1] ∧ ∃ (I : List D → Prop), ∃ (μ : List D → Nat), ((D.v (Value.int IntKind.i64 0) = D.v (Value.int IntKind.i64 0) ∧ D.v (Value.int IntKind.i64 0) = D.v (Value.int IntKind.i64 0) ∧ (true = true ∧ true = true) ∧ (true = true ∧ true = true) ∧ r_1 = r_1 ∧ True) ∧ ((D.v (Value.string { data := { toList := [] } }) = D.v (Value.string { data := { toList := [] } }) ∧ D.v (Value.int IntKind.i64 0) = D.v (Value.int IntKind.i64 0) ∧ D.v (Value.int IntKind.i64 0) = D.v (Value.int IntKind.i64 0) ∧ True) ∧ (r.cell 0 = r.cell 0 ∧ r.cell 1 = r.cell 1 ∧ r.cell 2 = r.cell 2 ∧ True) ∧ True) ∧ I [D.v (Value.int IntKind.i64 0), D.v (Value.int IntKind.i64 0)]) ∧ ∀ (r_2 r_3 : D), I [r_2, r_3] → ∃ (r_4 : D), D.lenT TypeDesc.string r_1 = some r_4 ∧ ∃ (r_5 : D), D.bin BinOp.lss r_2 r_4 = some r_5 ∧ ∃ (b : Bool), r_5 = D.v (Value.bool b) ∧ (b = true → ∃ (r_6 : D), D.bin BinOp.mul (D.v (Value.int IntKind.i64 256)) r_3 = some r_6 ∧ r_1.sinb r_2 ∧ ∃ (r_7 : D), D.conv IntKind.i64 (r_1.byteAt r_2) = some r_7 ∧ ∃ (r_8 : D), D.bin BinOp.add r_6 r_7 = some r_8 ∧ ∃ (r_9 : D), D.bin BinOp.add r_2 (D.v (Value.int IntKind.i64 1)) = some r_9 ∧ (r_9 = r_9 ∧ r_8 = r_8 ∧ (true = true ∧ true = true) ∧ (true = true ∧ true = true) ∧ r_1 = r_1 ∧ True) ∧ ((D.v (Value.string { data := { toList := [] } }) = D.v (Value.string { data := { toList := [] } }) ∧ D.v (Value.int IntKind.i64 0) = D.v (Value.int IntKind.i64 0) ∧ D.v (Value.int IntKind.i64 0) = D.v (Value.int IntKind.i64 0) ∧ True) ∧ (r.cell 0 = r.cell 0 ∧ r.cell 1 = r.cell 1 ∧ r.cell 2 = r.cell 2 ∧ True) ∧ True) ∧ I [r_9, r_8] ∧ μ [r_9, r_8] < μ [r_2, r_3]) ∧ (b = false → ((∃ (y : Value), r.cell 0 = D.v y) ∧ (∃ (y : Value), r.cell 1 = D.v y) ∧ (∃ (y : Value), r.cell 2 = D.v y) ∧ (∃ (y : Value), r_3 = D.v y) ∧ True) ∧ [D.agg [r.cell 0, r.cell 1, r.cell 2], r_3] = [D.agg [str l, D.v (Value.int IntKind.i64 (cuF l a e n true).fst.fst), D.v (Value.int IntKind.i64 (cuF l a e n true).fst.snd)], D.v (Value.int IntKind.i64 (vN (cuF l a e n true).2))]))) := by kernel_rfl
set_option maxHeartbeats 4000000 in
theorem rnumber (l : List Int) (a e : Int) (n : Int) (a0 : -9223372036854775808 ≤ a) (a1 : a ≤ 9223372036854775807) (hB : Bytes l) (hl : l.length ≤ 9223372036854775807) (n0 : 1 ≤ n) (n1 : n ≤ 7) : PureD Try.prog 38 [.agg [str (l), .v (.int .i64 (a)), .v (.int .i64 (e))], .v (.int .i64 n)] [.agg [str (l), .v (.int .i64 ((cuF l a e n true).1.1)), .v (.int .i64 ((cuF l a e n true).1.2))], .v (.int .i64 (vN (cuF l a e n true).2))] := by
  refine pure_cond (Lp := (fun k => if k = 7 then some ⟨[9, 8], [], [4, 6, 7], []⟩ else none)) (by kernel_rfl) Try.func38 (by kernel_rfl) (by kernel_rfl) ?_
  rw [vc_rnumber l a e n]
  have W := rin l a e
  have T := rtake l a e n a0 a1 hB hl (by omega)
  rw [show decide (0 ≤ n) = true from decide_eq_true (by omega)] at T
  have hsB := cu_bytes hB a e n true
  have hsl : (cuF l a e n true).2.length ≤ 7 := by
    have h := cu_len l a e n true
    omega
  generalize cuF l a e n true = R at T hsB hsl
  obtain ⟨⟨p, e2⟩, t⟩ := R
  simp only at T hsB hsl
  have hw2 : True := trivial
  repeat' (first
    | (refine ex_some (by simp (disch := omega) only [bin_shr, bin_shl, bin_and, bin_or, bin_xor, len_str, toStr_ofL, bin_add, bin_sub, bin_mul, bin_quo, bin_rem, bin_lss, bin_leq, bin_gtr, bin_geq, bin_eql, bin_neq, eqs_cn, eqs_ci, eqs_cb, eqs_cs, Option.map_some, lenT_ofL, lst_ofL, lstSz_ofL, chunk_one, lst_nil, lst_sl, lstSz_sl, lstSz_nil, Bool.and_true, Bool.true_and, Bool.and_false, Bool.false_and, beq_self_eq_true, beq_bb, bne_bb, un_not, un_neg, conv_int, min2_int, max2_int, w64, w32, wu8, wu16, wu32, wu64, tdiv_nn, tmod_nn, cell_zero, cell_succ, cell_v, cells_v, cells_agg, Bool.not_true, Bool.not_false, Int.reduceLT, Int.reduceLE, Int.reduceEq, Int.reduceNeg, Int.reduceAdd, Int.reduceSub, Int.reduceMul, intOf_v, decide_true, decide_false, hw2]; rfl) ?_)
    | (refine ex_bool ?_)
    | (refine ⟨_, W, ?_⟩)
    | (refine ⟨_, _, T, ?_⟩)
    | (refine ⟨(fun r => ∃ i : Nat, i ≤ t.length ∧ r = [.v (.int .i64 (i : Nat)), .v (.int .i64 (vN (t.take i)))]), leftG t.length, ?_⟩)
    | (refine fun (r2 r3 : D) (hI : (fun r => ∃ i : Nat, i ≤ t.length ∧ r = [.v (.int .i64 (i : Nat)), .v (.int .i64 (vN (t.take i)))]) [r2, r3]) => ?_; obtain ⟨i, hi, hl0⟩ := hI; simp only [List.cons.injEq, and_true] at hl0; obtain ⟨rfl, rfl⟩ := hl0; by_cases hlt : i < t.length <;> first | (have hi1 : i < t.length := (by omega); have hw2 := byteAt_str hsB .i64 (n := i) hi1; have i2 := sinb_str (l := t) .i64 (n := (i : Nat)) (by omega) (by omega); have b2 := hsB.getD i; have hn := vN_take hi1; have hv := vN_low hsB (i := i) (by omega); generalize vN (t.take i) = q at hv hn; generalize t.getD i 0 = b at hw2 b2 hn; have inl : True := trivial) | (have hii : i = t.length := (by omega); subst hii; rw [List.take_length]; have hw2 : True := trivial; have inl2 : True := trivial))
    | (exact i2)
    | (have := inl; refine ⟨i + 1, by omega, ?_⟩)
    | (refine ⟨0, Nat.zero_le _, ?_⟩)
    | (refine And.intro ?_ ?_)
    | (intro hx; have hprop := (show ∀ (p : Prop), p → True from fun _ _ => True.intro) _ hx; clear hprop; first | (cases hx; done) | (exfalso; revert hx; simp (disch := omega) only [decide_eq_true_eq, decide_eq_false_iff_not, Bool.not_eq_true', Bool.not_eq_false', Bool.and_eq_true, Bool.and_eq_false_iff, Int.not_lt, Int.not_le, ne_eq, not_false_eq_true, not_true_eq_false, reduceCtorEq, Bool.true_eq_false, Bool.false_eq_true, beq_iff_eq, bne_iff_ne, beq_eq_false_iff_ne, false_or, or_false, true_and, and_true, hw2]; done) | (simp (disch := omega) only [decide_eq_true_eq, decide_eq_false_iff_not, Bool.not_eq_true', Bool.not_eq_false', Bool.and_eq_true, Bool.and_eq_false_iff, Int.not_lt, Int.not_le, ne_eq, not_false_eq_true, not_true_eq_false, reduceCtorEq, Bool.true_eq_false, Bool.false_eq_true, beq_iff_eq, bne_iff_ne, beq_eq_false_iff_ne, false_or, or_false, true_and, and_true, hw2] at hx; first | (exfalso; omega) | skip) | skip)
    | trivial
    | exact fit_ofL _ _
    | (simp (disch := omega) only [notAgg_v, notAgg_sl, plain_v, fits, fitsOne, fitsCells, xsOf, cell_zero, cell_succ, List.range, List.range.loop, List.map, cond_true, cond_false, D.v.injEq, exists_eq', exists_eq, and_self, and_true, true_and, D.agg.injEq, List.length, exists_eq_left', D.sl.injEq, reduceCtorEq, false_or, true_or, or_true, or_false, cell_zero, cell_succ, cell_v, cells_v, cells_agg, List.length_cons, List.length_nil, hw2]; done))
  all_goals first
    | (exfalso; omega)
    | omega
    | rfl
    | (rw [hn, Int.mul_comm]; done)
    | (rw [hn, Int.mul_comm]; rfl)
    | exact ⟨_, rfl⟩
    | exact notAgg_v _
    | (simp only [leftG]; omega)
    | (simp; done)
    | fail

theorem vc_has (fl pa ep sq ak wi : Int) (x : D) (zs : List (Int × Int)) (s : List Int) (g : Int) : Cond Try.prog (fun _ => none) Try.f15 [.agg [.v (.int .u8 fl), .v (.int .i64 pa), .v (.int .i64 ep), .v (.int .u32 sq), .v (.int .u32 ak), .v (.int .i64 wi), x, str s], .v (.int .u8 g)] [.v (.bool (hasB fl g))] = (((∃ (cs : List D), D.agg [D.v (Value.int IntKind.u8 fl), D.v (Value.int IntKind.i64 pa), D.v (Value.int IntKind.i64 ep), D.v (Value.int IntKind.u32 sq), D.v (Value.int IntKind.u32 ak), D.v (Value.int IntKind.i64 wi), x, str s] = D.agg cs ∧ cs.length = 8) ∧ NotAgg (D.v (Value.int IntKind.u8 g)) ∧ True) ∧ ∃ (r : D), D.bin BinOp.and (D.v (Value.int IntKind.u8 fl)) (D.v (Value.int IntKind.u8 g)) = some r ∧ ∃ (r_1 : D), D.bin BinOp.eql r (D.v (Value.int IntKind.u8 g)) = some r_1 ∧ ((∃ (y : Value), r_1 = D.v y) ∧ True) ∧ [r_1] = [D.v (Value.bool (hasB fl g))]) := by kernel_rfl
theorem has (fl pa ep sq ak wi : Int) (x : D) (zs : List (Int × Int)) (s : List Int) (g : Int) (hX : IsL 2 (prs zs) x) (hl : zs.length ≤ 100000) (hs : Bytes s) (hsl : s.length ≤ 100000) (f0 : 0 ≤ fl) (f1 : fl < 256) (g0 : 0 ≤ g) (g1 : g < 256) : PureD Try.prog 15 [.agg [.v (.int .u8 fl), .v (.int .i64 pa), .v (.int .i64 ep), .v (.int .u32 sq), .v (.int .u32 ak), .v (.int .i64 wi), x, str s], .v (.int .u8 g)] [.v (.bool (hasB fl g))] := by
  refine pure_cond (Lp := (fun _ => none)) (by kernel_rfl) Try.func15 (by kernel_rfl) (by kernel_rfl) ?_
  rw [vc_has fl pa ep sq ak wi x zs s g]
  have h1 := and_u8 f0 f1 g0 g1
  repeat' (first
    | (refine ex_some (by simp (disch := omega) only [bin_shr, bin_shl, bin_and, bin_or, bin_xor, len_str, toStr_ofL, bin_add, bin_sub, bin_mul, bin_quo, bin_rem, bin_lss, bin_leq, bin_gtr, bin_geq, bin_eql, bin_neq, eqs_cn, eqs_ci, eqs_cb, eqs_cs, Option.map_some, lenT_ofL, lst_ofL, lstSz_ofL, chunk_one, lst_nil, lst_sl, lstSz_sl, lstSz_nil, Bool.and_true, Bool.true_and, Bool.and_false, Bool.false_and, beq_self_eq_true, beq_bb, bne_bb, un_not, un_neg, conv_int, min2_int, max2_int, w64, w32, wu8, wu16, wu32, wu64, tdiv_nn, tmod_nn, cell_zero, cell_succ, cell_v, cells_v, cells_agg, Bool.not_true, Bool.not_false, Int.reduceLT, Int.reduceLE, Int.reduceEq, Int.reduceNeg, Int.reduceAdd, Int.reduceSub, Int.reduceMul, intOf_v, decide_true, decide_false, h1]; rfl) ?_)
    | (refine ex_bool ?_)
    | (refine And.intro ?_ ?_)
    | (intro hx; have hprop := (show ∀ (p : Prop), p → True from fun _ _ => True.intro) _ hx; clear hprop; first | (cases hx; done) | (exfalso; revert hx; simp (disch := omega) only [decide_eq_true_eq, decide_eq_false_iff_not, Bool.not_eq_true', Bool.not_eq_false', Bool.and_eq_true, Bool.and_eq_false_iff, Int.not_lt, Int.not_le, ne_eq, not_false_eq_true, not_true_eq_false, reduceCtorEq, Bool.true_eq_false, Bool.false_eq_true, beq_iff_eq, bne_iff_ne, beq_eq_false_iff_ne, false_or, or_false, true_and, and_true, h1]; done) | (simp (disch := omega) only [decide_eq_true_eq, decide_eq_false_iff_not, Bool.not_eq_true', Bool.not_eq_false', Bool.and_eq_true, Bool.and_eq_false_iff, Int.not_lt, Int.not_le, ne_eq, not_false_eq_true, not_true_eq_false, reduceCtorEq, Bool.true_eq_false, Bool.false_eq_true, beq_iff_eq, bne_iff_ne, beq_eq_false_iff_ne, false_or, or_false, true_and, and_true, h1] at hx; first | (exfalso; omega) | skip) | skip)
    | trivial
    | exact fit_ofL _ _
    | (simp (disch := omega) only [notAgg_v, notAgg_sl, plain_v, fits, fitsOne, fitsCells, xsOf, cell_zero, cell_succ, List.range, List.range.loop, List.map, cond_true, cond_false, D.v.injEq, exists_eq', exists_eq, and_self, and_true, true_and, D.agg.injEq, List.length, exists_eq_left', D.sl.injEq, reduceCtorEq, false_or, true_or, or_true, or_false, cell_zero, cell_succ, cell_v, cells_v, cells_agg, List.length_cons, List.length_nil, h1]; done))
  all_goals first
    | (exfalso; omega)
    | omega
    | rfl
    | (rw [h1]; rfl)
    | exact ⟨_, rfl⟩
    | (simp; done)
    | fail

theorem vc_rhas (fl pa ep sq ak wi : Int) (x : D) (zs : List (Int × Int)) (s : List Int) (g : Int) : Cond Try.prog (fun k => if k = 3 then some ⟨[6, 1, 5], [], [], []⟩ else none) Try.f16 [.agg [.v (.int .u8 fl), .v (.int .i64 pa), .v (.int .i64 ep), .v (.int .u32 sq), .v (.int .u32 ak), .v (.int .i64 wi), x, str s], .v (.int .u8 g)] [.v (.bool (hasB fl g))] = (((∃ (cs : List D), D.agg [D.v (Value.int IntKind.u8 fl), D.v (Value.int IntKind.i64 pa), D.v (Value.int IntKind.i64 ep), D.v (Value.int IntKind.u32 sq), D.v (Value.int IntKind.u32 ak), D.v (Value.int IntKind.i64 wi), x, str s] = D.agg cs ∧ cs.length = 8) ∧ NotAgg (D.v (Value.int IntKind.u8 g)) ∧ True) ∧ ∃ (I : List D → Prop), ∃ (μ : List D → Nat), ((D.v (Value.int IntKind.i64 0) = D.v (Value.int IntKind.i64 0) ∧ D.v (Value.int IntKind.u8 g) = D.v (Value.int IntKind.u8 g) ∧ D.v (Value.int IntKind.u8 fl) = D.v (Value.int IntKind.u8 fl) ∧ True) ∧ True ∧ I [D.v (Value.int IntKind.i64 0), D.v (Value.int IntKind.u8 g), D.v (Value.int IntKind.u8 fl)]) ∧ ∀ (r r_1 r_2 : D), I [r, r_1, r_2] → ∃ (r_3 : D), D.bin BinOp.lss r (D.v (Value.int IntKind.i64 8)) = some r_3 ∧ ∃ (b : Bool), r_3 = D.v (Value.bool b) ∧ (b = true → ∃ (r_4 : D), D.bin BinOp.rem r_1 (D.v (Value.int IntKind.u8 2)) = some r_4 ∧ ∃ (r_5 : D), D.bin BinOp.eql r_4 (D.v (Value.int IntKind.u8 1)) = some r_5 ∧ ∃ (b : Bool), r_5 = D.v (Value.bool b) ∧ (b = true → ∃ (r_6 : D), D.bin BinOp.rem r_2 (D.v (Value.int IntKind.u8 2)) = some r_6 ∧ ∃ (r_7 : D), D.bin BinOp.eql r_6 (D.v (Value.int IntKind.u8 0)) = some r_7 ∧ ∃ (b : Bool), r_7 = D.v (Value.bool b) ∧ (b = true → (True ∧ True) ∧ [D.v (Value.bool false)] = [D.v (Value.bool (hasB fl g))]) ∧ (b = false → ∃ (r_8 : D), D.bin BinOp.quo r_1 (D.v (Value.int IntKind.u8 2)) = some r_8 ∧ ∃ (r_9 : D), D.bin BinOp.quo r_2 (D.v (Value.int IntKind.u8 2)) = some r_9 ∧ ∃ (r_10 : D), D.bin BinOp.add r (D.v (Value.int IntKind.i64 1)) = some r_10 ∧ (r_10 = r_10 ∧ r_8 = r_8 ∧ r_9 = r_9 ∧ True) ∧ True ∧ I [r_10, r_8, r_9] ∧ μ [r_10, r_8, r_9] < μ [r, r_1, r_2])) ∧ (b = false → ∃ (r_6 : D), D.bin BinOp.quo r_1 (D.v (Value.int IntKind.u8 2)) = some r_6 ∧ ∃ (r_7 : D), D.bin BinOp.quo r_2 (D.v (Value.int IntKind.u8 2)) = some r_7 ∧ ∃ (r_8 : D), D.bin BinOp.add r (D.v (Value.int IntKind.i64 1)) = some r_8 ∧ (r_8 = r_8 ∧ r_6 = r_6 ∧ r_7 = r_7 ∧ True) ∧ True ∧ I [r_8, r_6, r_7] ∧ μ [r_8, r_6, r_7] < μ [r, r_1, r_2])) ∧ (b = false → (True ∧ True) ∧ [D.v (Value.bool true)] = [D.v (Value.bool (hasB fl g))])) := by kernel_rfl
theorem rhas (fl pa ep sq ak wi : Int) (x : D) (zs : List (Int × Int)) (s : List Int) (g : Int) (hX : IsL 2 (prs zs) x) (hl : zs.length ≤ 100000) (hs : Bytes s) (hsl : s.length ≤ 100000) (f0 : 0 ≤ fl) (f1 : fl < 256) (g0 : 0 ≤ g) (g1 : g < 256) : PureD Try.prog 16 [.agg [.v (.int .u8 fl), .v (.int .i64 pa), .v (.int .i64 ep), .v (.int .u32 sq), .v (.int .u32 ak), .v (.int .i64 wi), x, str s], .v (.int .u8 g)] [.v (.bool (hasB fl g))] := by
  refine pure_cond (Lp := (fun k => if k = 3 then some ⟨[6, 1, 5], [], [], []⟩ else none)) (by kernel_rfl) Try.func16 (by kernel_rfl) (by kernel_rfl) ?_
  rw [vc_rhas fl pa ep sq ak wi x zs s g]
  repeat' (first
    | (refine ex_some (by simp (disch := omega) only [bin_shr, bin_shl, bin_and, bin_or, bin_xor, len_str, toStr_ofL, bin_add, bin_sub, bin_mul, bin_quo, bin_rem, bin_lss, bin_leq, bin_gtr, bin_geq, bin_eql, bin_neq, eqs_cn, eqs_ci, eqs_cb, eqs_cs, Option.map_some, lenT_ofL, lst_ofL, lstSz_ofL, chunk_one, lst_nil, lst_sl, lstSz_sl, lstSz_nil, Bool.and_true, Bool.true_and, Bool.and_false, Bool.false_and, beq_self_eq_true, beq_bb, bne_bb, un_not, un_neg, conv_int, min2_int, max2_int, w64, w32, wu8, wu16, wu32, wu64, tdiv_nn, tmod_nn, cell_zero, cell_succ, cell_v, cells_v, cells_agg, Bool.not_true, Bool.not_false, Int.reduceLT, Int.reduceLE, Int.reduceEq, Int.reduceNeg, Int.reduceAdd, Int.reduceSub, Int.reduceMul, intOf_v, decide_true, decide_false]; rfl) ?_)
    | (refine ex_bool ?_)
    | (refine ⟨(fun r => ∃ (k : Nat) (a b : Int), k ≤ 8 ∧ (0 ≤ a ∧ a < 256) ∧ (0 ≤ b ∧ b < 256) ∧ hasR (8 - k) b a = hasB fl g ∧ r = [.v (.int .i64 (k : Nat)), .v (.int .u8 b), .v (.int .u8 a)]), left8, ?_⟩)
    | (refine fun (r1 r2 r3 : D) (hI : (fun r => ∃ (k : Nat) (a b : Int), k ≤ 8 ∧ (0 ≤ a ∧ a < 256) ∧ (0 ≤ b ∧ b < 256) ∧ hasR (8 - k) b a = hasB fl g ∧ r = [.v (.int .i64 (k : Nat)), .v (.int .u8 b), .v (.int .u8 a)]) [r1, r2, r3]) => ?_; obtain ⟨k, a, b, hk, ha, hb, hr, hl0⟩ := hI; simp only [List.cons.injEq, and_true] at hl0; obtain ⟨rfl, rfl, rfl⟩ := hl0; by_cases hlt : k < 8 <;> first | (have hk1 : k < 8 := (by omega); obtain ⟨m, hm⟩ : ∃ m, 8 - k = m + 1 := ⟨7 - k, by omega⟩; rw [hm] at hr; simp only [hasR] at hr; have hm2 : 8 - (k + 1) = m := (by omega); have inl : True := trivial) | (have hkk : k = 8 := (by omega); subst hkk; have hr2 : hasB fl g = true := hr.symm; have inl2 : True := trivial))
    | (exact ⟨0, fl, g, by omega, ⟨f0, f1⟩, ⟨g0, g1⟩, hasR_eq f0 g0 g1, rfl⟩)
    | (have := inl; refine ⟨k + 1, a / 2, b / 2, by omega, by omega, by omega, ?_, ?_⟩)
    | (refine And.intro ?_ ?_)
    | (intro hx; have hprop := (show ∀ (p : Prop), p → True from fun _ _ => True.intro) _ hx; clear hprop; first | (cases hx; done) | (exfalso; revert hx; simp (disch := omega) only [decide_eq_true_eq, decide_eq_false_iff_not, Bool.not_eq_true', Bool.not_eq_false', Bool.and_eq_true, Bool.and_eq_false_iff, Int.not_lt, Int.not_le, ne_eq, not_false_eq_true, not_true_eq_false, reduceCtorEq, Bool.true_eq_false, Bool.false_eq_true, beq_iff_eq, bne_iff_ne, beq_eq_false_iff_ne, false_or, or_false, true_and, and_true]; done) | (simp (disch := omega) only [decide_eq_true_eq, decide_eq_false_iff_not, Bool.not_eq_true', Bool.not_eq_false', Bool.and_eq_true, Bool.and_eq_false_iff, Int.not_lt, Int.not_le, ne_eq, not_false_eq_true, not_true_eq_false, reduceCtorEq, Bool.true_eq_false, Bool.false_eq_true, beq_iff_eq, bne_iff_ne, beq_eq_false_iff_ne, false_or, or_false, true_and, and_true] at hx; first | (exfalso; omega) | skip) | skip)
    | trivial
    | exact fit_ofL _ _
    | (simp (disch := omega) only [notAgg_v, notAgg_sl, plain_v, fits, fitsOne, fitsCells, xsOf, cell_zero, cell_succ, List.range, List.range.loop, List.map, cond_true, cond_false, D.v.injEq, exists_eq', exists_eq, and_self, and_true, true_and, D.agg.injEq, List.length, exists_eq_left', D.sl.injEq, reduceCtorEq, false_or, true_or, or_true, or_false, cell_zero, cell_succ, cell_v, cells_v, cells_agg, List.length_cons, List.length_nil]; done))
  all_goals first
    | (exfalso; omega)
    | omega
    | rfl
    | (simp only [left8]; omega)
    | (rw [if_neg (by omega)] at hr; rw [hm2]; exact hr)
    | (rw [if_pos (by omega)] at hr; rw [← hr]; done)
    | (rw [hr2]; done)
    | exact ⟨_, rfl⟩
    | (simp; done)
    | fail

theorem vc_check (fl pa ep sq ak wi : Int) (x : D) (zs : List (Int × Int)) (s : List Int) : Cond Try.prog (fun _ => none) Try.f11 [.agg [.v (.int .u8 fl), .v (.int .i64 pa), .v (.int .i64 ep), .v (.int .u32 sq), .v (.int .u32 ak), .v (.int .i64 wi), x, str s]] [.v (.int .i64 (sgChk fl pa ep ak wi zs.length s.length))] = (((∃ (cs : List D), D.agg [D.v (Value.int IntKind.u8 fl), D.v (Value.int IntKind.i64 pa), D.v (Value.int IntKind.i64 ep), D.v (Value.int IntKind.u32 sq), D.v (Value.int IntKind.u32 ak), D.v (Value.int IntKind.i64 wi), x, str s] = D.agg cs ∧ cs.length = 8) ∧ True) ∧ ∃ (r : D), D.bin BinOp.andNot (D.v (Value.int IntKind.u8 fl)) (D.v (Value.int IntKind.u8 31)) = some r ∧ ∃ (r_1 : D), D.bin BinOp.neq r (D.v (Value.int IntKind.u8 0)) = some r_1 ∧ ∃ (b : Bool), r_1 = D.v (Value.bool b) ∧ (b = true → (True ∧ True) ∧ [D.v (Value.int IntKind.i64 12)] = [D.v (Value.int IntKind.i64 (sgChk fl pa ep ak wi zs.length s.length))]) ∧ (b = false → ∃ (r : D), D.bin BinOp.lss (D.v (Value.int IntKind.i64 pa)) (D.v (Value.int IntKind.i64 0)) = some r ∧ ∃ (b : Bool), r = D.v (Value.bool b) ∧ (b = false → ∃ (r : D), D.bin BinOp.geq (D.v (Value.int IntKind.i64 pa)) (D.v (Value.int IntKind.i64 4)) = some r ∧ ∃ (b : Bool), r = D.v (Value.bool b) ∧ (b = true → (True ∧ True) ∧ [D.v (Value.int IntKind.i64 8)] = [D.v (Value.int IntKind.i64 (sgChk fl pa ep ak wi zs.length s.length))]) ∧ (b = false → ∃ (r : D), D.bin BinOp.lss (D.v (Value.int IntKind.i64 ep)) (D.v (Value.int IntKind.i64 0)) = some r ∧ ∃ (b : Bool), r = D.v (Value.bool b) ∧ (b = false → ∃ (r : D), D.bin BinOp.gtr (D.v (Value.int IntKind.i64 ep)) (D.v (Value.int IntKind.i64 65535)) = some r ∧ ∃ (b : Bool), r = D.v (Value.bool b) ∧ (b = true → (True ∧ True) ∧ [D.v (Value.int IntKind.i64 8)] = [D.v (Value.int IntKind.i64 (sgChk fl pa ep ak wi zs.length s.length))]) ∧ (b = false → ∃ (r : D), D.bin BinOp.lss (D.v (Value.int IntKind.i64 wi)) (D.v (Value.int IntKind.i64 0)) = some r ∧ ∃ (b : Bool), r = D.v (Value.bool b) ∧ (b = false → ∃ (r : D), D.bin BinOp.gtr (D.v (Value.int IntKind.i64 wi)) (D.v (Value.int IntKind.i64 65535)) = some r ∧ ∃ (b : Bool), r = D.v (Value.bool b) ∧ (b = true → (True ∧ True) ∧ [D.v (Value.int IntKind.i64 8)] = [D.v (Value.int IntKind.i64 (sgChk fl pa ep ak wi zs.length s.length))]) ∧ (b = false → ∃ (r : D), D.lenT (TypeDesc.slice 54) x = some r ∧ ∃ (r_2 : D), D.bin BinOp.gtr r (D.v (Value.int IntKind.i64 3)) = some r_2 ∧ ∃ (b : Bool), r_2 = D.v (Value.bool b) ∧ (b = true → (True ∧ True) ∧ [D.v (Value.int IntKind.i64 5)] = [D.v (Value.int IntKind.i64 (sgChk fl pa ep ak wi zs.length s.length))]) ∧ (b = false → ∃ (r : D), D.lenT TypeDesc.string (str s) = some r ∧ ∃ (r_3 : D), D.bin BinOp.gtr r (D.v (Value.int IntKind.i64 48)) = some r_3 ∧ ∃ (b : Bool), r_3 = D.v (Value.bool b) ∧ (b = true → (True ∧ True) ∧ [D.v (Value.int IntKind.i64 5)] = [D.v (Value.int IntKind.i64 (sgChk fl pa ep ak wi zs.length s.length))]) ∧ (b = false → ∃ (r : D), PureD Try.prog 15 [D.agg [D.v (Value.int IntKind.u8 fl), D.v (Value.int IntKind.i64 pa), D.v (Value.int IntKind.i64 ep), D.v (Value.int IntKind.u32 sq), D.v (Value.int IntKind.u32 ak), D.v (Value.int IntKind.i64 wi), x, str s], D.v (Value.int IntKind.u8 2)] [r] ∧ fits [(false, [none])] [r] ∧ ∃ (r_4 : D), D.un UnOp.not r = some r_4 ∧ ∃ (b : Bool), r_4 = D.v (Value.bool b) ∧ (b = true → ∃ (r : D), D.lenT (TypeDesc.slice 54) x = some r ∧ ∃ (r_5 : D), D.bin BinOp.gtr r (D.v (Value.int IntKind.i64 0)) = some r_5 ∧ ∃ (b : Bool), r_5 = D.v (Value.bool b) ∧ (b = false → ∃ (r : D), D.bin BinOp.neq (D.v (Value.int IntKind.u32 ak)) (D.v (Value.int IntKind.u32 0)) = some r ∧ ∃ (b : Bool), r = D.v (Value.bool b) ∧ (b = true → (True ∧ True) ∧ [D.v (Value.int IntKind.i64 4)] = [D.v (Value.int IntKind.i64 (sgChk fl pa ep ak wi zs.length s.length))]) ∧ (b = false → ∃ (r : D), D.bin BinOp.and (D.v (Value.int IntKind.u8 fl)) (D.v (Value.int IntKind.u8 9)) = some r ∧ ∃ (r_6 : D), D.bin BinOp.neq r (D.v (Value.int IntKind.u8 0)) = some r_6 ∧ ∃ (b : Bool), r_6 = D.v (Value.bool b) ∧ (b = true → ∃ (r : D), D.bin BinOp.neq (str s) (D.v (Value.string { data := { toList := [] } })) = some r ∧ ∃ (b : Bool), r = D.v (Value.bool b) ∧ (b = true → (True ∧ True) ∧ [D.v (Value.int IntKind.i64 4)] = [D.v (Value.int IntKind.i64 (sgChk fl pa ep ak wi zs.length s.length))]) ∧ (b = false → (True ∧ True) ∧ [D.v (Value.int IntKind.i64 0)] = [D.v (Value.int IntKind.i64 (sgChk fl pa ep ak wi zs.length s.length))])) ∧ (b = false → (True ∧ True) ∧ [D.v (Value.int IntKind.i64 0)] = [D.v (Value.int IntKind.i64 (sgChk fl pa ep ak wi zs.length s.length))]))) ∧ (b = true → (True ∧ True) ∧ [D.v (Value.int IntKind.i64 4)] = [D.v (Value.int IntKind.i64 (sgChk fl pa ep ak wi zs.length s.length))])) ∧ (b = false → ∃ (r : D), D.bin BinOp.and (D.v (Value.int IntKind.u8 fl)) (D.v (Value.int IntKind.u8 9)) = some r ∧ ∃ (r_5 : D), D.bin BinOp.neq r (D.v (Value.int IntKind.u8 0)) = some r_5 ∧ ∃ (b : Bool), r_5 = D.v (Value.bool b) ∧ (b = true → ∃ (r : D), D.bin BinOp.neq (str s) (D.v (Value.string { data := { toList := [] } })) = some r ∧ ∃ (b : Bool), r = D.v (Value.bool b) ∧ (b = true → (True ∧ True) ∧ [D.v (Value.int IntKind.i64 4)] = [D.v (Value.int IntKind.i64 (sgChk fl pa ep ak wi zs.length s.length))]) ∧ (b = false → (True ∧ True) ∧ [D.v (Value.int IntKind.i64 0)] = [D.v (Value.int IntKind.i64 (sgChk fl pa ep ak wi zs.length s.length))])) ∧ (b = false → (True ∧ True) ∧ [D.v (Value.int IntKind.i64 0)] = [D.v (Value.int IntKind.i64 (sgChk fl pa ep ak wi zs.length s.length))])))))) ∧ (b = true → (True ∧ True) ∧ [D.v (Value.int IntKind.i64 8)] = [D.v (Value.int IntKind.i64 (sgChk fl pa ep ak wi zs.length s.length))]))) ∧ (b = true → (True ∧ True) ∧ [D.v (Value.int IntKind.i64 8)] = [D.v (Value.int IntKind.i64 (sgChk fl pa ep ak wi zs.length s.length))]))) ∧ (b = true → (True ∧ True) ∧ [D.v (Value.int IntKind.i64 8)] = [D.v (Value.int IntKind.i64 (sgChk fl pa ep ak wi zs.length s.length))]))) := by kernel_rfl
set_option maxHeartbeats 4000000 in
theorem check (fl pa ep sq ak wi : Int) (x : D) (zs : List (Int × Int)) (s : List Int) (hX : IsL 2 (prs zs) x) (hl : zs.length ≤ 100000) (hs : Bytes s) (hsl : s.length ≤ 100000) (f0 : 0 ≤ fl) (f1 : fl < 256) : PureD Try.prog 11 [.agg [.v (.int .u8 fl), .v (.int .i64 pa), .v (.int .i64 ep), .v (.int .u32 sq), .v (.int .u32 ak), .v (.int .i64 wi), x, str s]] [.v (.int .i64 (sgChk fl pa ep ak wi zs.length s.length))] := by
  refine pure_cond (Lp := (fun _ => none)) (by kernel_rfl) Try.func11 (by kernel_rfl) (by kernel_rfl) ?_
  rw [vc_check fl pa ep sq ak wi x zs s]
  have A := andn31 f0 f1
  have A9 := and9 f0 f1
  have H2 := has fl pa ep sq ak wi x zs s 2 hX hl hs hsl f0 f1 (by omega) (by omega)
  have bs := ne_empty hs
  simp only [hX.lenT, prs_len, Option.some.injEq, exists_eq_left']
  repeat' (first
    | (refine ex_some (by simp (disch := omega) only [bin_shr, bin_shl, bin_and, bin_or, bin_xor, len_str, toStr_ofL, bin_add, bin_sub, bin_mul, bin_quo, bin_rem, bin_lss, bin_leq, bin_gtr, bin_geq, bin_eql, bin_neq, eqs_cn, eqs_ci, eqs_cb, eqs_cs, Option.map_some, lenT_ofL, lst_ofL, lstSz_ofL, chunk_one, lst_nil, lst_sl, lstSz_sl, lstSz_nil, Bool.and_true, Bool.true_and, Bool.and_false, Bool.false_and, beq_self_eq_true, beq_bb, bne_bb, un_not, un_neg, conv_int, min2_int, max2_int, w64, w32, wu8, wu16, wu32, wu64, tdiv_nn, tmod_nn, cell_zero, cell_succ, cell_v, cells_v, cells_agg, Bool.not_true, Bool.not_false, Int.reduceLT, Int.reduceLE, Int.reduceEq, Int.reduceNeg, Int.reduceAdd, Int.reduceSub, Int.reduceMul, intOf_v, decide_true, decide_false, bin_andn, bs]; rfl) ?_)
    | (refine ex_bool ?_)
    | (refine ⟨_, H2, ?_⟩)
    | (refine And.intro ?_ ?_)
    | (intro hx; have hprop := (show ∀ (p : Prop), p → True from fun _ _ => True.intro) _ hx; clear hprop; first | (cases hx; done) | (exfalso; revert hx; simp (disch := omega) only [decide_eq_true_eq, decide_eq_false_iff_not, Bool.not_eq_true', Bool.not_eq_false', Bool.and_eq_true, Bool.and_eq_false_iff, Int.not_lt, Int.not_le, ne_eq, not_false_eq_true, not_true_eq_false, reduceCtorEq, Bool.true_eq_false, Bool.false_eq_true, beq_iff_eq, bne_iff_ne, beq_eq_false_iff_ne, false_or, or_false, true_and, and_true, bin_andn, bs]; done) | (simp (disch := omega) only [decide_eq_true_eq, decide_eq_false_iff_not, Bool.not_eq_true', Bool.not_eq_false', Bool.and_eq_true, Bool.and_eq_false_iff, Int.not_lt, Int.not_le, ne_eq, not_false_eq_true, not_true_eq_false, reduceCtorEq, Bool.true_eq_false, Bool.false_eq_true, beq_iff_eq, bne_iff_ne, beq_eq_false_iff_ne, false_or, or_false, true_and, and_true, bin_andn, bs] at hx; first | (exfalso; omega) | skip) | skip)
    | trivial
    | exact fit_ofL _ _
    | (simp (disch := omega) only [notAgg_v, notAgg_sl, plain_v, fits, fitsOne, fitsCells, xsOf, cell_zero, cell_succ, List.range, List.range.loop, List.map, cond_true, cond_false, D.v.injEq, exists_eq', exists_eq, and_self, and_true, true_and, D.agg.injEq, List.length, exists_eq_left', D.sl.injEq, reduceCtorEq, false_or, true_or, or_true, or_false, cell_zero, cell_succ, cell_v, cells_v, cells_agg, List.length_cons, List.length_nil, bin_andn, bs]; done))
  all_goals first
    | (exfalso; omega)
    | omega
    | rfl
    | (unfold sgChk; (repeat' split) <;> first | rfl | (exfalso; omega) | (simp_all; done) | (simp_all; omega))
    | exact ⟨_, rfl⟩
    | (simp; done)
    | fail

theorem vc_rcheck (fl pa ep sq ak wi : Int) (x : D) (zs : List (Int × Int)) (s : List Int) : Cond Try.prog (fun _ => none) Try.f12 [.agg [.v (.int .u8 fl), .v (.int .i64 pa), .v (.int .i64 ep), .v (.int .u32 sq), .v (.int .u32 ak), .v (.int .i64 wi), x, str s]] [.v (.int .i64 (sgChk fl pa ep ak wi zs.length s.length))] = (((∃ (cs : List D), D.agg [D.v (Value.int IntKind.u8 fl), D.v (Value.int IntKind.i64 pa), D.v (Value.int IntKind.i64 ep), D.v (Value.int IntKind.u32 sq), D.v (Value.int IntKind.u32 ak), D.v (Value.int IntKind.i64 wi), x, str s] = D.agg cs ∧ cs.length = 8) ∧ True) ∧ ∃ (r : D), D.bin BinOp.gtr (D.v (Value.int IntKind.u8 fl)) (D.v (Value.int IntKind.u8 31)) = some r ∧ ∃ (b : Bool), r = D.v (Value.bool b) ∧ (b = true → (True ∧ True) ∧ [D.v (Value.int IntKind.i64 12)] = [D.v (Value.int IntKind.i64 (sgChk fl pa ep ak wi zs.length s.length))]) ∧ (b = false → ∃ (r : D), D.bin BinOp.lss (D.v (Value.int IntKind.i64 pa)) (D.v (Value.int IntKind.i64 0)) = some r ∧ ∃ (b : Bool), r = D.v (Value.bool b) ∧ (b = false → ∃ (r : D), D.bin BinOp.geq (D.v (Value.int IntKind.i64 pa)) (D.v (Value.int IntKind.i64 4)) = some r ∧ ∃ (b : Bool), r = D.v (Value.bool b) ∧ (b = false → ∃ (r : D), D.bin BinOp.lss (D.v (Value.int IntKind.i64 ep)) (D.v (Value.int IntKind.i64 0)) = some r ∧ ∃ (b : Bool), r = D.v (Value.bool b) ∧ (b = false → ∃ (r : D), D.bin BinOp.gtr (D.v (Value.int IntKind.i64 ep)) (D.v (Value.int IntKind.i64 65535)) = some r ∧ ∃ (b : Bool), r = D.v (Value.bool b) ∧ (b = false → ∃ (r : D), D.bin BinOp.lss (D.v (Value.int IntKind.i64 wi)) (D.v (Value.int IntKind.i64 0)) = some r ∧ ∃ (b : Bool), r = D.v (Value.bool b) ∧ (b = false → ∃ (r : D), D.bin BinOp.gtr (D.v (Value.int IntKind.i64 wi)) (D.v (Value.int IntKind.i64 65535)) = some r ∧ ∃ (b : Bool), r = D.v (Value.bool b) ∧ (b = true → (True ∧ True) ∧ [D.v (Value.int IntKind.i64 8)] = [D.v (Value.int IntKind.i64 (sgChk fl pa ep ak wi zs.length s.length))]) ∧ (b = false → ∃ (r : D), D.lenT (TypeDesc.slice 55) x = some r ∧ ∃ (r_1 : D), D.bin BinOp.gtr r (D.v (Value.int IntKind.i64 3)) = some r_1 ∧ ∃ (b : Bool), r_1 = D.v (Value.bool b) ∧ (b = false → ∃ (r : D), D.lenT TypeDesc.string (str s) = some r ∧ ∃ (r_2 : D), D.bin BinOp.gtr r (D.v (Value.int IntKind.i64 48)) = some r_2 ∧ ∃ (b : Bool), r_2 = D.v (Value.bool b) ∧ (b = true → (True ∧ True) ∧ [D.v (Value.int IntKind.i64 5)] = [D.v (Value.int IntKind.i64 (sgChk fl pa ep ak wi zs.length s.length))]) ∧ (b = false → ∃ (r : D), PureD Try.prog 16 [D.agg [D.v (Value.int IntKind.u8 fl), D.v (Value.int IntKind.i64 pa), D.v (Value.int IntKind.i64 ep), D.v (Value.int IntKind.u32 sq), D.v (Value.int IntKind.u32 ak), D.v (Value.int IntKind.i64 wi), x, str s], D.v (Value.int IntKind.u8 2)] [r] ∧ fits [(false, [none])] [r] ∧ ∃ (r_3 : D), D.un UnOp.not r = some r_3 ∧ ∃ (b : Bool), r_3 = D.v (Value.bool b) ∧ (b = true → ∃ (r : D), D.lenT (TypeDesc.slice 55) x = some r ∧ ∃ (r_4 : D), D.bin BinOp.gtr r (D.v (Value.int IntKind.i64 0)) = some r_4 ∧ ∃ (b : Bool), r_4 = D.v (Value.bool b) ∧ (b = false → ∃ (r : D), D.bin BinOp.neq (D.v (Value.int IntKind.u32 ak)) (D.v (Value.int IntKind.u32 0)) = some r ∧ ∃ (b : Bool), r = D.v (Value.bool b) ∧ (b = false → ∃ (r : D), D.bin BinOp.neq (str s) (D.v (Value.string { data := { toList := [] } })) = some r ∧ ∃ (b : Bool), r = D.v (Value.bool b) ∧ (b = true → ∃ (r : D), PureD Try.prog 16 [D.agg [D.v (Value.int IntKind.u8 fl), D.v (Value.int IntKind.i64 pa), D.v (Value.int IntKind.i64 ep), D.v (Value.int IntKind.u32 sq), D.v (Value.int IntKind.u32 ak), D.v (Value.int IntKind.i64 wi), x, str s], D.v (Value.int IntKind.u8 1)] [r] ∧ fits [(false, [none])] [r] ∧ ∃ (b : Bool), r = D.v (Value.bool b) ∧ (b = false → ∃ (r : D), PureD Try.prog 16 [D.agg [D.v (Value.int IntKind.u8 fl), D.v (Value.int IntKind.i64 pa), D.v (Value.int IntKind.i64 ep), D.v (Value.int IntKind.u32 sq), D.v (Value.int IntKind.u32 ak), D.v (Value.int IntKind.i64 wi), x, str s], D.v (Value.int IntKind.u8 8)] [r] ∧ fits [(false, [none])] [r] ∧ ∃ (b : Bool), r = D.v (Value.bool b) ∧ (b = true → (True ∧ True) ∧ [D.v (Value.int IntKind.i64 4)] = [D.v (Value.int IntKind.i64 (sgChk fl pa ep ak wi zs.length s.length))]) ∧ (b = false → (True ∧ True) ∧ [D.v (Value.int IntKind.i64 0)] = [D.v (Value.int IntKind.i64 (sgChk fl pa ep ak wi zs.length s.length))])) ∧ (b = true → (True ∧ True) ∧ [D.v (Value.int IntKind.i64 4)] = [D.v (Value.int IntKind.i64 (sgChk fl pa ep ak wi zs.length s.length))])) ∧ (b = false → (True ∧ True) ∧ [D.v (Value.int IntKind.i64 0)] = [D.v (Value.int IntKind.i64 (sgChk fl pa ep ak wi zs.length s.length))])) ∧ (b = true → (True ∧ True) ∧ [D.v (Value.int IntKind.i64 4)] = [D.v (Value.int IntKind.i64 (sgChk fl pa ep ak wi zs.length s.length))])) ∧ (b = true → (True ∧ True) ∧ [D.v (Value.int IntKind.i64 4)] = [D.v (Value.int IntKind.i64 (sgChk fl pa ep ak wi zs.length s.length))])) ∧ (b = false → ∃ (r : D), D.bin BinOp.neq (str s) (D.v (Value.string { data := { toList := [] } })) = some r ∧ ∃ (b : Bool), r = D.v (Value.bool b) ∧ (b = true → ∃ (r : D), PureD Try.prog 16 [D.agg [D.v (Value.int IntKind.u8 fl), D.v (Value.int IntKind.i64 pa), D.v (Value.int IntKind.i64 ep), D.v (Value.int IntKind.u32 sq), D.v (Value.int IntKind.u32 ak), D.v (Value.int IntKind.i64 wi), x, str s], D.v (Value.int IntKind.u8 1)] [r] ∧ fits [(false, [none])] [r] ∧ ∃ (b : Bool), r = D.v (Value.bool b) ∧ (b = false → ∃ (r : D), PureD Try.prog 16 [D.agg [D.v (Value.int IntKind.u8 fl), D.v (Value.int IntKind.i64 pa), D.v (Value.int IntKind.i64 ep), D.v (Value.int IntKind.u32 sq), D.v (Value.int IntKind.u32 ak), D.v (Value.int IntKind.i64 wi), x, str s], D.v (Value.int IntKind.u8 8)] [r] ∧ fits [(false, [none])] [r] ∧ ∃ (b : Bool), r = D.v (Value.bool b) ∧ (b = true → (True ∧ True) ∧ [D.v (Value.int IntKind.i64 4)] = [D.v (Value.int IntKind.i64 (sgChk fl pa ep ak wi zs.length s.length))]) ∧ (b = false → (True ∧ True) ∧ [D.v (Value.int IntKind.i64 0)] = [D.v (Value.int IntKind.i64 (sgChk fl pa ep ak wi zs.length s.length))])) ∧ (b = true → (True ∧ True) ∧ [D.v (Value.int IntKind.i64 4)] = [D.v (Value.int IntKind.i64 (sgChk fl pa ep ak wi zs.length s.length))])) ∧ (b = false → (True ∧ True) ∧ [D.v (Value.int IntKind.i64 0)] = [D.v (Value.int IntKind.i64 (sgChk fl pa ep ak wi zs.length s.length))])))) ∧ (b = true → (True ∧ True) ∧ [D.v (Value.int IntKind.i64 5)] = [D.v (Value.int IntKind.i64 (sgChk fl pa ep ak wi zs.length s.length))]))) ∧ (b = true → (True ∧ True) ∧ [D.v (Value.int IntKind.i64 8)] = [D.v (Value.int IntKind.i64 (sgChk fl pa ep ak wi zs.length s.length))])) ∧ (b = true → (True ∧ True) ∧ [D.v (Value.int IntKind.i64 8)] = [D.v (Value.int IntKind.i64 (sgChk fl pa ep ak wi zs.length s.length))])) ∧ (b = true → (True ∧ True) ∧ [D.v (Value.int IntKind.i64 8)] = [D.v (Value.int IntKind.i64 (sgChk fl pa ep ak wi zs.length s.length))])) ∧ (b = true → (True ∧ True) ∧ [D.v (Value.int IntKind.i64 8)] = [D.v (Value.int IntKind.i64 (sgChk fl pa ep ak wi zs.length s.length))])) ∧ (b = true → (True ∧ True) ∧ [D.v (Value.int IntKind.i64 8)] = [D.v (Value.int IntKind.i64 (sgChk fl pa ep ak wi zs.length s.length))]))) := by kernel_rfl
set_option maxHeartbeats 4000000 in
theorem rcheck (fl pa ep sq ak wi : Int) (x : D) (zs : List (Int × Int)) (s : List Int) (hX : IsL 2 (prs zs) x) (hl : zs.length ≤ 100000) (hs : Bytes s) (hsl : s.length ≤ 100000) (f0 : 0 ≤ fl) (f1 : fl < 256) : PureD Try.prog 12 [.agg [.v (.int .u8 fl), .v (.int .i64 pa), .v (.int .i64 ep), .v (.int .u32 sq), .v (.int .u32 ak), .v (.int .i64 wi), x, str s]] [.v (.int .i64 (sgChk fl pa ep ak wi zs.length s.length))] := by
  refine pure_cond (Lp := (fun _ => none)) (by kernel_rfl) Try.func12 (by kernel_rfl) (by kernel_rfl) ?_
  rw [vc_rcheck fl pa ep sq ak wi x zs s]
  have H2 := rhas fl pa ep sq ak wi x zs s 2 hX hl hs hsl f0 f1 (by omega) (by omega)
  have H1 := rhas fl pa ep sq ak wi x zs s 1 hX hl hs hsl f0 f1 (by omega) (by omega)
  have H8 := rhas fl pa ep sq ak wi x zs s 8 hX hl hs hsl f0 f1 (by omega) (by omega)
  have bs := ne_empty hs
  simp only [hX.lenT, prs_len, Option.some.injEq, exists_eq_left']
  repeat' (first
    | (refine ex_some (by simp (disch := omega) only [bin_shr, bin_shl, bin_and, bin_or, bin_xor, len_str, toStr_ofL, bin_add, bin_sub, bin_mul, bin_quo, bin_rem, bin_lss, bin_leq, bin_gtr, bin_geq, bin_eql, bin_neq, eqs_cn, eqs_ci, eqs_cb, eqs_cs, Option.map_some, lenT_ofL, lst_ofL, lstSz_ofL, chunk_one, lst_nil, lst_sl, lstSz_sl, lstSz_nil, Bool.and_true, Bool.true_and, Bool.and_false, Bool.false_and, beq_self_eq_true, beq_bb, bne_bb, un_not, un_neg, conv_int, min2_int, max2_int, w64, w32, wu8, wu16, wu32, wu64, tdiv_nn, tmod_nn, cell_zero, cell_succ, cell_v, cells_v, cells_agg, Bool.not_true, Bool.not_false, Int.reduceLT, Int.reduceLE, Int.reduceEq, Int.reduceNeg, Int.reduceAdd, Int.reduceSub, Int.reduceMul, intOf_v, decide_true, decide_false, bs]; rfl) ?_)
    | (refine ex_bool ?_)
    | (refine ⟨_, H2, ?_⟩)
    | (refine ⟨_, H1, ?_⟩)
    | (refine ⟨_, H8, ?_⟩)
    | (refine And.intro ?_ ?_)
    | (intro hx; have hprop := (show ∀ (p : Prop), p → True from fun _ _ => True.intro) _ hx; clear hprop; first | (cases hx; done) | (exfalso; revert hx; simp (disch := omega) only [decide_eq_true_eq, decide_eq_false_iff_not, Bool.not_eq_true', Bool.not_eq_false', Bool.and_eq_true, Bool.and_eq_false_iff, Int.not_lt, Int.not_le, ne_eq, not_false_eq_true, not_true_eq_false, reduceCtorEq, Bool.true_eq_false, Bool.false_eq_true, beq_iff_eq, bne_iff_ne, beq_eq_false_iff_ne, false_or, or_false, true_and, and_true, bs]; done) | (simp (disch := omega) only [decide_eq_true_eq, decide_eq_false_iff_not, Bool.not_eq_true', Bool.not_eq_false', Bool.and_eq_true, Bool.and_eq_false_iff, Int.not_lt, Int.not_le, ne_eq, not_false_eq_true, not_true_eq_false, reduceCtorEq, Bool.true_eq_false, Bool.false_eq_true, beq_iff_eq, bne_iff_ne, beq_eq_false_iff_ne, false_or, or_false, true_and, and_true, bs] at hx; first | (exfalso; omega) | skip) | skip)
    | trivial
    | exact fit_ofL _ _
    | (simp (disch := omega) only [notAgg_v, notAgg_sl, plain_v, fits, fitsOne, fitsCells, xsOf, cell_zero, cell_succ, List.range, List.range.loop, List.map, cond_true, cond_false, D.v.injEq, exists_eq', exists_eq, and_self, and_true, true_and, D.agg.injEq, List.length, exists_eq_left', D.sl.injEq, reduceCtorEq, false_or, true_or, or_true, or_false, cell_zero, cell_succ, cell_v, cells_v, cells_agg, List.length_cons, List.length_nil, bs]; done))
  all_goals first
    | (exfalso; omega)
    | omega
    | rfl
    | (unfold sgChk; (repeat' split) <;> first | rfl | (exfalso; omega) | (simp_all; done) | (simp_all; omega))
    | exact ⟨_, rfl⟩
    | (simp; done)
    | fail

theorem vc_span (fl pa ep sq ak wi : Int) (x : D) (zs : List (Int × Int)) (s : List Int) : Cond Try.prog (fun _ => none) Try.f13 [.agg [.v (.int .u8 fl), .v (.int .i64 pa), .v (.int .i64 ep), .v (.int .u32 sq), .v (.int .u32 ak), .v (.int .i64 wi), x, str s]] [.v (.int .i64 (spanF fl s.length))] = (((∃ (cs : List D), D.agg [D.v (Value.int IntKind.u8 fl), D.v (Value.int IntKind.i64 pa), D.v (Value.int IntKind.i64 ep), D.v (Value.int IntKind.u32 sq), D.v (Value.int IntKind.u32 ak), D.v (Value.int IntKind.i64 wi), x, str s] = D.agg cs ∧ cs.length = 8) ∧ True) ∧ ∃ (r : D), D.lenT TypeDesc.string (str s) = some r ∧ ∃ (r_1 : D), PureD Try.prog 15 [D.agg [D.v (Value.int IntKind.u8 fl), D.v (Value.int IntKind.i64 pa), D.v (Value.int IntKind.i64 ep), D.v (Value.int IntKind.u32 sq), D.v (Value.int IntKind.u32 ak), D.v (Value.int IntKind.i64 wi), x, str s], D.v (Value.int IntKind.u8 1)] [r_1] ∧ fits [(false, [none])] [r_1] ∧ ∃ (b : Bool), r_1 = D.v (Value.bool b) ∧ (b = true → ∃ (r_2 : D), D.bin BinOp.add r (D.v (Value.int IntKind.i64 1)) = some r_2 ∧ ∃ (r : D), PureD Try.prog 15 [D.agg [D.v (Value.int IntKind.u8 fl), D.v (Value.int IntKind.i64 pa), D.v (Value.int IntKind.i64 ep), D.v (Value.int IntKind.u32 sq), D.v (Value.int IntKind.u32 ak), D.v (Value.int IntKind.i64 wi), x, str s], D.v (Value.int IntKind.u8 4)] [r] ∧ fits [(false, [none])] [r] ∧ ∃ (b : Bool), r = D.v (Value.bool b) ∧ (b = true → ∃ (r : D), D.bin BinOp.add r_2 (D.v (Value.int IntKind.i64 1)) = some r ∧ ((∃ (y : Value), r = D.v y) ∧ True) ∧ [r] = [D.v (Value.int IntKind.i64 (spanF fl s.length))]) ∧ (b = false → ((∃ (y : Value), r_2 = D.v y) ∧ True) ∧ [r_2] = [D.v (Value.int IntKind.i64 (spanF fl s.length))])) ∧ (b = false → ∃ (r_2 : D), PureD Try.prog 15 [D.agg [D.v (Value.int IntKind.u8 fl), D.v (Value.int IntKind.i64 pa), D.v (Value.int IntKind.i64 ep), D.v (Value.int IntKind.u32 sq), D.v (Value.int IntKind.u32 ak), D.v (Value.int IntKind.i64 wi), x, str s], D.v (Value.int IntKind.u8 4)] [r_2] ∧ fits [(false, [none])] [r_2] ∧ ∃ (b : Bool), r_2 = D.v (Value.bool b) ∧ (b = true → ∃ (r_3 : D), D.bin BinOp.add r (D.v (Value.int IntKind.i64 1)) = some r_3 ∧ ((∃ (y : Value), r_3 = D.v y) ∧ True) ∧ [r_3] = [D.v (Value.int IntKind.i64 (spanF fl s.length))]) ∧ (b = false → ((∃ (y : Value), r = D.v y) ∧ True) ∧ [r] = [D.v (Value.int IntKind.i64 (spanF fl s.length))]))) := by kernel_rfl
theorem span (fl pa ep sq ak wi : Int) (x : D) (zs : List (Int × Int)) (s : List Int) (hX : IsL 2 (prs zs) x) (hl : zs.length ≤ 100000) (hs : Bytes s) (hsl : s.length ≤ 100000) (f0 : 0 ≤ fl) (f1 : fl < 256) : PureD Try.prog 13 [.agg [.v (.int .u8 fl), .v (.int .i64 pa), .v (.int .i64 ep), .v (.int .u32 sq), .v (.int .u32 ak), .v (.int .i64 wi), x, str s]] [.v (.int .i64 (spanF fl s.length))] := by
  refine pure_cond (Lp := (fun _ => none)) (by kernel_rfl) Try.func13 (by kernel_rfl) (by kernel_rfl) ?_
  rw [vc_span fl pa ep sq ak wi x zs s]
  have H1 := has fl pa ep sq ak wi x zs s 1 hX hl hs hsl f0 f1 (by omega) (by omega)
  have H4 := has fl pa ep sq ak wi x zs s 4 hX hl hs hsl f0 f1 (by omega) (by omega)
  repeat' (first
    | (refine ex_some (by simp (disch := omega) only [bin_shr, bin_shl, bin_and, bin_or, bin_xor, len_str, toStr_ofL, bin_add, bin_sub, bin_mul, bin_quo, bin_rem, bin_lss, bin_leq, bin_gtr, bin_geq, bin_eql, bin_neq, eqs_cn, eqs_ci, eqs_cb, eqs_cs, Option.map_some, lenT_ofL, lst_ofL, lstSz_ofL, chunk_one, lst_nil, lst_sl, lstSz_sl, lstSz_nil, Bool.and_true, Bool.true_and, Bool.and_false, Bool.false_and, beq_self_eq_true, beq_bb, bne_bb, un_not, un_neg, conv_int, min2_int, max2_int, w64, w32, wu8, wu16, wu32, wu64, tdiv_nn, tmod_nn, cell_zero, cell_succ, cell_v, cells_v, cells_agg, Bool.not_true, Bool.not_false, Int.reduceLT, Int.reduceLE, Int.reduceEq, Int.reduceNeg, Int.reduceAdd, Int.reduceSub, Int.reduceMul, intOf_v, decide_true, decide_false]; rfl) ?_)
    | (refine ex_bool ?_)
    | (refine ⟨_, H1, ?_⟩)
    | (refine ⟨_, H4, ?_⟩)
    | (refine And.intro ?_ ?_)
    | (intro hx; have hprop := (show ∀ (p : Prop), p → True from fun _ _ => True.intro) _ hx; clear hprop; first | (cases hx; done) | (exfalso; revert hx; simp (disch := omega) only [decide_eq_true_eq, decide_eq_false_iff_not, Bool.not_eq_true', Bool.not_eq_false', Bool.and_eq_true, Bool.and_eq_false_iff, Int.not_lt, Int.not_le, ne_eq, not_false_eq_true, not_true_eq_false, reduceCtorEq, Bool.true_eq_false, Bool.false_eq_true, beq_iff_eq, bne_iff_ne, beq_eq_false_iff_ne, false_or, or_false, true_and, and_true]; done) | (simp (disch := omega) only [decide_eq_true_eq, decide_eq_false_iff_not, Bool.not_eq_true', Bool.not_eq_false', Bool.and_eq_true, Bool.and_eq_false_iff, Int.not_lt, Int.not_le, ne_eq, not_false_eq_true, not_true_eq_false, reduceCtorEq, Bool.true_eq_false, Bool.false_eq_true, beq_iff_eq, bne_iff_ne, beq_eq_false_iff_ne, false_or, or_false, true_and, and_true] at hx; first | (exfalso; omega) | skip) | skip)
    | trivial
    | exact fit_ofL _ _
    | (simp (disch := omega) only [notAgg_v, notAgg_sl, plain_v, fits, fitsOne, fitsCells, xsOf, cell_zero, cell_succ, List.range, List.range.loop, List.map, cond_true, cond_false, D.v.injEq, exists_eq', exists_eq, and_self, and_true, true_and, D.agg.injEq, List.length, exists_eq_left', D.sl.injEq, reduceCtorEq, false_or, true_or, or_true, or_false, cell_zero, cell_succ, cell_v, cells_v, cells_agg, List.length_cons, List.length_nil]; done))
  all_goals first
    | (exfalso; omega)
    | omega
    | rfl
    | (unfold spanF; simp_all; done)
    | (unfold spanF; simp_all; omega)
    | exact ⟨_, rfl⟩
    | (simp; done)
    | fail

theorem vc_rspan (fl pa ep sq ak wi : Int) (x : D) (zs : List (Int × Int)) (s : List Int) : Cond Try.prog (fun _ => none) Try.f14 [.agg [.v (.int .u8 fl), .v (.int .i64 pa), .v (.int .i64 ep), .v (.int .u32 sq), .v (.int .u32 ak), .v (.int .i64 wi), x, str s]] [.v (.int .i64 (spanF fl s.length))] = (((∃ (cs : List D), D.agg [D.v (Value.int IntKind.u8 fl), D.v (Value.int IntKind.i64 pa), D.v (Value.int IntKind.i64 ep), D.v (Value.int IntKind.u32 sq), D.v (Value.int IntKind.u32 ak), D.v (Value.int IntKind.i64 wi), x, str s] = D.agg cs ∧ cs.length = 8) ∧ True) ∧ ∃ (r : D), D.lenT TypeDesc.string (str s) = some r ∧ ∃ (r_1 : D), PureD Try.prog 16 [D.agg [D.v (Value.int IntKind.u8 fl), D.v (Value.int IntKind.i64 pa), D.v (Value.int IntKind.i64 ep), D.v (Value.int IntKind.u32 sq), D.v (Value.int IntKind.u32 ak), D.v (Value.int IntKind.i64 wi), x, str s], D.v (Value.int IntKind.u8 1)] [r_1] ∧ fits [(false, [none])] [r_1] ∧ ∃ (b : Bool), r_1 = D.v (Value.bool b) ∧ (b = true → ∃ (r_2 : D), D.bin BinOp.add r (D.v (Value.int IntKind.i64 1)) = some r_2 ∧ ∃ (r : D), PureD Try.prog 16 [D.agg [D.v (Value.int IntKind.u8 fl), D.v (Value.int IntKind.i64 pa), D.v (Value.int IntKind.i64 ep), D.v (Value.int IntKind.u32 sq), D.v (Value.int IntKind.u32 ak), D.v (Value.int IntKind.i64 wi), x, str s], D.v (Value.int IntKind.u8 4)] [r] ∧ fits [(false, [none])] [r] ∧ ∃ (b : Bool), r = D.v (Value.bool b) ∧ (b = true → ∃ (r : D), D.bin BinOp.add r_2 (D.v (Value.int IntKind.i64 1)) = some r ∧ ((∃ (y : Value), r = D.v y) ∧ True) ∧ [r] = [D.v (Value.int IntKind.i64 (spanF fl s.length))]) ∧ (b = false → ((∃ (y : Value), r_2 = D.v y) ∧ True) ∧ [r_2] = [D.v (Value.int IntKind.i64 (spanF fl s.length))])) ∧ (b = false → ∃ (r_2 : D), PureD Try.prog 16 [D.agg [D.v (Value.int IntKind.u8 fl), D.v (Value.int IntKind.i64 pa), D.v (Value.int IntKind.i64 ep), D.v (Value.int IntKind.u32 sq), D.v (Value.int IntKind.u32 ak), D.v (Value.int IntKind.i64 wi), x, str s], D.v (Value.int IntKind.u8 4)] [r_2] ∧ fits [(false, [none])] [r_2] ∧ ∃ (b : Bool), r_2 = D.v (Value.bool b) ∧ (b = true → ∃ (r_3 : D), D.bin BinOp.add r (D.v (Value.int IntKind.i64 1)) = some r_3 ∧ ((∃ (y : Value), r_3 = D.v y) ∧ True) ∧ [r_3] = [D.v (Value.int IntKind.i64 (spanF fl s.length))]) ∧ (b = false → ((∃ (y : Value), r = D.v y) ∧ True) ∧ [r] = [D.v (Value.int IntKind.i64 (spanF fl s.length))]))) := by kernel_rfl
theorem rspan (fl pa ep sq ak wi : Int) (x : D) (zs : List (Int × Int)) (s : List Int) (hX : IsL 2 (prs zs) x) (hl : zs.length ≤ 100000) (hs : Bytes s) (hsl : s.length ≤ 100000) (f0 : 0 ≤ fl) (f1 : fl < 256) : PureD Try.prog 14 [.agg [.v (.int .u8 fl), .v (.int .i64 pa), .v (.int .i64 ep), .v (.int .u32 sq), .v (.int .u32 ak), .v (.int .i64 wi), x, str s]] [.v (.int .i64 (spanF fl s.length))] := by
  refine pure_cond (Lp := (fun _ => none)) (by kernel_rfl) Try.func14 (by kernel_rfl) (by kernel_rfl) ?_
  rw [vc_rspan fl pa ep sq ak wi x zs s]
  have H1 := rhas fl pa ep sq ak wi x zs s 1 hX hl hs hsl f0 f1 (by omega) (by omega)
  have H4 := rhas fl pa ep sq ak wi x zs s 4 hX hl hs hsl f0 f1 (by omega) (by omega)
  repeat' (first
    | (refine ex_some (by simp (disch := omega) only [bin_shr, bin_shl, bin_and, bin_or, bin_xor, len_str, toStr_ofL, bin_add, bin_sub, bin_mul, bin_quo, bin_rem, bin_lss, bin_leq, bin_gtr, bin_geq, bin_eql, bin_neq, eqs_cn, eqs_ci, eqs_cb, eqs_cs, Option.map_some, lenT_ofL, lst_ofL, lstSz_ofL, chunk_one, lst_nil, lst_sl, lstSz_sl, lstSz_nil, Bool.and_true, Bool.true_and, Bool.and_false, Bool.false_and, beq_self_eq_true, beq_bb, bne_bb, un_not, un_neg, conv_int, min2_int, max2_int, w64, w32, wu8, wu16, wu32, wu64, tdiv_nn, tmod_nn, cell_zero, cell_succ, cell_v, cells_v, cells_agg, Bool.not_true, Bool.not_false, Int.reduceLT, Int.reduceLE, Int.reduceEq, Int.reduceNeg, Int.reduceAdd, Int.reduceSub, Int.reduceMul, intOf_v, decide_true, decide_false]; rfl) ?_)
    | (refine ex_bool ?_)
    | (refine ⟨_, H1, ?_⟩)
    | (refine ⟨_, H4, ?_⟩)
    | (refine And.intro ?_ ?_)
    | (intro hx; have hprop := (show ∀ (p : Prop), p → True from fun _ _ => True.intro) _ hx; clear hprop; first | (cases hx; done) | (exfalso; revert hx; simp (disch := omega) only [decide_eq_true_eq, decide_eq_false_iff_not, Bool.not_eq_true', Bool.not_eq_false', Bool.and_eq_true, Bool.and_eq_false_iff, Int.not_lt, Int.not_le, ne_eq, not_false_eq_true, not_true_eq_false, reduceCtorEq, Bool.true_eq_false, Bool.false_eq_true, beq_iff_eq, bne_iff_ne, beq_eq_false_iff_ne, false_or, or_false, true_and, and_true]; done) | (simp (disch := omega) only [decide_eq_true_eq, decide_eq_false_iff_not, Bool.not_eq_true', Bool.not_eq_false', Bool.and_eq_true, Bool.and_eq_false_iff, Int.not_lt, Int.not_le, ne_eq, not_false_eq_true, not_true_eq_false, reduceCtorEq, Bool.true_eq_false, Bool.false_eq_true, beq_iff_eq, bne_iff_ne, beq_eq_false_iff_ne, false_or, or_false, true_and, and_true] at hx; first | (exfalso; omega) | skip) | skip)
    | trivial
    | exact fit_ofL _ _
    | (simp (disch := omega) only [notAgg_v, notAgg_sl, plain_v, fits, fitsOne, fitsCells, xsOf, cell_zero, cell_succ, List.range, List.range.loop, List.map, cond_true, cond_false, D.v.injEq, exists_eq', exists_eq, and_self, and_true, true_and, D.agg.injEq, List.length, exists_eq_left', D.sl.injEq, reduceCtorEq, false_or, true_or, or_true, or_false, cell_zero, cell_succ, cell_v, cells_v, cells_agg, List.length_cons, List.length_nil]; done))
  all_goals first
    | (exfalso; omega)
    | omega
    | rfl
    | (unfold spanF; simp_all; done)
    | (unfold spanF; simp_all; omega)
    | exact ⟨_, rfl⟩
    | (simp; done)
    | fail

end Go.Proofs.Ytioodaefgpkkeaa