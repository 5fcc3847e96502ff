/-
  The small machine: texts as lists of bytes; rows of bytes; bits.
-/
import Derived.Test.YtjdemohgegldaaaAm18
import Derived.Laws.Strings
namespace Go.Proofs.Ytjdemohgegldaaa
set_option linter.unusedSimpArgs false
set_option linter.unusedVariables false
open Go.RowKit

def u8of (n : Int) : UInt8 := UInt8.ofNat n.toNat
def Bytes (l : List Int) : Prop := ∀ x ∈ l, 0 ≤ x ∧ x < 256
theorem mkStr_data (l : List Int) : (mkStr l).data = (l.map u8of).toArray := by
  have key : ∀ (l : List Int) (r : ByteArray), (l.foldl (fun r n => r.push (UInt8.ofNat n.toNat)) r).data = r.data ++ (l.map u8of).toArray := by
    intro l
    induction l with
    | nil => intro r; simp
    | cons x l ih =>
      intro r
      simp only [List.foldl_cons, ih, List.map_cons]
      show (r.data.push _) ++ _ = _
      apply Array.ext'
      simp [u8of]
  have := key l ByteArray.empty
  unfold mkStr
  rw [this]
  show #[] ++ _ = _
  simp
theorem ba_ext {a b : ByteArray} (h : a.data = b.data) : a = b := by cases a; cases b; simpa using h
theorem size_mkStr (l : List Int) : (mkStr l).size = l.length := by
  show (mkStr l).data.size = _
  rw [mkStr_data]; simp
def bytesOf (s : ByteArray) : List Int := s.data.toList.map fun b => (b.toNat : Int)
theorem bytesOf_bd (s : ByteArray) : Bytes (bytesOf s) := by
  intro x hx
  obtain ⟨b, _, rfl⟩ := List.mem_map.1 hx
  have := b.toNat_lt
  simp only [Nat.reducePow] at this
  omega
theorem u8of_nat (b : UInt8) : u8of (b.toNat : Int) = b := by simp [u8of]
theorem mkStr_bytesOf (s : ByteArray) : mkStr (bytesOf s) = s := by
  apply ba_ext
  rw [mkStr_data]
  unfold bytesOf
  rw [List.map_map]
  have : (u8of ∘ fun b : UInt8 => (b.toNat : Int)) = id := by funext b; exact u8of_nat b
  rw [this]; simp
theorem u8of_toNat {x : Int} (h : 0 ≤ x ∧ x < 256) : ((u8of x).toNat : Int) = x := by
  unfold u8of
  rw [UInt8.toNat_ofNat']
  omega
theorem bytesOf_mkStr {l : List Int} (h : Bytes l) : bytesOf (mkStr l) = l := by
  unfold bytesOf
  rw [mkStr_data]
  simp only [List.map_map]
  conv => rhs; rw [← List.map_id l]
  exact List.map_congr_left fun x hx => u8of_toNat (h x hx)
theorem mkStr_inj {a b : List Int} (ha : Bytes a) (hb : Bytes b) (h : mkStr a = mkStr b) : a = b := by rw [← bytesOf_mkStr ha, h, bytesOf_mkStr hb]
/-- A text, by its bytes. -/
def str (l : List Int) : D := .v (.string (mkStr l))
theorem str_of (s : ByteArray) : D.v (.string s) = str (bytesOf s) := by unfold str; rw [mkStr_bytesOf]
theorem byteAt_str {l : List Int} (h : Bytes l) (k : IntKind) {n : Nat} (hn : n < l.length) : (str l).byteAt (.v (.int k (n : Nat))) = .v (.int .u8 (l.getD n 0)) := by
  simp only [str, D.byteAt, mkStr_data, Int.toNat_natCast]
  have : (l.map u8of).toArray.getD n 0 = u8of (l.getD n 0) := by simp [List.getD, hn]
  rw [this, u8of_toNat (h _ (by simp [List.getD, hn]))]
theorem sinb_str {l : List Int} (k : IntKind) {n : Int} (h0 : 0 ≤ n) (h1 : n < l.length) : D.sinb (str l) (.v (.int k n)) := ⟨_, k, n, rfl, rfl, h0, by rw [size_mkStr]; omega⟩
theorem extract_mkStr (l : List Int) (a b : Nat) : (mkStr l).extract a b = mkStr ((l.drop a).take (b - a)) := by
  apply ba_ext
  rw [mkStr_data, ByteArray.data_extract, mkStr_data]
  apply Array.ext'
  simp [List.map_drop, List.map_take]
theorem append_mkStr (a b : List Int) : mkStr a ++ mkStr b = mkStr (a ++ b) := by
  apply ba_ext
  rw [mkStr_data, ByteArray.data_append, mkStr_data, mkStr_data]
  apply Array.ext'
  simp
theorem bytesD_ints (l : List Int) : bytesD (ints .u8 l) = some l := by
  induction l with
  | nil => rfl
  | cons x l ih => simp only [ints, List.map_cons] at ih ⊢; simp [bytesD, ih]
theorem toStr_is {l : List Int} {x : D} (h : IsL 1 (ints .u8 l) x) : x.toStr = some (str l) := by
  rcases h with rfl | ⟨rfl, h⟩
  · simp [D.toStr, bytesD_ints, str]
  · have : l = [] := by simpa [ints] using h
    subst this; rfl
theorem toStr_ofL (l : List Int) : (ofL 1 (ints .u8 l)).toStr = some (str l) := toStr_is (isL_ofL _ _)
theorem eq_str {a b : List Int} (ha : Bytes a) (hb : Bytes b) : ((mkStr a).toList == (mkStr b).toList) = decide (a = b) := by
  rw [Bool.eq_iff_iff]
  simp only [beq_iff_eq, decide_eq_true_eq]
  constructor
  · intro h
    rw [ByteArray.toList_eq, ByteArray.toList_eq] at h
    exact mkStr_inj ha hb (ba_ext (Array.ext' h))
  · rintro rfl; rfl
theorem bin_seql {a b : List Int} (ha : Bytes a) (hb : Bytes b) : D.bin .eql (str a) (str b) = some (.v (.bool (decide (a = b)))) := by
  show (sbin .eql (.string (mkStr a)) (.string (mkStr b))).map D.v = _
  simp only [sbin, Option.map_some]; rw [eq_str ha hb]
theorem bin_sneq {a b : List Int} (ha : Bytes a) (hb : Bytes b) : D.bin .neq (str a) (str b) = some (.v (.bool (!decide (a = b)))) := by
  show (sbin .neq (.string (mkStr a)) (.string (mkStr b))).map D.v = _
  simp only [sbin, Option.map_some]; rw [eq_str ha hb]
theorem bin_sadd {a b : List Int} (h : a.length + b.length ≤ 9223372036854775807) : D.bin .add (str a) (str b) = some (str (a ++ b)) := by
  show (sbin .add (.string (mkStr a)) (.string (mkStr b))).map D.v = _
  simp only [sbin, size_mkStr]
  rw [if_neg (by have : IntKind.i64.max = 9223372036854775807 := rfl; omega), append_mkStr]; rfl
theorem len_str (l : List Int) : D.lenT .string (str l) = some (.v (.int .i64 (l.length : Nat))) := by
  show some (D.v (.int .i64 ((mkStr l).size : Nat))) = _
  rw [size_mkStr]
theorem cutS_str (l : List Int) {dl dh : Option D} {a b : Int} (e1 : optI 0 dl = some a) (e2 : optI (l.length : Nat) dh = some b) (h0 : 0 ≤ a) (h1 : a ≤ b) (h2 : b ≤ (l.length : Nat)) : D.cutS (str l) dl dh = some (str ((l.drop a.toNat).take (b.toNat - a.toNat))) := by
  simp only [str, D.cutS, size_mkStr, e1, e2]
  rw [if_pos ⟨h0, h1, h2⟩, extract_mkStr]
theorem cutS_from (l : List Int) (k : IntKind) {a : Nat} (h : a ≤ l.length) : D.cutS (str l) (some (.v (.int k (a : Nat)))) none = some (str (l.drop a)) := by
  rw [cutS_str (a := (a : Nat)) (b := (l.length : Nat)) l rfl rfl (by omega) (by omega) (Int.le_refl _)]
  simp only [Int.toNat_natCast]
  rw [List.take_of_length_le (by simp)]
theorem cutS_to (l : List Int) (k : IntKind) {a : Nat} (h : a ≤ l.length) : D.cutS (str l) none (some (.v (.int k (a : Nat)))) = some (str (l.take a)) := by
  rw [cutS_str (a := 0) (b := (a : Nat)) l rfl rfl (by omega) (by omega) (by omega)]
  simp
theorem Bytes.drop {l : List Int} (h : Bytes l) (n : Nat) : Bytes (l.drop n) := fun x hx => h x (List.mem_of_mem_drop hx)
theorem Bytes.take {l : List Int} (h : Bytes l) (n : Nat) : Bytes (l.take n) := fun x hx => h x (List.mem_of_mem_take hx)
theorem Bytes.append {a b : List Int} (h : Bytes a) (k : Bytes b) : Bytes (a ++ b) := fun x hx => (List.mem_append.1 hx).elim (h x) (k x)
theorem Bytes.nil : Bytes [] := fun _ h => by cases h
theorem Bytes.getD {l : List Int} (h : Bytes l) (n : Nat) : 0 ≤ l.getD n 0 ∧ l.getD n 0 < 256 := by
  by_cases hn : n < l.length
  · exact h _ (by simp [List.getD, hn])
  · simp [List.getD, List.getElem?_eq_none (Nat.le_of_not_lt hn)]

-- elements of a row of numbers
theorem setAt_ints (kd kk : IntKind) {zs : List Int} {n : Nat} (h : n < zs.length) (x : Int) : (ofL 1 (ints kd zs)).setAt (.v (.int kk (n : Nat))) 0 [.v (.int kd x)] = ofL 1 (ints kd (zs.set n x)) := by
  cases zs with
  | nil => simp at h
  | cons z zs =>
    have e : ofL 1 (ints kd (z :: zs)) = .sl 1 (ints kd (z :: zs)) := rfl
    have e2 : ofL 1 (ints kd ((z :: zs).set n x)) = .sl 1 (ints kd ((z :: zs).set n x)) := by
      cases n <;> rfl
    rw [e, e2]
    simp only [D.setAt, Int.toNat_natCast]
    rw [ints_getD _ _ _ h]
    simp [D.splice, ints, List.map_set]
theorem at_ofL_ints (kd kk : IntKind) {zs : List Int} {n : Nat} (h : n < zs.length) : (ofL 1 (ints kd zs)).at_ (.v (.int kk (n : Nat))) = .v (.int kd (zs.getD n 0)) := by
  rw [(isL_ofL 1 (ints kd zs)).at_]; exact ints_getD _ _ _ h
theorem inb_ofL_ints (kd kk : IntKind) {zs : List Int} {n : Nat} (h : n < zs.length) : D.inb 1 (ofL 1 (ints kd zs)) (.v (.int kk (n : Nat))) := (isL_ofL 1 (ints kd zs)).inb (by omega) (by rw [ints_length]; omega)

-- bits
theorem bin_shr (k k' : IntKind) {a b : Int} (h0 : 0 ≤ b) : D.bin .shr (.v (.int k a)) (.v (.int k' b)) = some (.v (.int k (a.fdiv (2 ^ min b.toNat k.bits)))) := by
  show (sbin .shr (.int k a) (.int k' b)).map D.v = _
  simp only [sbin]; rw [if_neg (by omega)]; rfl
theorem bin_shl (k k' : IntKind) {a b : Int} (h0 : 0 ≤ b) : D.bin .shl (.v (.int k a)) (.v (.int k' b)) = some (.v (.int k (k.wrap (a * 2 ^ min b.toNat k.bits)))) := by
  show (sbin .shl (.int k a) (.int k' b)).map D.v = _
  simp only [sbin]; rw [if_neg (by omega)]; rfl
theorem bin_and (k : IntKind) (a b : Int) : D.bin .and (.v (.int k a)) (.v (.int k b)) = some (.v (.int k (bitsI .and k a b))) := by simp [D.bin, sbin, ibin]
theorem bin_or (k : IntKind) (a b : Int) : D.bin .or (.v (.int k a)) (.v (.int k b)) = some (.v (.int k (bitsI .or k a b))) := by simp [D.bin, sbin, ibin]
theorem bin_xor (k : IntKind) (a b : Int) : D.bin .xor (.v (.int k a)) (.v (.int k b)) = some (.v (.int k (bitsI .xor k a b))) := by simp [D.bin, sbin, ibin]
theorem or_u8 : ∀ m ∈ [64, 128, 192], ∀ a : Fin 64, bitsI .or .u8 (a.val : Nat) m = (a.val : Nat) + m := by decide
theorem or_mark {a m : Int} (h0 : 0 ≤ a) (h1 : a < 64) (hm : m = 64 ∨ m = 128 ∨ m = 192) : bitsI .or .u8 a m = a + m := by
  have := or_u8 m (by simpa using hm) ⟨a.toNat, by omega⟩
  simp only [Int.toNat_of_nonneg h0] at this
  exact this
theorem and_63 {a : Int} (h0 : 0 ≤ a) (h1 : a < 256) : bitsI .and .u8 a 63 = a % 64 := by
  obtain ⟨n, rfl⟩ := Int.eq_ofNat_of_zero_le h0
  have e1 : BitVec.ofInt IntKind.u8.bits (n : Int) = BitVec.ofNat 8 n := rfl
  have e2 : BitVec.ofInt IntKind.u8.bits 63 = BitVec.ofNat 8 63 := rfl
  simp only [bitsI]
  rw [e1, e2]
  have e3 : (BitVec.ofNat 8 n &&& BitVec.ofNat 8 63).toNat = n % 64 := by
    rw [BitVec.toNat_and, BitVec.toNat_ofNat, BitVec.toNat_ofNat, Nat.mod_eq_of_lt (by omega), Nat.mod_eq_of_lt (by omega)]
    exact Nat.and_two_pow_sub_one_eq_mod n 6
  show IntKind.u8.wrap ((BitVec.ofNat 8 n &&& BitVec.ofNat 8 63).toNat : Nat) = _
  rw [e3, wu8 (by omega) (by omega)]; omega
theorem or_low {a b : Int} (h0 : 0 ≤ a) (h1 : a * 256 + 255 < 9223372036854775808) (b0 : 0 ≤ b) (b1 : b < 256) : bitsI .or .i64 (a * 256) b = a * 256 + b := by
  obtain ⟨n, rfl⟩ := Int.eq_ofNat_of_zero_le h0
  obtain ⟨m, rfl⟩ := Int.eq_ofNat_of_zero_le b0
  simp only [bitsI]
  have e1 : BitVec.ofInt IntKind.i64.bits ((n : Int) * 256) = BitVec.ofNat 64 (n * 256) := by
    show BitVec.ofInt 64 _ = _
    rw [show ((n : Int) * 256) = ((n * 256 : Nat) : Int) by simp]; rfl
  have e2 : BitVec.ofInt IntKind.i64.bits (m : Int) = BitVec.ofNat 64 m := rfl
  rw [e1, e2]
  have e3 : (BitVec.ofNat 64 (n * 256) ||| BitVec.ofNat 64 m).toNat = n * 256 + m := by
    rw [BitVec.toNat_or, BitVec.toNat_ofNat, BitVec.toNat_ofNat, Nat.mod_eq_of_lt (by omega), Nat.mod_eq_of_lt (by omega)]
    have := Nat.shiftLeft_add_eq_or_of_lt (i := 8) (b := m) (by omega) n
    rw [Nat.shiftLeft_eq] at this
    exact this.symm
  show IntKind.i64.wrap ((BitVec.ofNat 64 (n * 256) ||| BitVec.ofNat 64 m).toNat : Nat) = _
  rw [e3, w64 (by omega) (by omega)]; simp
theorem toBytes_str {l : List Int} (h : Bytes l) (hl : l.length ≤ 9223372036854775807) : (str l).toBytes = some (.sl 1 (ints .u8 l)) := by
  simp only [str, D.toBytes, size_mkStr]
  rw [if_pos hl]
  congr 2
  have e : (mkStr l).data.toList.map (fun b : UInt8 => D.v (.int .u8 (b.toNat : Nat))) = ints .u8 (bytesOf (mkStr l)) := by simp [ints, bytesOf]
  rw [e, bytesOf_mkStr h]
end Go.Proofs.Ytjdemohgegldaaa
