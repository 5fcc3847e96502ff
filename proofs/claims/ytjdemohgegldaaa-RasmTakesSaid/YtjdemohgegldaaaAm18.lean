/-
  The small machine: how the operations reckon with numbers that are told.
-/
import Derived.Test.YtjdemohgegldaaaAmQ
import Derived.IntWalk
namespace Go.Proofs.Ytjdemohgegldaaa
set_option linter.unusedSimpArgs false
set_option linter.unusedVariables false
open Go.RowKit

section
variable (k : IntKind) (a b : Int)
theorem bin_add : D.bin .add (.v (.int k a)) (.v (.int k b)) = some (.v (.int k (k.wrap (a + b)))) := by simp [D.bin, sbin, ibin]
theorem bin_sub : D.bin .sub (.v (.int k a)) (.v (.int k b)) = some (.v (.int k (k.wrap (a - b)))) := by simp [D.bin, sbin, ibin]
theorem bin_mul : D.bin .mul (.v (.int k a)) (.v (.int k b)) = some (.v (.int k (k.wrap (a * b)))) := by simp [D.bin, sbin, ibin]
theorem bin_quo (h : b ≠ 0) : D.bin .quo (.v (.int k a)) (.v (.int k b)) = some (.v (.int k (k.wrap (a.tdiv b)))) := by simp [D.bin, sbin, ibin, h]
theorem bin_rem (h : b ≠ 0) : D.bin .rem (.v (.int k a)) (.v (.int k b)) = some (.v (.int k (a.tmod b))) := by simp [D.bin, sbin, ibin, h]
theorem bin_lss : D.bin .lss (.v (.int k a)) (.v (.int k b)) = some (.v (.bool (decide (a < b)))) := by simp [D.bin, sbin, ibin]
theorem bin_leq : D.bin .leq (.v (.int k a)) (.v (.int k b)) = some (.v (.bool (decide (a ≤ b)))) := by simp [D.bin, sbin, ibin]
theorem bin_gtr : D.bin .gtr (.v (.int k a)) (.v (.int k b)) = some (.v (.bool (decide (b < a)))) := by simp [D.bin, sbin, ibin]
theorem bin_geq : D.bin .geq (.v (.int k a)) (.v (.int k b)) = some (.v (.bool (decide (b ≤ a)))) := by simp [D.bin, sbin, ibin]
theorem bin_eql : D.bin .eql (.v (.int k a)) (.v (.int k b)) = some (.v (.bool (decide (a = b)))) := by
  simp only [D.bin, sbin, ibin, if_true, Option.map_some]; congr 3
theorem bin_neq : D.bin .neq (.v (.int k a)) (.v (.int k b)) = some (.v (.bool (!decide (a = b)))) := by
  simp only [D.bin, sbin, ibin, if_true, Option.map_some]; congr 3
theorem beq_bb (a b : Bool) : D.beq (.v (.bool a)) (.v (.bool b)) = some (.v (.bool (a == b))) := rfl
theorem bne_bb (a b : Bool) : D.bne (.v (.bool a)) (.v (.bool b)) = some (.v (.bool (!(a == b)))) := rfl
theorem un_not (b : Bool) : D.un .not (.v (.bool b)) = some (.v (.bool !b)) := rfl
theorem un_neg : D.un .neg (.v (.int k a)) = some (.v (.int k (k.wrap (0 - a)))) := rfl
theorem conv_int (k' : IntKind) : D.conv k (.v (.int k' a)) = some (.v (.int k (k.wrap a))) := rfl
theorem min2_int (k' : IntKind) : D.min2 (.v (.int k a)) (.v (.int k' b)) = some (.v (.int k (min a b))) := rfl
theorem max2_int (k' : IntKind) : D.max2 (.v (.int k a)) (.v (.int k' b)) = some (.v (.int k (max a b))) := rfl
end
theorem w64 {a : Int} (h1 : -9223372036854775808 ≤ a) (h2 : a ≤ 9223372036854775807) : IntKind.i64.wrap a = a := IntWalk.i64_in _ ⟨h1, h2⟩
theorem w32 {a : Int} (h1 : -2147483648 ≤ a) (h2 : a ≤ 2147483647) : IntKind.i32.wrap a = a := IntWalk.i32_in _ ⟨h1, h2⟩
theorem wu8 {a : Int} (h1 : 0 ≤ a) (h2 : a ≤ 255) : IntKind.u8.wrap a = a := IntWalk.u8_in _ ⟨h1, h2⟩
theorem wu16 {a : Int} (h1 : 0 ≤ a) (h2 : a ≤ 65535) : IntKind.u16.wrap a = a := IntWalk.u16_in _ ⟨h1, h2⟩
theorem wu32 {a : Int} (h1 : 0 ≤ a) (h2 : a ≤ 4294967295) : IntKind.u32.wrap a = a := IntWalk.u32_in _ ⟨h1, h2⟩
theorem wu64 {a : Int} (h1 : 0 ≤ a) (h2 : a ≤ 18446744073709551615) : IntKind.u64.wrap a = a := IntWalk.u64_in _ ⟨h1, h2⟩
theorem tdiv_nn {a b : Int} (h : 0 ≤ a) : a.tdiv b = a / b := Int.tdiv_eq_ediv_of_nonneg h
theorem tmod_nn {a b : Int} (h : 0 ≤ a) : a.tmod b = a % b := Int.tmod_eq_emod_of_nonneg h
theorem cell_zero (x : D) (l : List D) : (D.agg (x :: l)).cell 0 = x := rfl
theorem cell_succ (x : D) (l : List D) (k : Nat) : (D.agg (x :: l)).cell (k + 1) = (D.agg l).cell k := by simp [D.cell, D.cells]

/-- A slice, nil or not, with these elements. -/
def IsL (sz : Nat) (es : List D) (x : D) : Prop := x = .sl sz es ∨ (x = .v nilS ∧ es = [])
def ofL (sz : Nat) (es : List D) : D := match es with | [] => .v nilS | l => .sl sz l
theorem ofL_nil (sz : Nat) : ofL sz [] = .v nilS := rfl
theorem ofL_cons (sz : Nat) (x : D) (l : List D) : ofL sz (x :: l) = .sl sz (x :: l) := rfl
theorem isL_ofL (sz : Nat) (es : List D) : IsL sz es (ofL sz es) := by
  cases es with
  | nil => exact .inr ⟨rfl, rfl⟩
  | cons x l => exact .inl rfl
theorem isL_sl (sz : Nat) (es : List D) : IsL sz es (.sl sz es) := .inl rfl
theorem isL_nil (sz : Nat) : IsL sz [] (.v nilS) := .inr ⟨rfl, rfl⟩
theorem app_ofL (sz : Nat) (es lx : List D) : (ofL sz es).app sz lx = ofL sz (es ++ lx) := by
  cases es with
  | nil => cases lx <;> rfl
  | cons x l => rfl
theorem app_nil (sz : Nat) (lx : List D) : (D.v nilS).app sz lx = ofL sz lx := by cases lx <;> rfl
theorem app_sl (sz sz' : Nat) (es lx : List D) : (D.sl sz' es).app sz lx = .sl sz (es ++ lx) := rfl
theorem lst_ofL (sz : Nat) (es : List D) : (ofL sz es).lst = some es := by cases es <;> rfl
theorem lst_nil : (D.v nilS).lst = some [] := rfl
theorem lst_sl (sz : Nat) (es : List D) : (D.sl sz es).lst = some es := rfl
theorem lstSz_sl (sz : Nat) (es : List D) : (D.sl sz es).lstSz sz = some es := by simp [D.lstSz]
theorem lstSz_nil (sz : Nat) : (D.v nilS).lstSz sz = some [] := rfl
theorem lstSz_ofL (sz : Nat) (es : List D) : (ofL sz es).lstSz sz = some es := by
  cases es with
  | nil => rfl
  | cons x l => exact lstSz_sl sz _
section
variable {sz : Nat} {es : List D} {x : D}
theorem IsL.lst (h : IsL sz es x) : x.lst = some es := by rcases h with rfl | ⟨rfl, rfl⟩ <;> rfl
theorem IsL.lstSz (h : IsL sz es x) : x.lstSz sz = some es := by rcases h with rfl | ⟨rfl, rfl⟩ <;> simp [D.lstSz, nilS]
theorem IsL.notAgg (h : IsL sz es x) : NotAgg x := by rcases h with rfl | ⟨rfl, rfl⟩ <;> exact ⟨trivial⟩
theorem IsL.lenT (h : IsL sz es x) (e : TypeId) : D.lenT (.slice e) x = some (.v (.int .i64 (es.length : Nat))) := by rcases h with rfl | ⟨rfl, rfl⟩ <;> rfl
theorem IsL.inb (h : IsL sz es x) {k : IntKind} {m : Int} (h0 : 0 ≤ m) (h1 : m < (es.length : Nat)) : D.inb sz x (.v (.int k m)) := by
  rcases h with rfl | ⟨rfl, rfl⟩
  · exact ⟨es, k, m, rfl, rfl, h0, by omega⟩
  · simp at h1; omega
theorem IsL.at_ (h : IsL sz es x) (k : IntKind) (m : Int) : x.at_ (.v (.int k m)) = es.getD m.toNat default := by rcases h with rfl | ⟨rfl, rfl⟩ <;> rfl
end
theorem notAgg_v (x : Value) : NotAgg (.v x) := ⟨trivial⟩
theorem notAgg_sl (sz : Nat) (es : List D) : NotAgg (.sl sz es) := ⟨trivial⟩
theorem notAgg_fn (f : Nat) (cs : List D) : NotAgg (.fn f cs) := ⟨trivial⟩
theorem notAgg_pt (x : D) : NotAgg (.pt x) := ⟨trivial⟩
theorem plain_v (x : Value) : PlainD (.v x) := ⟨trivial⟩
/-- Integers as elements. -/
def ints (k : IntKind) (l : List Int) : List D := l.map fun z => .v (.int k z)
theorem flat_ints (k : IntKind) (l : List Int) : flat (ints k l) = ints k l := by
  induction l with
  | nil => rfl
  | cons a l ih => simp only [flat, ints, List.map_cons, List.flatMap_cons] at ih ⊢; rw [ih]; rfl
theorem plain_ofL {sz : Nat} {es : List D} (h : ∀ c ∈ flat es, ∃ y, c = .v y) : PlainD (ofL sz es) := by
  cases es with
  | nil => exact ⟨trivial⟩
  | cons x l => exact ⟨h⟩
theorem plain_sl {sz : Nat} {es : List D} (h : ∀ c ∈ flat es, ∃ y, c = .v y) : PlainD (.sl sz es) := ⟨h⟩
theorem ints_plain (k : IntKind) (l : List Int) : ∀ c ∈ flat (ints k l), ∃ y, c = .v y := by
  rw [flat_ints]
  intro c hc
  obtain ⟨z, _, rfl⟩ := List.mem_map.1 hc
  exact ⟨_, rfl⟩
theorem chunk_one (x : D) : chunks false 1 1 [x] = [x] := rfl
theorem chunk_agg (n : Nat) (l : List D) (h : l.length ≤ n) : chunks true n 1 l = [.agg l] := by simp [chunks, elemD, List.take_of_length_le h]
theorem ints_append (k : IntKind) (a b : List Int) : ints k a ++ ints k b = ints k (a ++ b) := by simp [ints]
theorem ints_length (k : IntKind) (a : List Int) : (ints k a).length = a.length := by simp [ints]
theorem ints_getD (k : IntKind) (a : List Int) (i : Nat) (h : i < a.length) : (ints k a).getD i default = .v (.int k (a.getD i 0)) := by simp [ints, List.getD, h]

theorem ex_eqs_nil (K : Bool → Prop) : (∃ r, eqs [] [] [] = some r ∧ K r) ↔ K true := by simp [eqs]
theorem ex_eqs_i (k : IntKind) (a b : Int) (ks : List EqK) (xs ys : List D) (K : Bool → Prop) : (∃ r, eqs (.i :: ks) (.v (.int k a) :: xs) (.v (.int k b) :: ys) = some r ∧ K r) ↔ ∃ q, eqs ks xs ys = some q ∧ K (decide (a = b) && q) := by
  simp only [eqs, eqK, if_true]
  cases eqs ks xs ys with
  | none => simp
  | some q =>
    have e : (a == b) = decide (a = b) := by rw [Bool.eq_iff_iff]; simp
    simp [e]
theorem ex_eqs_b (a b : Bool) (ks : List EqK) (xs ys : List D) (K : Bool → Prop) : (∃ r, eqs (.b :: ks) (.v (.bool a) :: xs) (.v (.bool b) :: ys) = some r ∧ K r) ↔ ∃ q, eqs ks xs ys = some q ∧ K ((a == b) && q) := by
  simp only [eqs, eqK]
  cases eqs ks xs ys <;> simp
theorem ex_eqs_s (a b : ByteArray) (ks : List EqK) (xs ys : List D) (K : Bool → Prop) : (∃ r, eqs (.s :: ks) (.v (.string a) :: xs) (.v (.string b) :: ys) = some r ∧ K r) ↔ ∃ q, eqs ks xs ys = some q ∧ K ((a.toList == b.toList) && q) := by
  simp only [eqs, eqK]
  cases eqs ks xs ys <;> simp
theorem ex_some {α : Type} {t : Option α} {v : α} {p : α → Prop} (h : t = some v) (k : p v) : ∃ r, t = some r ∧ p r := ⟨v, h, k⟩
theorem ex_bool {x : Bool} {p : Bool → Prop} (k : p x) : ∃ b, D.v (.bool x) = D.v (.bool b) ∧ p b := ⟨x, rfl, k⟩
theorem ex_agg {l : List D} {n : Nat} (k : l.length = n) : ∃ cs, D.agg l = D.agg cs ∧ cs.length = n := ⟨l, rfl, k⟩
theorem intOf_v (k : IntKind) (z : Int) : D.intOf (.v (.int k z)) = some z := rfl
theorem cutS_all (s : ByteArray) : D.cutS (.v (.string s)) none none = some (.v (.string (s.extract 0 s.size))) := by simp [D.cutS, optI]
theorem cutS_lo (s : ByteArray) (k : IntKind) (l : Int) (h0 : 0 ≤ l) (h1 : l ≤ (s.size : Nat)) : D.cutS (.v (.string s)) (some (.v (.int k l))) none = some (.v (.string (s.extract l.toNat s.size))) := by simp [D.cutS, optI, h0, h1]
theorem cutS_hi (s : ByteArray) (k : IntKind) (h : Int) (h0 : 0 ≤ h) (h1 : h ≤ (s.size : Nat)) : D.cutS (.v (.string s)) none (some (.v (.int k h))) = some (.v (.string (s.extract 0 h.toNat))) := by simp [D.cutS, optI, h0, h1]
theorem cutS_mid (s : ByteArray) (k k' : IntKind) (l h : Int) (h0 : 0 ≤ l) (h1 : l ≤ h) (h2 : h ≤ (s.size : Nat)) : D.cutS (.v (.string s)) (some (.v (.int k l))) (some (.v (.int k' h))) = some (.v (.string (s.extract l.toNat h.toNat))) := by simp [D.cutS, optI, h0, h1, h2]
theorem fit_ofL (sz : Nat) (es : List D) : ofL sz es = .v nilS ∨ ∃ es', ofL sz es = .sl sz es' := by
  rcases isL_ofL sz es with h | ⟨h, _⟩
  · exact .inr ⟨_, h⟩
  · exact .inl h
theorem lenT_ofL (e : TypeId) (sz : Nat) (es : List D) : D.lenT (.slice e) (ofL sz es) = some (.v (.int .i64 (es.length : Nat))) := (isL_ofL sz es).lenT e
theorem eqs_cn : eqs [] [] [] = some true := rfl
theorem eqs_ci (ks : List EqK) (k : IntKind) (a b : Int) (xs ys : List D) : eqs (.i :: ks) (.v (.int k a) :: xs) (.v (.int k b) :: ys) = (eqs ks xs ys).map ((a == b) && ·) := by
  simp only [eqs, eqK, if_true]; cases eqs ks xs ys <;> rfl
theorem eqs_cb (ks : List EqK) (a b : Bool) (xs ys : List D) : eqs (.b :: ks) (.v (.bool a) :: xs) (.v (.bool b) :: ys) = (eqs ks xs ys).map ((a == b) && ·) := by
  simp only [eqs, eqK]; cases eqs ks xs ys <;> rfl
theorem eqs_cs (ks : List EqK) (a b : ByteArray) (xs ys : List D) : eqs (.s :: ks) (.v (.string a) :: xs) (.v (.string b) :: ys) = (eqs ks xs ys).map ((a.toList == b.toList) && ·) := by
  simp only [eqs, eqK]; cases eqs ks xs ys <;> rfl
theorem cell_v (x : Value) : (D.v x).cell 0 = .v x := rfl
theorem cells_v (x : Value) : (D.v x).cells = [.v x] := rfl
theorem cells_agg (l : List D) : (D.agg l).cells = l := rfl
theorem ints_drop (k : IntKind) (l : List Int) (n : Nat) : (ints k l).drop n = ints k (l.drop n) := by simp [ints]
theorem ints_take (k : IntKind) (l : List Int) (n : Nat) : (ints k l).take n = ints k (l.take n) := by simp [ints]
theorem IsL.at_ints {kd : IntKind} {zs : List Int} {x : D} (h : IsL 1 (ints kd zs) x) {k : Nat} (hk : k < zs.length) : x.at_ (.v (.int .i64 (k : Nat))) = .v (.int kd (zs.getD k 0)) := by
  rw [h.at_]; exact ints_getD _ _ _ hk
theorem IsL.inb_ints {kd : IntKind} {zs : List Int} {x : D} (h : IsL 1 (ints kd zs) x) {k : Nat} (hk : k < zs.length) : D.inb 1 x (.v (.int .i64 (k : Nat))) := h.inb (by omega) (by rw [ints_length]; omega)
theorem IsL.cut {sz : Nat} {es : List D} {x : D} (h : IsL sz es x) {dl dh dm : Option D} {l hh m : Int} (e1 : optI 0 dl = some l) (e2 : optI (es.length : Nat) dh = some hh) (e3 : optI (es.length : Nat) dm = some m) (h0 : 0 ≤ l) (h1 : l ≤ hh) (h2 : hh ≤ m) (h3 : m ≤ (es.length : Nat)) :
    ∃ r, D.cutL sz x dl dh dm = some r ∧ IsL sz ((es.drop l.toNat).take (hh - l).toNat) r := by
  rcases h with rfl | ⟨rfl, rfl⟩
  · exact ⟨_, by simp only [D.cutL, e1, e2, e3]; rw [if_pos ⟨trivial, h0, h1, h2, h3⟩], .inl rfl⟩
  · have e2' : optI 0 dh = some hh := by simpa using e2
    have e3' : optI 0 dm = some m := by simpa using e3
    simp only [List.length_nil] at h3
    refine ⟨.v nilS, ?_, .inr ⟨rfl, by simp⟩⟩
    simp only [nilS, D.cutL, e1, e2', e3']
    rw [if_pos ⟨by omega, by omega, by omega⟩]
/-- A shape of plain cells. -/
def plB : D → Bool
  | .v _ => true
  | _ => false
theorem fitsCells_all : ∀ {ks : List (Option Nat)} {cs : List D}, ks.all (fun k => k.isNone) = true → cs.length = ks.length → cs.all plB = true → fitsCells ks cs
  | [], [], _, _, _ => trivial
  | none :: ks, .v y :: cs, hk, hl, hc => ⟨⟨y, rfl⟩, fitsCells_all (by simpa using hk) (by simpa using hl) (by simpa [plB] using hc)⟩
  | some _ :: ks, _, hk, _, _ => by simp at hk
  | none :: ks, .agg _ :: cs, _, _, hc => by simp [plB] at hc
  | none :: ks, .sl _ _ :: cs, _, _, hc => by simp [plB] at hc
  | none :: ks, [], _, hl, _ => by simp at hl
  | [], _ :: _, _, hl, _ => by simp at hl
theorem xs_agg {ks : List (Option Nat)} {cs : List D} (hl : cs.length = ks.length) : xsOf (true, ks) (.agg cs) = cs := by
  simp only [xsOf, cond_true]
  refine List.ext_getElem (by simp [hl]) fun i h1 h2 => ?_
  simp [D.cell, D.cells, h2]
theorem fitsAgg {ks : List (Option Nat)} {cs : List D} (hk : ks.all (fun k => k.isNone) = true) (hl : cs.length = ks.length) (hc : cs.all plB = true) : fits [(true, ks)] [.agg cs] :=
  ⟨⟨⟨cs, rfl, hl⟩, by rw [xs_agg hl]; exact fitsCells_all hk hl hc⟩, trivial⟩
end Go.Proofs.Ytjdemohgegldaaa
