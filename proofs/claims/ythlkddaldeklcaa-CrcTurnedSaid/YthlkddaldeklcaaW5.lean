/-
  A sum tells a byte that was changed; the walk of CrcTurned.
-/
import Derived.Test.YthlkddaldeklcaaW4
import Derived.Lib.ConvBytes
namespace Go.Proofs.Ythlkddaldeklcaa
open Go.RowKit

theorem xr_nat (a b : Nat) : XR (a : Int) (b : Int) = ((a ^^^ b : Nat) : Int) := by simp [XR]
theorem xr_cancel {a b c : Int} (ha : U a) (hb : U b) (hc : U c) (h : XR a c = XR b c) : a = b := by
  obtain ⟨a, rfl⟩ := Int.eq_ofNat_of_zero_le ha.1
  obtain ⟨b, rfl⟩ := Int.eq_ofNat_of_zero_le hb.1
  obtain ⟨c, rfl⟩ := Int.eq_ofNat_of_zero_le hc.1
  rw [xr_nat, xr_nat] at h
  have h' : a ^^^ c = b ^^^ c := by omega
  have : (a ^^^ c) ^^^ c = (b ^^^ c) ^^^ c := by rw [h']
  simp [Nat.xor_assoc] at this
  omega
theorem xr_top {a : Int} (h0 : 0 ≤ a) (h1 : a < 2147483648) : 2147483648 ≤ XR a 3988292384 := by
  obtain ⟨a, rfl⟩ := Int.eq_ofNat_of_zero_le h0
  rw [show (3988292384 : Int) = ((3988292384 : Nat) : Int) from rfl, xr_nat]
  rcases Nat.lt_or_ge (a ^^^ 3988292384) 2147483648 with h | h
  · have t1 : (a ^^^ 3988292384).testBit 31 = false := Nat.testBit_lt_two_pow (by omega)
    have t2 : a.testBit 31 = false := Nat.testBit_lt_two_pow (by omega)
    have t3 : (3988292384 : Nat).testBit 31 = true := by decide
    rw [Nat.testBit_xor, t2, t3] at t1
    cases t1
  · omega
theorem one_inj {x y : Int} (hx : U x) (hy : U y) (h : one x = one y) : x = y := by
  obtain ⟨x1, x2⟩ := hx
  obtain ⟨y1, y2⟩ := hy
  unfold one at h
  by_cases cx : x % 2 = 1 <;> by_cases cy : y % 2 = 1
  · rw [if_pos cx, if_pos cy] at h
    have := xr_cancel ⟨by omega, by omega⟩ ⟨by omega, by omega⟩ ⟨by omega, by omega⟩ h
    omega
  · rw [if_pos cx, if_neg cy] at h
    have := xr_top (a := x / 2) (by omega) (by omega)
    omega
  · rw [if_neg cx, if_pos cy] at h
    have := xr_top (a := y / 2) (by omega) (by omega)
    omega
  · rw [if_neg cx, if_neg cy] at h
    omega
theorem ones_inj {x y : Int} (hx : U x) (hy : U y) (k : Nat) (h : ones k x = ones k y) : x = y := by
  induction k with
  | zero => exact h
  | succ k ih => exact ih (one_inj (ones_u hx k) (ones_u hy k) h)
theorem regs_inj (l : List UInt8) {r q : Int} (hr : U r) (hq : U q) (h : regs l r = regs l q) : r = q := by
  induction l generalizing r q with
  | nil => exact h
  | cons c l ih =>
    have := ih (ones_u (xr_u hr (byte_u c)) 8) (ones_u (xr_u hq (byte_u c)) 8) h
    have := ones_inj (xr_u hr (byte_u c)) (xr_u hq (byte_u c)) 8 this
    exact xr_cancel hr hq (byte_u c) this
theorem xr_comm (a b : Int) : XR a b = XR b a := by unfold XR; rw [Nat.xor_comm]
/-- Two texts that part in one byte have two sums. -/
theorem more_parted (p q : List UInt8) (c d : UInt8) (h : more 0 (p ++ c :: q) = more 0 (p ++ d :: q)) : c = d := by
  have hz := xr_u zero_u all_u
  unfold more at h
  have h1 := xr_cancel (regs_u _ hz) (regs_u _ hz) all_u h
  rw [regs_append, regs_append] at h1
  have hp := regs_u p hz
  have h2 := regs_inj q (ones_u (xr_u hp (byte_u c)) 8) (ones_u (xr_u hp (byte_u d)) 8) h1
  have h3 := ones_inj (xr_u hp (byte_u c)) (xr_u hp (byte_u d)) 8 h2
  rw [xr_comm _ (c.toNat : Int), xr_comm _ (d.toNat : Int)] at h3
  have h4 := xr_cancel (byte_u c) (byte_u d) hp h3
  apply UInt8.toNat_inj.1
  omega
theorem four_inj {a b : Int} (ha : U a) (hb : U b) (h : four a = four b) : a = b := by
  obtain ⟨a1, a2⟩ := ha
  obtain ⟨b1, b2⟩ := hb
  simp only [four, List.cons.injEq, and_true] at h
  obtain ⟨h1, h2, h3, h4⟩ := h
  have f1 : ((UInt8.ofNat (a / 16777216).toNat).toNat : Int) = ((UInt8.ofNat (b / 16777216).toNat).toNat : Int) := by rw [h1]
  have f2 : ((UInt8.ofNat (a / 65536 % 256).toNat).toNat : Int) = ((UInt8.ofNat (b / 65536 % 256).toNat).toNat : Int) := by rw [h2]
  have f3 : ((UInt8.ofNat (a / 256 % 256).toNat).toNat : Int) = ((UInt8.ofNat (b / 256 % 256).toNat).toNat : Int) := by rw [h3]
  have f4 : ((UInt8.ofNat (a % 256).toNat).toNat : Int) = ((UInt8.ofNat (b % 256).toNat).toNat : Int) := by rw [h4]
  rw [byte_of _ (by omega) (by omega), byte_of _ (by omega) (by omega)] at f1 f2 f3 f4
  omega

/-- A text with its sum, one byte of which is another one. -/
def turn (s : ByteArray) (i : Nat) (d : UInt8) : ByteArray := ⟨((s ++ tl s).data.toList.set i d).toArray⟩
theorem turn_list (s : ByteArray) (i : Nat) (d : UInt8) : (turn s i d).data.toList = (s ++ tl s).data.toList.set i d := by simp [turn]
theorem turn_size (s : ByteArray) (i : Nat) (d : UInt8) : (turn s i d).size = s.size + 4 := by
  have h : (turn s i d).size = (turn s i d).data.toList.length := by simp
  rw [h, turn_list, List.length_set]
  simp [tl_size]
theorem turned_parts (s : ByteArray) (i : Nat) (hi : i < s.size + 4) (d : UInt8) (hd : (s ++ tl s).data.toList.getD i 0 ≠ d) :
    ¬ (turn s i d).extract ((turn s i d).size - 4) (turn s i d).size = tl (body (turn s i d)) := by
  intro h
  have hs := turn_size s i d
  have hl := turn_list s i d
  have h' : ((turn s i d).extract ((turn s i d).size - 4) (turn s i d).size).data.toList = (tl (body (turn s i d))).data.toList := by rw [h]
  rw [tl_list, Lib.extract_data] at h'
  unfold body at h'
  rw [Lib.extract_data, hs, hl] at h'
  have e0 : (s ++ tl s).data.toList = s.data.toList ++ four (more 0 s.data.toList) := by rw [← tl_list]; simp
  rw [e0] at h' hd
  have hn : s.data.toList.length = s.size := by simp
  have hf : (four (more 0 s.data.toList)).length = 4 := rfl
  generalize hm : more 0 s.data.toList = m at *
  have hmu : U m := by rw [← hm]; exact more_u zero_u _
  generalize s.data.toList = l at *
  generalize s.size = n at *
  rw [show n + 4 - 4 = n from by omega, show n + 4 - n = 4 from by omega, Nat.sub_zero, List.drop_zero] at h'
  by_cases hc : i < n
  · rw [List.set_append_left _ _ (by omega), List.drop_append_of_le_length (by simp; omega), List.drop_of_length_le (by simp; omega), List.nil_append,
      List.take_of_length_le (by omega), List.take_append_of_le_length (by simp; omega), List.take_of_length_le (by simp; omega)] at h'
    have h2 := four_inj hmu (more_u zero_u _) h'
    have hg : l.getD i 0 = l[i] := by simp [List.getD_eq_getElem?_getD, hn, hc]
    have e1 : l = l.take i ++ l[i] :: l.drop (i + 1) := by rw [List.getElem_cons_drop, List.take_append_drop]
    have e2 : l.set i d = l.take i ++ d :: l.drop (i + 1) := by rw [List.set_eq_take_append_cons_drop, if_pos (by omega)]
    rw [e2, ← hm] at h2
    have h3 : more 0 (l.take i ++ l[i] :: l.drop (i + 1)) = more 0 (l.take i ++ d :: l.drop (i + 1)) := by rw [← e1]; exact h2
    have h4 := more_parted _ _ _ _ h3
    apply hd
    rw [List.getD_eq_getElem?_getD, List.getElem?_append_left (by omega), ← List.getD_eq_getElem?_getD, hg, h4]
  · rw [List.set_append_right _ _ (by omega), List.drop_append_of_le_length (by omega), List.drop_of_length_le (by omega), List.nil_append,
      List.take_of_length_le (by simp [hf]), List.take_append_of_le_length (by omega), List.take_of_length_le (by omega), hm] at h'
    apply hd
    rw [List.getD_eq_getElem?_getD, List.getElem?_append_right (by omega)]
    have hj : i - l.length < (four m).length := by rw [hf]; omega
    have h5 : ((four m).set (i - l.length) d)[i - l.length]? = some d := by simp [hj]
    rw [h'] at h5
    rw [h5]; rfl

/-- A text made a list of bytes of the call's own: what the walk is told of the world behind it. -/
theorem conv_new (t : ByteArray) (w : World) : ∃ (c : Nat) (w' : World), (convert 9 36 (.string t)).run Try.prog w = .ok (.slice (some ⟨w.heap.size, 0, none⟩) t.size c) w' ∧ Below w.heap.size w w' ∧ w.heap.size < w'.heap.size ∧
    (∀ j, j < t.size → w'.cell? ⟨w.heap.size, j, none⟩ = some (.int .u8 ((t.data.toList.getD j 0).toNat : Int))) ∧ (∀ j, j < t.size → w'.frozen? ⟨w.heap.size, j, none⟩ = false) := by
  refine ⟨_, _, Lib.run_convert_string_bytes (P := Try.prog) w 9 36 5 t Try.underlying9 Try.underlying36 Try.underlying5, ?_, ?_, ?_, ?_⟩
  · exact ⟨rfl, rfl, rfl, by rw [Lib.bytesWorld_size]; omega, fun k hk => Lib.bytesWorld_at_old w 5 t k hk⟩
  · rw [Lib.bytesWorld_size]; omega
  · intro j hj
    have := Lib.bytesWorld_cell w 5 t j hj
    simpa using this
  · intro j hj
    have hsz : j < (Lib.bytesCells w 5 t).size := by
      simp [Lib.bytesCells]; omega
    simp [World.frozen?, Lib.bytesWorld_at_new]
    omega

theorem flip_u8 (c d : Int) (hc : 0 ≤ c) (hc' : c < 256) (hd : 1 ≤ d) (hd' : d < 256) : 0 ≤ bits .xor .u8 c d ∧ bits .xor .u8 c d < 256 ∧ bits .xor .u8 c d ≠ c := by
  rw [u8_xor c d hc hc' (by omega) hd']
  obtain ⟨c, rfl⟩ := Int.eq_ofNat_of_zero_le hc
  obtain ⟨d, rfl⟩ := Int.eq_ofNat_of_zero_le (show 0 ≤ d by omega)
  simp only [Int.toNat_natCast]
  have h : c ^^^ d < 2 ^ 8 := Nat.xor_lt_two_pow (by omega) (by omega)
  refine ⟨by omega, by omega, fun e => ?_⟩
  have e' : c ^^^ d = c := by omega
  have : c ^^^ (c ^^^ d) = 0 := by rw [e']; simp
  rw [← Nat.xor_assoc] at this
  simp at this
  omega

theorem conv_back (s t : ByteArray) (ht : t = s ++ tl s) (n : Nat) (hn : t.size = n) (W : World) (g c i : Nat) (hi : i < n) (d : UInt8) (v : Int) (hv : (d.toNat : Int) = v)
    (hc : ∀ j, j < n → W.cell? ⟨g, j, none⟩ = some (.int .u8 ((t.data.toList.getD j 0).toNat : Int))) :
    (convert 36 9 (.slice (some ⟨g, 0, none⟩) n c)).run Try.prog (W.setCell ⟨g, i, none⟩ (.int .u8 v)) = .ok (.string (turn s i d)) (W.setCell ⟨g, i, none⟩ (.int .u8 v)) := by
  have hlen : (t.data.toList.set i d).length = n := by rw [List.length_set]; simpa using hn
  have h := run_convert_bytes_back (P := Try.prog) (W.setCell ⟨g, i, none⟩ (.int .u8 v)) 36 9 5 ⟨g, 0, none⟩ c (t.data.toList.set i d) Try.underlying36 Try.underlying5 Try.underlying9 ?_
  · rw [hlen] at h
    rw [h, turn, ht]
  · intro j hj
    have hj' : j < n := by omega
    have ea : (Addr.mk g 0 none).add j = ⟨g, j, none⟩ := by
      unfold Addr.add
      split
      · rename_i h0; simp
      · simp
    rw [ea]
    by_cases e : j = i
    · subst e
      rw [World.cell?_setCell_same _ _ _ (hc j hj')]
      simp [hv]
    · rw [World.cell?_setCell_other _ _ _ _ (by intro h; injection h; omega), hc j hj']
      have hj2 : j < t.data.toList.length := by rw [List.length_set] at hj; exact hj
      simp only [List.getD_eq_getElem?_getD, List.getElem?_eq_getElem hj2, Option.getD_some]
      rw [List.getElem_set_ne (by omega)]

theorem turned_walk (s : ByteArray) (at_ by_ : Int) (w : World) (_hs : s.size ≤ maxLen) (ha : (Lit.int .u16 at_).wf = true) (hb : (Lit.int .u8 by_).wf = true) :
    Calls Try.prog 6 #[.string s, .int .u16 at_, .int .u8 by_] w fun e w' => e = .returned (.bool true) ∧ Below w.heap.size w w' := by
  obtain ⟨a1, a2⟩ := wf_u16 ha
  obtain ⟨b1, b2⟩ := wf_u8 hb
  by_cases hl : 200 < s.size
  · have hl' : (200 : Int) < (s.size : Int) := by omega
    go_enter Try.func6, Try.ntmps6
    go_wp2_with (go_at_call 8; refine (awake_true _).mono ?_; rintro e w1 ⟨rfl, hb1⟩)
    go_ret
    exact ⟨rfl, hb1⟩
  have hl' : ¬ (200 : Int) < (s.size : Int) := by omega
  have hz := size_seal s
  obtain ⟨t, ht⟩ : ∃ t, t = s ++ tl s := ⟨_, rfl⟩
  rw [← ht] at hz
  obtain ⟨n, hn⟩ : ∃ n, t.size = n := ⟨_, rfl⟩
  have hn4 : 4 ≤ n := by omega
  have hn5 : n ≤ 204 := by omega
  have hne : ((n : Int) == 0) = false := by simp; omega
  obtain ⟨i, hi, hi'⟩ : ∃ i : Nat, at_ % (n : Int) = (i : Int) ∧ i < n := by
    have h1 := Int.emod_nonneg at_ (show (n : Int) ≠ 0 by omega)
    have h2 := Int.emod_lt_of_pos at_ (show (0 : Int) < (n : Int) by omega)
    exact ⟨(at_ % (n : Int)).toNat, by omega, by omega⟩
  have HT := Lib.hid ht
  have HN := Lib.hid hn
  have HZ := Lib.hid hz
  clear hz ht hn ha hb
  go_enter Try.func6, Try.ntmps6
  go_wp2_with fail
  refine (seal_own _ (by omega) _).mono ?_
  rw [← HT.out]
  rintro e w1 ⟨rfl, hb1⟩
  obtain ⟨c, w2, kc, hb2, hsz, hcell, hfz⟩ := conv_new t w1
  rw [HN.out] at kc hcell hfz
  have hci := hcell i hi'
  have hfi := hfz i hi'
  have HC := Lib.hid hcell
  clear hcell hfz
  obtain ⟨b, hbt⟩ : ∃ b : UInt8, b = t.data.toList.getD i 0 := ⟨_, rfl⟩
  rw [← hbt] at hci
  have HB := Lib.hid hbt
  clear hbt
  have hbd : (b.toNat : Int) < 256 := by have := UInt8.toNat_lt b; omega
  obtain ⟨f1, f2, f3⟩ := flip_u8 (b.toNat : Int) (1 + by_ % 255) (by omega) hbd (by omega) (by omega)
  have F3 := Lib.hid f3
  clear f3
  have hdn : ((UInt8.ofNat (bits .xor .u8 (b.toNat : Int) (1 + by_ % 255)).toNat).toNat : Int) = bits .xor .u8 (b.toNat : Int) (1 + by_ % 255) := byte_of _ f1 f2
  have kd := conv_back s t HT.out n HN.out w2 w1.heap.size c i hi' _ _ hdn HC.out
  have HD := Lib.hid hdn
  clear hdn
  go_wp2_with fail
  refine (unseal_no _ ?h1 ?h2 ?h3 _).mono ?_
  case h1 => rw [turn_size]; omega
  case h2 => rw [turn_size]; omega
  case h3 =>
    refine turned_parts s i (by have := HZ.out; have := HN.out; omega) _ ?_
    rw [← HT.out, ← HB.out]
    intro e
    have := HD.out
    rw [← e] at this
    exact F3.out this.symm
  rintro e w3 ⟨rfl, hb3⟩
  have b3 : Below w.heap.size w w3 := by
    have b2 : Below w.heap.size w w2 := bt hb1 hb2
    have bs := b2.setCell (p := ⟨w1.heap.size, i, none⟩) hb1.size (.int .u8 (bits .xor .u8 (b.toNat : Int) (1 + by_ % 255)))
    exact bt bs hb3
  go_wp2_with fail
  refine (awake_true _).mono ?_
  rintro e w4 ⟨rfl, hb4⟩
  go_wp2
  go_ret
  exact ⟨rfl, bt b3 hb4⟩
end Go.Proofs.Ythlkddaldeklcaa
