/-
  The walks of layer 1's functions: a number laid.
-/
import Derived.Test.YtomajnngifoiiaaW7
namespace Go.Proofs.Ytomajnngifoiiaa
open Go.RowKit

theorem info5 : (Try.prog.info? 5).map (fun i => (i.zero, i.size, i.bytes)) = some (some (.int .u8 0), 1, 1) := by kernel_rfl

/-- A number's last byte; its bytes, the highest first. -/
def ob (z : Int) : UInt8 := UInt8.ofNat (z % 256).toNat
theorem ob_val (z : Int) : ((ob z).toNat : Int) = z % 256 := by
  unfold ob
  rw [UInt8.toNat_ofNat']
  omega
def encTo (n : Int) (k j : Nat) : List UInt8 := (List.range j).map fun i => ob (n / 256 ^ (k - 1 - i))
theorem encTo_succ (n : Int) (k j : Nat) : encTo n k (j + 1) = encTo n k j ++ [ob (n / 256 ^ (k - 1 - j))] := by
  unfold encTo
  rw [List.range_succ, List.map_append]; rfl
theorem byte_cell (n : Int) (K j : Nat) : Value.int .u8 (n / 2 ^ (8 * (K - 1 - j)) % 256) = .int .u8 ((ob (n / 256 ^ (K - 1 - j))).toNat : Int) := by
  rw [ob_val, show (256 : Int) = 2 ^ 8 from rfl, ← Int.pow_mul]
theorem encTo_length (n : Int) (k j : Nat) : (encTo n k j).length = j := by simp [encTo]
def encB (n : Int) (j : Nat) : List UInt8 := (List.range j).reverse.map fun i => ob (n / 256 ^ i)
theorem encB_succ (n : Int) (j : Nat) : encB n (j + 1) = ob (n / 256 ^ j) :: encB n j := by
  unfold encB
  rw [List.range_succ, List.reverse_append]; rfl
theorem encB_length (n : Int) (j : Nat) : (encB n j).length = j := by simp [encB]
theorem enc_same (n : Int) (k : Nat) : encB n k = encTo n k k := by
  apply List.ext_getElem
  · simp [encB, encTo]
  · intro i h1 h2
    simp [encB, encTo]
/-- Bytes, with a number laid behind them. -/
def layL (bs : List UInt8) (n k : Int) : List UInt8 := if fitb n k then bs ++ encTo n k.toNat k.toNat else bs

set_option maxHeartbeats 1000000 in
theorem lay_own (v : Value) (bs : List UInt8) (n k : Int) (w : World) (hrd : Rd w v bs) (hl : bs.length ≤ 1000000) (hn : (Lit.int .i64 n).wf = true) :
    Calls Try.prog 22 #[v, .int .i64 n, .int .i64 k] w fun e w' => (∃ v', e = .returned v' ∧ Rd w' v' (layL bs n k)) ∧ Below w.heap.size w w' := by
  obtain ⟨i0, hi, hz0, hz1, hz2⟩ := info_parts info5
  obtain ⟨ao, c, rfl, -⟩ := id hrd
  have hr1 : Rd (w.alloc (.cells #[] 5)) (.slice ao bs.length c) bs := hrd.below (Nat.le_refl _) ((Below.refl _ w).alloc (Nat.le_refl _) _)
  have HR := Lib.hid hr1
  have hown0 : (w.alloc (.cells #[] 5)).ownsRow w.heap.size 5 1 (.slice (some ⟨w.heap.size, 0, none⟩) 0 0) 0 [] := World.ownsRow_made w #[] 0 (Nat.le_refl _) (Nat.zero_le _) rfl
  have HO := Lib.hid hown0
  clear hr1 hrd hown0
  cases hf : fitb n k
  · have hL : layL bs n k = bs := by simp [layL, hf]
    rw [hL]; clear hL
    go_enter Try.func22, Try.ntmps22
    go_wp2_with (first
      | (at_builtin; refine wpList_append_rd rfl (.tmp 9) (.tmp 10) 46 rfl w.heap.size 5 i0 (.int .u8 0) 1 Try.underlying46 hi hz0 hz1 hz2 rfl _ _ _ rfl HO.out _ bs rfl HR.out (by simp [maxLen]; omega) (by simp; omega) (by simp) ?_; intro v1 w1 hown1 hgrow1; have HO1 := Lib.hid hown1; have HG1 := Lib.hid hgrow1; clear hown1 hgrow1)
      | (go_at_call 24; refine (fits_own n k _ hn).mono ?_; rintro e w2 ⟨rfl, rfl⟩))
    have hg := Below.grown (B := w.heap.size) ((Below.refl _ w).alloc (Nat.le_refl _) (.cells #[] 5)) HG1.out (by simp) (fun q hq => Nat.le_of_eq (Option.some.inj (show some w.heap.size = some q from hq)))
    have hr := Rd.own (bs := bs) (by simpa using HO1.out)
    refine bodyPost_ret (v := v1) (by simp [results, Try.results22, go_sem]) rfl ⟨⟨v1, rfl, hr⟩, hg⟩
  · obtain ⟨k1, k7, n0, nk⟩ := fitb_iff.1 hf
    obtain ⟨K, hK⟩ : ∃ K : Nat, k = (K : Int) := ⟨k.toNat, by omega⟩
    subst hK
    have hL : layL bs n K = bs ++ encTo n K K := by simp [layL, hf]
    rw [hL]; clear hL nk
    go_enter Try.func22, Try.ntmps22
    go_wp2_with (first
      | (at_builtin; refine wpList_append_rd rfl (.tmp 9) (.tmp 10) 46 rfl w.heap.size 5 i0 (.int .u8 0) 1 Try.underlying46 hi hz0 hz1 hz2 rfl _ _ _ rfl HO.out _ bs rfl HR.out (by simp [maxLen]; omega) (by simp; omega) (by simp) ?_; intro v1 w1 hown1 hgrow1; have HO1 := Lib.hid hown1; have HG1 := Lib.hid hgrow1; clear hown1 hgrow1)
      | (go_at_call 24; refine (fits_own n (K : Int) _ hn).mono ?_; rintro e w2 ⟨rfl, rfl⟩))
    have hg := Below.grown (B := w.heap.size) ((Below.refl _ w).alloc (Nat.le_refl _) (.cells #[] 5)) HG1.out (by simp) (fun q hq => Nat.le_of_eq (Option.some.inj (show some w.heap.size = some q from hq)))
    have ho := HO1.out
    have HG := Lib.hid hg
    clear hg
    clear ho
    go_loopw [7, 18] (fun v i wr => ∃ j : Nat, j ≤ K ∧ i = .int .i64 (j : Int) ∧ wr.ownsRow w.heap.size 5 1 v (bs.length + j) (cellsOf (bs ++ encTo n K j)) ∧ Below w.heap.size w wr) (fun _ i _ => K - (intOf i).toNat)
    case atStart => exact ⟨0, Nat.zero_le _, rfl, by simpa [encTo] using HO1.out, HG.out⟩
    case round =>
      obtain ⟨j, hj, rfl, hown, hbel⟩ := hrel
      have HW := Lib.hid hown
      have HB := Lib.hid hbel
      clear hown hbel
      by_cases hlt : j < K
      · have hsize : w.heap.size ≤ wr.heap.size := HB.out.size
        have hrd1 : Rd (wr.alloc (.cells #[.int .u8 (n / 2 ^ (8 * (K - 1 - j)) % 256)] 5)) (.slice (some ⟨wr.heap.size, 0, none⟩) 1 1) [ob (n / 256 ^ (K - 1 - j))] := by
          rw [byte_cell]
          refine ⟨_, _, rfl, Nat.le_refl _, by simp [maxLen], fun h => (by cases h), .inr ⟨_, _, rfl, by simp, fun i hi => ?_⟩⟩
          match i, hi with
          | 0, _ => simp
        have HD := Lib.hid hrd1
        clear hrd1
        go_wp2_with (first
          | (at_builtin; refine wpList_append_rd rfl (.tmp 21) (.tmp 30) 46 rfl w.heap.size 5 i0 (.int .u8 0) 1 Try.underlying46 hi hz0 hz1 hz2 rfl _ _ _ rfl (HW.out.alloc _) _ _ rfl HD.out (by simp [maxLen]; omega) (by simp; omega) (by simp; omega) ?_; intro v2 w2 hown2 hgrow2; have HO2 := Lib.hid hown2; have HG2 := Lib.hid hgrow2; clear hown2 hgrow2))
        have hb2 : Below w.heap.size w w2 := Below.grown (HB.out.alloc hsize _) HG2.out (by simp; omega) (fun q hq => (HW.out.lt q hq).1)
        have ho2 : w2.ownsRow w.heap.size 5 1 v2 (bs.length + (j + 1)) (cellsOf (bs ++ encTo n K (j + 1))) := by
          rw [encTo_succ, ← List.append_assoc, cellsOf_append (bs ++ encTo n K j)]
          exact HO2.out
        have B2 := Lib.hid hb2
        have O2 := Lib.hid ho2
        clear hb2 ho2
        go_wp2
        go_roundw
        case rel => exact ⟨j + 1, by omega, by go_num, O2.out, B2.out⟩
        case measure => simp [intOf]; omega
      · go_wp2_with fail
        have : j = K := by omega
        subst this
        refine bodyPost_ret (v := _) (by simp [results, Try.results22, go_sem]) rfl ⟨⟨_, rfl, Rd.own HW.out⟩, HB.out⟩

/-- A row of one byte is new. -/
theorem owns_one (w : World) (x : Value) (B : Nat) (hB : B ≤ w.heap.size) : (w.alloc (.cells #[x] 5)).ownsRow B 5 1 (.slice (some ⟨w.heap.size, 0, none⟩) 1 1) 1 [x] :=
  ⟨rfl, .inr ⟨w.heap.size, 1, #[x], rfl, hB, heap_alloc_new w _, Nat.le_refl _, by simp [maxLen], rfl, rfl⟩⟩

set_option maxHeartbeats 1000000 in
theorem lay_ref (v : Value) (bs : List UInt8) (n k : Int) (w : World) (hrd : Rd w v bs) (hl : bs.length ≤ 1000000) (hn : (Lit.int .i64 n).wf = true) :
    Calls Try.prog 23 #[v, .int .i64 n, .int .i64 k] w fun e w' => (∃ v', e = .returned v' ∧ Rd w' v' (layL bs n k)) ∧ Below w.heap.size w w' := by
  obtain ⟨i0, hi, hz0, hz1, hz2⟩ := info_parts info5
  obtain ⟨ao, c, rfl, -⟩ := id hrd
  have HR := Lib.hid hrd
  clear hrd
  cases hf : fitb n k
  · have hL : layL bs n k = bs := by simp [layL, hf]
    rw [hL]; clear hL
    go_enter Try.func23, Try.ntmps23
    go_wp2_with (go_at_call 25; refine (fits_ref n k _ hn).mono ?_; rintro e w2 ⟨rfl, rfl⟩)
    exact bodyPost_ret (v := .slice ao bs.length c) (by simp [results, Try.results23, go_sem]) rfl ⟨⟨_, rfl, HR.out⟩, Below.refl _ _⟩
  · obtain ⟨k1, k7, n0, nk⟩ := fitb_iff.1 hf
    obtain ⟨K, hK⟩ : ∃ K : Nat, k = (K : Int) := ⟨k.toNat, by omega⟩
    subst hK
    have hL : layL bs n K = bs ++ encB n K := by simp [layL, hf, enc_same]
    rw [hL]; clear hL nk
    go_enter Try.func23, Try.ntmps23
    go_wp2_with (go_at_call 25; refine (fits_ref n (K : Int) _ hn).mono ?_; rintro e w2 ⟨rfl, rfl⟩)
    obtain ⟨n1, n2⟩ := wf_i64 hn
    go_loopw [1, 7, 8] (fun m v i wr => ∃ j : Nat, j ≤ K ∧ i = .int .i64 (j : Int) ∧ m = .int .i64 (n / 256 ^ j) ∧ wr.ownsRow w.heap.size 5 1 v (encB n j).length (cellsOf (encB n j)) ∧ Below w.heap.size w wr) (fun _ _ i _ => K - (intOf i).toNat)
    case atStart => exact ⟨0, Nat.zero_le _, rfl, by simp, World.ownsRow_nil _ _ _ _, Below.refl _ _⟩
    case round =>
      obtain ⟨j, hj, rfl, rfl, hown, hbel⟩ := hrel
      have hsize : w.heap.size ≤ wr.heap.size := hbel.size
      have hlen := encB_length n j
      have HW := Lib.hid hown
      have HB := Lib.hid hbel
      have hs := encB_succ n j
      have HS := Lib.hid hs
      clear hown hbel hs
      by_cases hlt : j < K
      · have hd : n / 256 ^ (j + 1) = n / 256 ^ j / 256 := by
          rw [Int.pow_succ]
          exact Int.ediv_mul_of_nonneg (Int.le_of_lt (Int.pow_pos (by decide)))
        have HD := Lib.hid hd
        have hnn : 0 ≤ n / 256 ^ j := Int.ediv_nonneg (by omega) (Int.le_of_lt (Int.pow_pos (by decide)))
        have hle : n / 256 ^ j ≤ n := Int.ediv_le_self _ (by omega)
        clear hd
        generalize n / 256 ^ j = m at *
        generalize encB n j = bj at *
        have hob : Value.int .u8 (m % 256) = .int .u8 ((ob m).toNat : Int) := by rw [ob_val]
        have HB8 := Lib.hid hob
        clear hob
        have hrx : Rd (wr.alloc (.cells #[.int .u8 (m % 256)] 5)) _ bj := (Rd.own HW.out).below (Nat.le_refl _) ((Below.refl wr.heap.size wr).alloc (Nat.le_refl _) _)
        have HX := Lib.hid hrx
        clear hrx
        go_wp2_with (first
          | (at_builtin; refine wpList_append_rd rfl (.tmp 23) (.tmp 24) 46 rfl w.heap.size 5 i0 (.int .u8 0) 1 Try.underlying46 hi hz0 hz1 hz2 rfl _ _ _ rfl (owns_one wr _ w.heap.size hsize) _ bj rfl HX.out (by simp [maxLen]; omega) (by simp; omega) (by simp; omega) ?_; intro v2 w2 hown2 hgrow2; have HO2 := Lib.hid hown2; have HG2 := Lib.hid hgrow2; clear hown2 hgrow2))
        have hb2 : Below w.heap.size w w2 := Below.grown (HB.out.alloc hsize _) HG2.out (by simp; omega) (fun q hq => Nat.le_trans hsize (Nat.le_of_eq (Option.some.inj (show some wr.heap.size = some q from hq))))
        have ho2 : w2.ownsRow w.heap.size 5 1 v2 (encB n (j + 1)).length (cellsOf (encB n (j + 1))) := by
          have := HO2.out
          rw [HB8.out] at this
          rw [HS.out, List.length_cons, Nat.add_comm]
          exact this
        have B2 := Lib.hid hb2
        have O2 := Lib.hid ho2
        clear hb2 ho2
        go_wp2
        go_roundw
        case rel => exact ⟨j + 1, by omega, by go_num, by rw [HD.out], O2.out, B2.out⟩
        case measure => simp [intOf]; omega
      · have : j = K := by omega
        subst this
        have hb0 : Rd wr (.slice ao bs.length c) bs := HR.out.below (Nat.le_refl _) HB.out
        have H0 := Lib.hid hb0
        clear hb0
        go_wp2_with (first
          | (at_builtin; refine wpList_append_rd rfl (.tmp 28) (.tmp 29) 46 rfl w.heap.size 5 i0 (.int .u8 0) 1 Try.underlying46 hi hz0 hz1 hz2 rfl _ _ _ rfl (World.ownsRow_nil wr _ _ _) _ bs rfl H0.out (by simp [maxLen]; omega) (by simp; omega) hsize ?_; intro v2 w2 hown2 hgrow2; have HO2 := Lib.hid hown2; have HG2 := Lib.hid hgrow2; have H2 := Lib.hid (Rd.own (HW.out.kept hgrow2 (Classical.em (Value.ownBlock _ = none)))); clear hown2 hgrow2)
          | (at_builtin; refine wpList_append_rd rfl (.tmp 30) (.tmp 31) 46 rfl w.heap.size 5 i0 (.int .u8 0) 1 Try.underlying46 hi hz0 hz1 hz2 rfl _ _ _ rfl HO2.out _ (encB n j) rfl H2.out (by simp [maxLen]; omega) (by simp; omega) (Nat.le_trans hsize HG2.out.size) ?_; intro v3 w3 hown3 hgrow3; have HO3 := Lib.hid hown3; have HG3 := Lib.hid hgrow3; clear hown3 hgrow3))
        have hb2 : Below w.heap.size w w2 := Below.grown HB.out HG2.out hsize (fun q hq => by cases (show (none : Option Nat) = some q from hq))
        have hb3 : Below w.heap.size w w3 := Below.grown hb2 HG3.out hb2.size (fun q hq => (HO2.out.lt q hq).1)
        have hr3 : Rd w3 v3 (bs ++ encB n j) := by
          refine Rd.own (base := w.heap.size) (e := 5) (n := 0 + bs.length + (encB n j).length) ?_
          rw [cellsOf_append]
          exact HO3.out
        exact bodyPost_ret (v := v3) (by simp [results, Try.results23, go_sem]) rfl ⟨⟨_, rfl, hr3⟩, hb3⟩
end Go.Proofs.Ytomajnngifoiiaa
