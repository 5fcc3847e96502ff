/-
  The walk of RttParts.
-/
import Derived.Test.YtjkbhmlpmapobaaW11
import Derived.Deep.RegionHeld3
namespace Go.Proofs.Ytjkbhmlpmapobaa
open Go.RowKit

theorem wf_take {zs : List Int} (h : ∀ z ∈ zs, (Lit.int .i16 z).wf = true) (k : Nat) : ∀ z ∈ zs.take k, (Lit.int .i64 z).wf = true := fun z hz => i16_i64 (h z (List.mem_of_mem_take hz))

theorem box_new' (w : World) (x : S) (t : Nat) : Box (w.alloc (.cells #[.int .i64 x.s, .int .i64 x.v, .bool x.k, .int .i64 x.h] t)) w.heap.size x := by
  refine ⟨⟨?_, ?_, ?_, ?_⟩, ?_, ?_, ?_, ?_⟩ <;> simp [go_sem]

/-- Three states read, whatever was made since. -/
theorem held3s {w0 w' : World} {p q r : Nat} {x y z : S} (hb : Below w0.heap.size w0 w') (hx : Box w0 p x) (hp : p < w0.heap.size) (hy : Box w0 q y) (hq : q < w0.heap.size) (hz : Box w0 r z) (hr : r < w0.heap.size) :
    Below w0.heap.size w0 w' ∧ (w'.cell? ⟨p, 0, none⟩ = some (.int .i64 x.s) ∧ w'.cell? ⟨p, 1, none⟩ = some (.int .i64 x.v) ∧ w'.cell? ⟨p, 2, none⟩ = some (.bool x.k) ∧ w'.cell? ⟨p, 3, none⟩ = some (.int .i64 x.h)) ∧ (w'.cell? ⟨q, 0, none⟩ = some (.int .i64 y.s) ∧ w'.cell? ⟨q, 1, none⟩ = some (.int .i64 y.v) ∧ w'.cell? ⟨q, 2, none⟩ = some (.bool y.k) ∧ w'.cell? ⟨q, 3, none⟩ = some (.int .i64 y.h)) ∧ (w'.cell? ⟨r, 0, none⟩ = some (.int .i64 z.s) ∧ w'.cell? ⟨r, 1, none⟩ = some (.int .i64 z.v) ∧ w'.cell? ⟨r, 2, none⟩ = some (.bool z.k) ∧ w'.cell? ⟨r, 3, none⟩ = some (.int .i64 z.h)) :=
  ⟨hb, (hx.below hb hp).1, (hy.below hb hq).1, (hz.below hb hr).1⟩

set_option maxHeartbeats 2000000 in
theorem parts_walk (A1 : Option Addr) (len1 cap1 : Nat) (zs1 : List Int) (A2 : Option Addr) (len2 cap2 : Nat) (zs2 : List Int) (w : World) (hr1 : IsRow .i16 w A1 len1 cap1 zs1) (hr2 : IsRow .i16 w A2 len2 cap2 zs2) :
    Calls Try.prog 6 #[.slice A1 len1 cap1, .slice A2 len2 cap2] w fun e w' => e = .returned (.bool true) ∧ Below w.heap.size w w' := by
  by_cases hl1 : 40 < len1
  · have d1 : decide ((40 : Int) < (len1 : Int)) = true := by simp; omega
    go_enter Try.func6, Try.ntmps6
    go_wp2_with fail
    refine (awake_true _).mono ?_
    rintro e w1 ⟨rfl, hb1⟩
    go_wp2
    go_ret
    exact ⟨rfl, hb1⟩
  have d1 : decide ((40 : Int) < (len1 : Int)) = false := by simp; omega
  by_cases hl2 : 40 < len2
  · have d2 : decide ((40 : Int) < (len2 : Int)) = true := by simp; omega
    go_enter Try.func6, Try.ntmps6
    go_wp2_with fail
    refine (awake_true _).mono ?_
    rintro e w1 ⟨rfl, hb1⟩
    go_wp2
    go_ret
    exact ⟨rfl, hb1⟩
  have d2 : decide ((40 : Int) < (len2 : Int)) = false := by simp; omega
  obtain ⟨i0, hi, hz0, hz1, hz2⟩ := info_parts info3
  have HR1 := Lib.hid hr1
  have HR2 := Lib.hid hr2
  clear hr1 hr2
  go_enter Try.func6, Try.ntmps6
  go_wp2_with fail
  go_loopw [5, 7] (fun v i wr => ∃ k : Nat, k ≤ len1 ∧ i = .int .i64 (k : Int) ∧ wr.ownsRow w.heap.size 3 1 v (zs1.take k).length (cellsOf (zs1.take k)) ∧ Below w.heap.size w wr) (fun _ i _ => len1 - (intOf i).toNat)
  case atStart => exact ⟨0, Nat.zero_le _, rfl, by simpa [cellsOf] using World.ownsRow_nil w w.heap.size 3 1, Below.refl _ _⟩
  case round =>
    obtain ⟨k, hk, rfl, hown, hbel⟩ := hrel
    have HW := Lib.hid hown
    have HB := Lib.hid hbel
    clear hown hbel
    have hlen1 := HR1.out.1
    by_cases hlt : k < len1
    · have hsize : w.heap.size ≤ wr.heap.size := HB.out.size
      have htk : (zs1.take k).length = k := by rw [List.length_take]; omega
      have hsn := take_snoc zs1 k (by omega)
      have HS := Lib.hid hsn
      clear hsn
      obtain ⟨bb, o, rfl, hbl, hck, hwz⟩ := (HR1.out.below (Nat.le_refl _) HB.out).at_ hlt
      have hz16 := wf_i16 hwz
      have hrow := row_one wr (zs1.getD k 0) (i16_i64 hwz)
      have HO := Lib.hid hrow
      clear hrow hwz
      generalize zs1.getD k 0 = z at *
      generalize zs1.take k = zk at *
      go_wp2_with (first
        | (at_builtin; go_loud (refine wpList_append_row rfl (.tmp 27) (.tmp 33) 24 rfl w.heap.size 3 i0 (.int .i64 0) 8 Try.underlying24 hi hz0 hz1 hz2 rfl _ _ _ rfl (HW.out.alloc _) _ _ _ _ rfl HO.out (by unfold maxLen; omega) (by omega) (by simp; omega) ?_; intro v2 w2 hown2 hgrow2; have HO2 := Lib.hid hown2; have HG2 := Lib.hid hgrow2; clear hown2 hgrow2)))
      have hb2 : Below w.heap.size w w2 := Below.grown (HB.out.alloc hsize _) HG2.out (by simp; omega) (fun q hq => (HW.out.lt q hq).1)
      have ho2 : w2.ownsRow w.heap.size 3 1 v2 (zs1.take (k + 1)).length (cellsOf (zs1.take (k + 1))) := by
        rw [HS.out, cellsOf_append, List.length_append]
        exact HO2.out
      have B2 := Lib.hid hb2
      have O2 := Lib.hid ho2
      clear hb2 ho2
      go_wp2
      go_roundw
      case rel => exact ⟨k + 1, by omega, by go_num, O2.out, B2.out⟩
      case measure => simp [intOf]; omega
    · have htk : zs1.take k = zs1 := List.take_of_length_le (by omega)
      rw [htk] at HW
      clear htk
      obtain ⟨W1, hW1⟩ : ∃ W1, W1 = wr := ⟨_, rfl⟩
      subst hW1
      have hwf1 : ∀ z ∈ zs1, (Lit.int .i64 z).wf = true := fun z hz => i16_i64 (HR1.out.2.2.2.1 z hz)
      have hwf2 : ∀ z ∈ zs2, (Lit.int .i64 z).wf = true := fun z hz => i16_i64 (HR2.out.2.2.2.1 z hz)
      have hown := HW.out
      rw [hlen1] at hown
      obtain ⟨A3, c3, rfl, hrow1⟩ := row_own hown hwf1
      have R1 := Lib.hid hrow1
      have F1 := Lib.hid hwf1
      have F2 := Lib.hid hwf2
      have HQ := Lib.hid (HR2.out.below (Nat.le_refl _) HB.out)
      clear hrow1 hwf1 hwf2 hown HW
      go_wp2_with fail
      go_loopw [6, 8] (fun v i wr => ∃ k : Nat, k ≤ len2 ∧ i = .int .i64 (k : Int) ∧ wr.ownsRow W1.heap.size 3 1 v (zs2.take k).length (cellsOf (zs2.take k)) ∧ Below W1.heap.size W1 wr) (fun _ i _ => len2 - (intOf i).toNat)
      case atStart => exact ⟨0, Nat.zero_le _, rfl, by simpa [cellsOf] using World.ownsRow_nil W1 W1.heap.size 3 1, Below.refl _ _⟩
      case round =>
        obtain ⟨k, hk, rfl, hown, hbel⟩ := hrel
        have HW := Lib.hid hown
        have HC := Lib.hid hbel
        clear hown hbel
        have hlen2 := HR2.out.1
        by_cases hlt : k < len2
        · have hsize : W1.heap.size ≤ wr.heap.size := HC.out.size
          have htk : (zs2.take k).length = k := by rw [List.length_take]; omega
          have hsn := take_snoc zs2 k (by omega)
          have HS := Lib.hid hsn
          clear hsn
          obtain ⟨bb, o, rfl, hbl, hck, hwz⟩ := (HQ.out.below (Nat.le_refl _) HC.out).at_ hlt
          have hz16 := wf_i16 hwz
          have hrow := row_one wr (zs2.getD k 0) (i16_i64 hwz)
          have HO := Lib.hid hrow
          clear hrow hwz
          generalize zs2.getD k 0 = z at *
          generalize zs2.take k = zk at *
          go_wp2_with (first
            | (at_builtin; refine wpList_append_row rfl (.tmp 41) (.tmp 47) 24 rfl W1.heap.size 3 i0 (.int .i64 0) 8 Try.underlying24 hi hz0 hz1 hz2 rfl _ _ _ rfl (HW.out.alloc _) _ _ _ _ rfl HO.out (by unfold maxLen; omega) (by omega) (by simp; omega) ?_; intro v2 w2 hown2 hgrow2; have HO2 := Lib.hid hown2; have HG2 := Lib.hid hgrow2; clear hown2 hgrow2))
          have hb2 : Below W1.heap.size W1 w2 := Below.grown (HC.out.alloc hsize _) HG2.out (by simp; omega) (fun q hq => (HW.out.lt q hq).1)
          have ho2 : w2.ownsRow W1.heap.size 3 1 v2 (zs2.take (k + 1)).length (cellsOf (zs2.take (k + 1))) := by
            rw [HS.out, cellsOf_append, List.length_append]
            exact HO2.out
          have B2 := Lib.hid hb2
          have O2 := Lib.hid ho2
          clear hb2 ho2
          go_wp2
          go_roundw
          case rel => exact ⟨k + 1, by omega, by go_num, O2.out, B2.out⟩
          case measure => simp [intOf]; omega
        · have htk : zs2.take k = zs2 := List.take_of_length_le (by omega)
          rw [htk] at HW
          clear htk
          obtain ⟨W2, hW2⟩ : ∃ W2, W2 = wr := ⟨_, rfl⟩
          subst hW2
          have hown := HW.out
          rw [hlen2] at hown
          obtain ⟨A4, c4, rfl, hrow2⟩ := row_own hown F2.out
          have R2 := Lib.hid hrow2
          have Q1 := Lib.hid (R1.out.below (Nat.le_refl _) HC.out)
          have KB := Lib.hid (bt HB.out HC.out)
          clear hrow2 hown HW R1
          go_wp2_with fail
          refine (rel_of (w0 := W2) (new_own _) (Below.refl _ _)).mono ?_
          rintro e w3 ⟨rfl, k3⟩
          go_wp2_with fail
          refine (rel_of (w0 := W2) (run_own ⟨0, 0, false, 0⟩ _ _ _ zs1 _ (Q1.out.below (Nat.le_refl _) k3) (by omega)) k3).mono ?_
          rintro e w4 ⟨rfl, k4⟩
          clear k3
          go_wp2_with fail
          refine (rel_of (w0 := W2) (run_own (runs ⟨0, 0, false, 0⟩ zs1) _ _ _ zs2 _ (R2.out.below (Nat.le_refl _) k4) (by omega)) k4).mono ?_
          rintro e w5 ⟨rfl, k5⟩
          clear k4
          rw [← runs_append]
          obtain ⟨y, hy⟩ : ∃ y, y = runs ⟨0, 0, false, 0⟩ (zs1 ++ zs2) := ⟨_, rfl⟩
          rw [← hy]
          have HY := Lib.hid hy
          clear hy
          have K5 := Lib.hid k5
          clear k5
          go_wp2_with fail
          -- the first answer lies in a block of its own
          have hY := box_new' w5 y 26
          obtain ⟨W6, hW6⟩ : ∃ W6, W6 = w5.alloc (.cells #[.int .i64 y.s, .int .i64 y.v, .bool y.k, .int .i64 y.h] 26) := ⟨_, rfl⟩
          rw [← hW6] at hY ⊢
          have k6 : Below W2.heap.size W2 W6 := by rw [hW6]; exact K5.out.alloc K5.out.size _
          have l6 : w5.heap.size < W6.heap.size := by rw [hW6]; simp
          have K6 := Lib.hid k6
          have BY := Lib.hid hY
          clear k6 hY hW6 K5
          refine (rel_of (w0 := W6) (new_own _) (Below.refl _ _)).mono ?_
          rintro e w7 ⟨rfl, k7⟩
          have hz7 : W6.heap.size ≤ w7.heap.size := k7.size
          have K7 := Lib.hid k7
          clear k7
          have hown0 : (w7.alloc (.cells #[] 3)).ownsRow w7.heap.size 3 1 (.slice (some ⟨w7.heap.size, 0, none⟩) 0 0) 0 [] := World.ownsRow_made w7 #[] 0 (Nat.le_refl _) (Nat.zero_le _) rfl
          have HO := Lib.hid hown0
          have ka : Below w7.heap.size w7 (w7.alloc (.cells #[] 3)) := (Below.refl _ _).alloc (Nat.le_refl _) _
          have KA := Lib.hid ka
          have r1 := ((Q1.out.below (Nat.le_refl _) K6.out).below (Nat.le_refl _) K7.out).below (Nat.le_refl _) KA.out
          have P1 := Lib.hid r1
          clear hown0 ka r1
          go_wp2_with (first
            | (at_builtin; refine wpList_append_row rfl (.tmp 55) (.tmp 56) 24 rfl w7.heap.size 3 i0 (.int .i64 0) 8 Try.underlying24 hi hz0 hz1 hz2 rfl _ _ _ rfl HO.out _ _ _ _ rfl P1.out (by unfold maxLen; omega) (by omega) (by simp) ?_; intro v8 w8 hown8 hgrow8; have HO8 := Lib.hid hown8; have K8 := Lib.hid (Below.grown (B := w7.heap.size) KA.out hgrow8 (by simp) (fun q hq => Nat.le_of_eq (Option.some.inj (show some w7.heap.size = some q from hq)))); have P3 := Lib.hid (((R2.out.below (Nat.le_refl _) K6.out).below (Nat.le_refl _) K7.out).below (Nat.le_refl _) K8.out); clear hown8 hgrow8)
            | (at_builtin; refine wpList_append_row rfl (.tmp 57) (.tmp 58) 24 rfl w7.heap.size 3 i0 (.int .i64 0) 8 Try.underlying24 hi hz0 hz1 hz2 rfl _ _ _ rfl HO8.out _ _ _ _ rfl P3.out (by unfold maxLen; omega) (by omega) K8.out.size ?_; intro v9 w9 hown9 hgrow9; have HO9 := Lib.hid hown9; have K9 := Lib.hid (Below.grown K8.out hgrow9 K8.out.size (fun q hq => (HO8.out.lt q hq).1)); clear hown9 hgrow9))
          have hrow9 : ∃ A cap, v9 = .slice A (0 + len1 + len2) cap ∧ IsRow .i64 w9 A (0 + len1 + len2) cap (zs1 ++ zs2) := by
            refine row_own (base := w7.heap.size) (e := 3) ?_ fun z hz => ?_
            · rw [cellsOf_append]; exact HO9.out
            · rcases List.mem_append.1 hz with hz | hz
              · exact F1.out z hz
              · exact F2.out z hz
          obtain ⟨A5, c5, rfl, hrow9⟩ := hrow9
          have b9 : Below W6.heap.size W6 w9 := bt K7.out K9.out
          refine (rel_of (w0 := W6) (run_own ⟨0, 0, false, 0⟩ _ _ _ (zs1 ++ zs2) _ hrow9 (by omega)) b9).mono ?_
          rw [← HY.out]
          rintro e w10 ⟨rfl, k10⟩
          have by10 := BY.out.below k10 l6
          have l10 : w5.heap.size < w10.heap.size := Nat.lt_of_lt_of_le l6 k10.size
          have B10 := Lib.hid by10
          obtain ⟨⟨c0, c1, c2, c3'⟩, -⟩ := by10
          have kz : Below w.heap.size w w10 := bt (bt KB.out K6.out) k10
          have KZ := Lib.hid kz
          clear hrow9 b9 k10 kz
          go_wp2_with fail
          have hY2 := box_new' w10 y 26
          obtain ⟨W11, hW11⟩ : ∃ W11, W11 = w10.alloc (.cells #[.int .i64 y.s, .int .i64 y.v, .bool y.k, .int .i64 y.h] 26) := ⟨_, rfl⟩
          rw [← hW11] at hY2 ⊢
          have k11 : Below w10.heap.size w10 W11 := by rw [hW11]; exact (Below.refl _ _).alloc (Nat.le_refl _) _
          have l11 : w10.heap.size < W11.heap.size := by rw [hW11]; simp
          have B11 := Lib.hid (B10.out.below k11 l10)
          have C11 := Lib.hid hY2
          have K11 := Lib.hid (bt KZ.out k11)
          clear c0 c1 c2 c3' hY2 hW11 k11
          have hIn : Inw y := by
            rw [HY.out]
            refine inw_runs inw_new _ fun z hz => ?_
            have hz16 : (Lit.int .i16 z).wf = true := by
              rcases List.mem_append.1 hz with hz | hz
              · exact HR1.out.2.2.2.1 z hz
              · exact HR2.out.2.2.2.1 z hz
            have := wf_i16 hz16
            omega
          have hcy := hIn.1
          obtain ⟨hzk, hzh⟩ := smp_after hcy (t := 5) (by omega) (by omega)
          have hsm : smp (exps (exps y)) 5 = smp y 5 := (smp_exps (chk_exps hcy) (by omega) (by omega)).trans (smp_exps hcy (by omega) (by omega))
          obtain ⟨za, zb, hz⟩ : ∃ za zb, smp y 5 = ⟨za, zb, true, 0⟩ := ⟨(smp y 5).s, (smp y 5).v, by rw [← hzk, ← hzh]⟩
          rw [hz] at hsm
          have HSM := Lib.hid hsm
          have HZ := Lib.hid hz
          have HCY := Lib.hid hcy
          clear hIn hcy hzk hzh hsm hz
          refine (rel_of (w0 := W11) (expire_own y _) (Below.refl _ _)).mono ?_
          rintro e w12 ⟨rfl, k12⟩
          go_wp2_with fail
          refine (rel_of (w0 := W11) (expire_own (exps y) _) k12).mono ?_
          rintro e w13 ⟨rfl, k13⟩
          clear k12
          go_wp2_with fail
          refine (rel_of (w0 := W11) (sample_own (exps (exps y)) 5 _) k13).mono ?_
          rw [HSM.out]
          rintro e w14 ⟨rfl, k14⟩
          clear k13
          have K14 := Lib.hid k14
          have l14 : w10.heap.size < w14.heap.size := Nat.lt_of_lt_of_le l11 k14.size
          clear k14
          go_upto_region 15 with fail
          have hY3 := box_new' w14 ⟨za, zb, true, 0⟩ 26
          obtain ⟨W15, hW15⟩ : ∃ W15, W15 = w14.alloc (.cells #[.int .i64 za, .int .i64 zb, .bool true, .int .i64 0] 26) := ⟨_, rfl⟩
          rw [← hW15] at hY3 ⊢
          have k15 : Below w14.heap.size w14 W15 := by rw [hW15]; exact (Below.refl _ _).alloc (Nat.le_refl _) _
          have l15 : w14.heap.size < W15.heap.size := by rw [hW15]; simp
          have B15 := Lib.hid ((B11.out.below K14.out (by omega)).below k15 (by omega))
          have C15 := Lib.hid ((C11.out.below K14.out l11).below k15 l14)
          have D15 := Lib.hid hY3
          have K15 := Lib.hid (bt (bt K11.out K14.out) k15)
          have s1 : w5.heap.size < W15.heap.size := by omega
          have s2 : w10.heap.size < W15.heap.size := by omega
          clear hY3 hW15 k15
          go_region_held3 (fun w' => Below W15.heap.size W15 w' ∧ (w'.cell? ⟨w5.heap.size, 0, none⟩ = some (.int .i64 y.s) ∧ w'.cell? ⟨w5.heap.size, 1, none⟩ = some (.int .i64 y.v) ∧ w'.cell? ⟨w5.heap.size, 2, none⟩ = some (.bool y.k) ∧ w'.cell? ⟨w5.heap.size, 3, none⟩ = some (.int .i64 y.h)) ∧ (w'.cell? ⟨w10.heap.size, 0, none⟩ = some (.int .i64 y.s) ∧ w'.cell? ⟨w10.heap.size, 1, none⟩ = some (.int .i64 y.v) ∧ w'.cell? ⟨w10.heap.size, 2, none⟩ = some (.bool y.k) ∧ w'.cell? ⟨w10.heap.size, 3, none⟩ = some (.int .i64 y.h)) ∧ (w'.cell? ⟨w14.heap.size, 0, none⟩ = some (.int .i64 za) ∧ w'.cell? ⟨w14.heap.size, 1, none⟩ = some (.int .i64 zb) ∧ w'.cell? ⟨w14.heap.size, 2, none⟩ = some (.bool true) ∧ w'.cell? ⟨w14.heap.size, 3, none⟩ = some (.int .i64 0)))
            ((refine held3s ?_ B15.out s1 C15.out s2 D15.out l15; first | assumption | exact (Below.refl _ _).drew))
            (first
              | (go_at_call 16; refine (rel_of (w0 := W15) (sample_own y 5 _) (And.left (by assumption))).mono ?_; rw [HZ.out]; rintro e w' ⟨rfl, kb⟩)
              | (go_at_call 8; refine (rel_of (w0 := W15) (check_own' y _) (And.left (by assumption))).mono ?_; rw [HCY.out]; rintro e w' ⟨rfl, kb⟩)
              | (go_at_call 7; refine (rel_of (w0 := W15) (awake_true _) (And.left (by assumption))).mono ?_; rintro e w' ⟨rfl, kb⟩))
          all_goals go_wp2
          all_goals go_ret
          all_goals exact ⟨rfl, bt K15.out (And.left (by assumption))⟩
end Go.Proofs.Ytjkbhmlpmapobaa
