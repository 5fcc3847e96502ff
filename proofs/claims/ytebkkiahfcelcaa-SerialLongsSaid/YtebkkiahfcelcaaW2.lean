/-
  The walks of layer 4's functions that loop.
-/
import Derived.Test.YtebkkiahfcelcaaW1
namespace Go.Proofs.Ytebkkiahfcelcaa
open Go.RowKit

theorem long_ref (near a : Int) (ha : U a) (w : World) : Calls Try.prog 17 #[.int .i64 near, .int .u32 a] w fun e w' => e = .returned (.int .i64 (lng near a)) ∧ w = w' := by
  have h3 := best_three near a ha.1 ha.2
  have hb := fun j hj => best_bd (clampI near) a (by unfold clampI; omega) (by unfold clampI; omega) ha j hj
  obtain ⟨m, hm, hm0, hm1⟩ : ∃ m, m = clampI near ∧ 0 ≤ m ∧ m ≤ 1099511627776 := ⟨_, rfl, by unfold clampI; omega, by unfold clampI; omega⟩
  rw [← hm] at h3 hb
  have H3 := Lib.hid h3
  have HB := Lib.hid hb
  have HM := Lib.hid hm
  clear h3 hb hm
  obtain ⟨h1, h2⟩ := ha
  go_enter Try.func17, Try.ntmps17
  go_upto_region 1 with (fail)
  go_cut [0] (fun v wx => v = .int .i64 m ∧ wx = w)
  case first =>
    go_wp2
    all_goals go_meet
    all_goals exact ⟨by rw [HM.out]; unfold clampI; congr 1; omega, rfl⟩
  case rest =>
    obtain ⟨rfl, rfl⟩ := hcut
    go_wp2_with fail
    go_loop [5, 6] (fun b k => ∃ j : Nat, j ≤ 3 ∧ k = .int .i64 ((j : Int) - 1) ∧ b = .int .i64 (best m a j)) (fun _ k => 3 - (intOf k + 1).toNat)
    case atStart => exact ⟨0, by omega, rfl, rfl⟩
    case round =>
      obtain ⟨j, hj, rfl, rfl⟩ := hrel
      obtain ⟨b, hbe⟩ : ∃ b, b = best m a j := ⟨_, rfl⟩
      have hbb := HB.out j hj
      rw [← hbe] at hbb ⊢
      have HBE := Lib.hid hbe
      clear hbe
      by_cases hlt : j < 3
      · go_wp2_with (go_at_call 22; refine (abs_ref _ (by omega) (by omega) _).mono ?_; rintro e w' ⟨rfl, rfl⟩)
        all_goals go_round
        all_goals first
          | (simp [intOf]; omega)
          | (refine ⟨j + 1, by omega, by congr 1; omega, ?_⟩
             have e : best m a (j + 1) = bestOf m ((m / 4294967296 + ((j : Int) - 1)) * 4294967296 + a) b := by rw [HBE.out]; rfl
             rw [e]
             congr 1
             unfold bestOf dist
             first | rw [if_pos (by omega)] | rw [if_neg (by omega)])
      · go_wp2
        go_ret
        exact ⟨ret_int (by rw [HBE.out, ← H3.out]; congr 1; omega), rfl⟩

/-- The latest of some. -/
def ltst (from_ : Int) : List Int → Int → Int
  | [], b => b
  | z :: l, b => ltst from_ l (if sd b from_ < sd z from_ then z else b)

theorem ltst_snoc (f : Int) (l : List Int) (z b : Int) : ltst f (l ++ [z]) b = if sd (ltst f l b) f < sd z f then z else ltst f l b := by
  induction l generalizing b with
  | nil => rfl
  | cons y l ih => exact ih _

theorem take_snoc (l : List Int) (k : Nat) (h : k < l.length) : l.take (k + 1) = l.take k ++ [l.getD k 0] := by
  rw [List.take_succ_eq_append_getElem h]; simp [List.getD_eq_getElem?_getD, h]

theorem latest_ref (A : Option Addr) (len cap : Nat) (zs : List Int) (f : Int) (hf : U f) (w : World) (hr : IsRow .u32 w A len cap zs) (hl : len ≤ 1000) :
    Calls Try.prog 21 #[.slice A len cap, .int .u32 f] w fun e w' => e = .returned (.int .u32 (ltst f zs f)) ∧ w = w' := by
  obtain ⟨hz, hlc, hcm, hu, hc⟩ := hr
  go_enter Try.func21, Try.ntmps21
  go_wp2_with fail
  go_loop [5, 6] (fun b i => ∃ k : Nat, k ≤ len ∧ i = .int .i64 (k : Int) ∧ b = .int .u32 (ltst f (zs.take k) f) ∧ U (ltst f (zs.take k) f)) (fun _ i => len - (intOf i).toNat)
  case atStart => exact ⟨0, by omega, rfl, rfl, hf⟩
  case round =>
    obtain ⟨k, hk, rfl, rfl, hub⟩ := hrel
    by_cases hlt : k < len
    · obtain ⟨b, o, rfl, _, hcell⟩ := hc.resolve_left (by omega)
      have hck := hcell k hlt
      have huz : U (zs.getD k 0) := wf_u32 <| hu _ (by rw [List.getD_eq_getElem?_getD]; simp [show k < zs.length by omega])
      have hsn := ltst_snoc f (zs.take k) (zs.getD k 0) f
      rw [← take_snoc zs k (by omega)] at hsn
      have HS := Lib.hid hsn
      clear hsn hcell hc hcm
      generalize zs.getD k 0 = z at *
      generalize ltst f (zs.take k) f = bst at *
      go_wp2_with (go_at_call 10; refine (diff_ref _ _ (by assumption) hf _).mono ?_; rintro e w' ⟨rfl, rfl⟩)
      all_goals go_round
      all_goals first
        | (simp [intOf]; omega)
        | (refine ⟨k + 1, by omega, by go_num, ?_⟩
           rw [HS.out]
           first
             | (rw [if_pos (by assumption)]; exact ⟨rfl, by assumption⟩)
             | (rw [if_neg (by omega)]; exact ⟨rfl, by assumption⟩))
    · go_wp2
      go_ret
      exact ⟨ret_int (by rw [List.take_of_length_le (by omega)]), rfl⟩

theorem latest_own (A : Option Addr) (len cap : Nat) (zs : List Int) (f : Int) (hf : U f) (w : World) (hr : IsRow .u32 w A len cap zs) (hl : len ≤ 1000) :
    Calls Try.prog 20 #[.slice A len cap, .int .u32 f] w fun e w' => e = .returned (.int .u32 (ltst f zs f)) ∧ Below w.heap.size w w' := by
  obtain ⟨hz, hlc, hcm, hu, hc⟩ := hr
  go_enter Try.func20, Try.ntmps20
  go_wp2_with fail
  go_loopw [13] (fun i wr => ∃ k : Nat, k ≤ len ∧ i = .int .i64 (k : Int) ∧ U (ltst f (zs.take k) f) ∧ ∃ x, wr.cell? ⟨w.heap.size, 0, none⟩ = some (.int .u32 (ltst f (zs.take k) f)) ∧ wr.cell? ⟨w.heap.size, 1, none⟩ = some (.int .u32 x) ∧
      wr.frozen? ⟨w.heap.size, 0, none⟩ = false ∧ wr.frozen? ⟨w.heap.size, 1, none⟩ = false ∧ Below w.heap.size w wr) (fun i _ => len - (intOf i).toNat)
  case atStart => exact ⟨0, by omega, rfl, hf, f, by simp [World.cell?_alloc_new, ltst], by simp [World.cell?_alloc_new], by simp [go_sem], by simp [go_sem], (Below.refl _ _).alloc (Nat.le_refl _) _⟩
  case round =>
    obtain ⟨k, hk, rfl, hub, x, hx0, hx1, hf0, hf1, hbel⟩ := hrel
    by_cases hlt : k < len
    · obtain ⟨b, o, rfl, hbl, hcell⟩ := hc.resolve_left (by omega)
      have hck := (hbel.cell (p := ⟨b, o + k, none⟩) hbl).trans (hcell k hlt)
      have huz : U (zs.getD k 0) := wf_u32 <| hu _ (by rw [List.getD_eq_getElem?_getD]; simp [show k < zs.length by omega])
      have hsn := ltst_snoc f (zs.take k) (zs.getD k 0) f
      rw [← take_snoc zs k (by omega)] at hsn
      have HS := Lib.hid hsn
      clear hsn hcell hc hcm
      generalize zs.getD k 0 = z at *
      generalize ltst f (zs.take k) f = bst at *
      go_wp2_with fail
      go_quiet ((go_at_call 9; exact Calls.quiet_of_same ((diff_own _ _ _).mono fun _ _ ⟨a, b⟩ => ⟨a, b.symm⟩)))
      go_wp2
      all_goals go_roundw
      all_goals first
        | (simp [intOf]; omega)
        | (refine ⟨k + 1, by omega, by go_num, ?_⟩
           rw [HS.out]
           first | rw [if_pos (by assumption)] | rw [if_neg (by omega)]
           refine ⟨by assumption, z, ?_, ?_, ?_, ?_, ?_⟩
           all_goals first
             | exact below_drewN (hbel.setCell (Nat.le_refl _) _) _
             | exact (below_drewN (hbel.setCell (Nat.le_refl _) _) _).setCell (Nat.le_refl _) _
             | (go_simp; done))
    · have hz0 : (zs.take k) = zs := List.take_of_length_le (by omega)
      rw [hz0] at hx0
      go_wp2
      go_ret
      exact ⟨rfl, hbel⟩

end Go.Proofs.Ytebkkiahfcelcaa
