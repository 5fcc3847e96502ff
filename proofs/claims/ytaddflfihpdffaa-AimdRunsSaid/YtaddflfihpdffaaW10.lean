/-
  The walk of AimdRuns.
-/
import Derived.Test.YtaddflfihpdffaaW7
namespace Go.Proofs.Ytaddflfihpdffaa
open Go.RowKit

theorem check_own2 (x : S) (w : World) : Calls Try.prog 8 #[.agg #[.int .i64 x.a, .int .i64 x.t, .int .i64 x.p]] w fun e w' => e = .returned (.int .i64 (chk x)) ∧ Below w.heap.size w w' := less_of (check_own x.a x.t x.p w)
theorem check_ref2 (x : S) (w : World) : Calls Try.prog 9 #[.agg #[.int .i64 x.a, .int .i64 x.t, .int .i64 x.p]] w fun e w' => e = .returned (.int .i64 (chk x)) ∧ Below w.heap.size w w' := less_of (check_ref x.a x.t x.p w)

set_option maxRecDepth 100000 in
set_option maxHeartbeats 40000000 in
theorem runs_walk (s : S) (A : Option Addr) (len cap : Nat) (zs : List (Int × Int)) (f : Int) (w : World) (hr : IsRecs .u8 .i64 w A len cap zs) (hf : (Lit.int .i64 f).wf = true) :
    Calls Try.prog 3 #[.agg #[.int .i64 s.a, .int .i64 s.t, .int .i64 s.p], .slice A len cap, .int .i64 f] w fun e w' => e = .returned (.bool true) ∧ Below w.heap.size w w' := by
  by_cases hl : 60 < len
  · have hl' : (60 : Int) < (len : Int) := by omega
    go_enter Try.func3, Try.ntmps3
    go_wp2_with fail
    refine (awake_true _).mono ?_
    rintro e w1 ⟨rfl, hb1⟩
    go_wp2
    go_ret
    exact ⟨rfl, ((Below.refl _ w).alloc (Nat.le_refl _) _).trans (hb1.mono (by simp))⟩
  have hl' : ¬ (60 : Int) < (len : Int) := by omega
  have hlen := hr.1
  have HR := Lib.hid hr
  have HF := Lib.hid hf
  clear hr hf
  have k0 := (((Keep.start w).alloc (cells s) 23).allocAt (w.heap.size + 1) (by simp) (cells s) 26).allocAt (w.heap.size + 2) (by simp) (cells s) 23
  have K0 := Lib.hid k0
  clear k0
  go_enter Try.func3, Try.ntmps3
  go_wp2_with fail
  go_loopw [9, 10] (fun i p wr => ∃ k : Nat, k ≤ len ∧ i = .int .i64 (k : Int) ∧ Keep w wr [(w.heap.size + 2, cells (runs s (zs.take k))), (w.heap.size + 1, cells (runs s (zs.take k))), (w.heap.size, cells s)]) (fun i _ _ => len - (intOf i).toNat)
  case atStart => exact ⟨0, by omega, rfl, K0.out⟩
  case round =>
    clear K0
    obtain ⟨k, hk, rfl, hkeep⟩ := hrel
    have HK := Lib.hid hkeep
    clear hkeep
    have hw := HK.out.1.size
    obtain ⟨V, hV⟩ : ∃ V : World, V = wr := ⟨_, rfl⟩
    subst hV
    by_cases hlt : k < len
    · obtain ⟨b, o, rfl, hbw, ⟨hck0w, hck1w⟩, hw0, hw1⟩ := HR.out.at_ hlt
      have hbl : b < V.heap.size := Nat.lt_of_lt_of_le hbw HK.out.1.size
      have hsn := runs_snoc s (zs.take k) (zs.getD k (0, 0))
      rw [← take_snoc2 zs k (by omega)] at hsn
      have HS := Lib.hid hsn
      have W0 := Lib.hid hw0
      have W1 := Lib.hid hw1
      clear hsn hw0 hw1
      generalize zs.getD k (0, 0) = z at *
      generalize runs s (zs.take k) = y at *
      obtain ⟨kd, n⟩ := z
      obtain ⟨x, hx⟩ : ∃ x, x = run1 y (kd, n) := ⟨_, rfl⟩
      rw [← hx] at HS
      have HX := Lib.hid hx
      clear hx
      simp only [] at hck0w hck1w
      have CW0 := Lib.hid hck0w
      have CW1 := Lib.hid hck1w
      clear hck0w hck1w
      go_upto_region 8 with fail
      go_cut [36] from 17 to 74 (fun r wx => r = .bool false ∧ Below V.heap.size V wx)
      case first =>
        go_region_held3 (fun w' => Below V.heap.size V w' ∧ (w'.cell? ⟨w.heap.size + 2, 0, none⟩ = some (.int .i64 y.a) ∧ w'.cell? ⟨w.heap.size + 2, 1, none⟩ = some (.int .i64 y.t) ∧ w'.cell? ⟨w.heap.size + 2, 2, none⟩ = some (.int .i64 y.p)) ∧ (w'.cell? ⟨w.heap.size + 1, 0, none⟩ = some (.int .i64 y.a) ∧ w'.cell? ⟨w.heap.size + 1, 1, none⟩ = some (.int .i64 y.t) ∧ w'.cell? ⟨w.heap.size + 1, 2, none⟩ = some (.int .i64 y.p)) ∧ (w'.cell? ⟨w.heap.size, 0, none⟩ = some (.int .i64 s.a) ∧ w'.cell? ⟨w.heap.size, 1, none⟩ = some (.int .i64 s.t) ∧ w'.cell? ⟨w.heap.size, 2, none⟩ = some (.int .i64 s.p)))
          ((refine HK.out.held ?_; first | (with_reducible assumption) | (with_reducible exact (Below.refl _ _).drew)))
          (first
            | (go_at_call 8; refine (rel_of (w0 := V) (check_own2 y _) (And.left (by assumption))).mono ?_; rintro e w' ⟨rfl, kb⟩)
            | (go_at_call 9; refine (rel_of (w0 := V) (check_ref2 y _) (And.left (by assumption))).mono ?_; rintro e w' ⟨rfl, kb⟩)
            | (go_at_call 10; refine (rel_of (w0 := V) (free_own y f _ HF.out) (And.left (by assumption))).mono ?_; rintro e w' ⟨rfl, kb⟩)
            | (go_at_call 11; refine (rel_of (w0 := V) (free_ref y f _ HF.out) (And.left (by assumption))).mono ?_; rintro e w' ⟨rfl, kb⟩))
        all_goals go_wp2
        all_goals go_meet
        all_goals exact ⟨rfl, And.left (by assumption)⟩
      case rest =>
        obtain ⟨W3, hW3⟩ : ∃ W3, W3 = wc := ⟨_, rfl⟩
        subst hW3
        obtain ⟨rfl, k3⟩ := hcut
        have H3 := Lib.hid (HK.out.call k3)
        clear HK k3
        have hck0 := (H3.out.1.cell (p := ⟨b, o + k * 2, none⟩) hbw).trans CW0.out
        have hck1 := (H3.out.1.cell (p := ⟨b, o + k * 2 + 1, none⟩) hbw).trans CW1.out
        have H4 := Lib.hid (H3.out.alloc [.int .u8 kd, .int .i64 n] 33)
        have R4 := Lib.hid (rec_one .u8 .i64 W3 _ rfl kd n W0.out W1.out 33)
        have z3 := H3.out.1.size
        go_upto_region 11 with fail
        clear hck0 hck1
        obtain ⟨V4, hV4⟩ : ∃ V4, V4 = W3.alloc (.cells #[.int .u8 kd, .int .i64 n] 33) := ⟨_, rfl⟩
        have K4 : Hid (Keep w V4 [(w.heap.size + 2, cells y), (w.heap.size + 1, cells y), (w.heap.size, cells s)]) := Lib.hid (by rw [hV4]; exact H4.out.cut (by intro x hx; exact List.mem_cons_of_mem _ hx))
        have Q4 : Hid (IsRecs .u8 .i64 V4 (some ⟨W3.heap.size, 0, none⟩) 1 1 [(kd, n)]) := Lib.hid (by rw [hV4]; exact R4.out)
        rw [← hV4]
        clear hV4 H4 R4
        obtain ⟨l2, s2⟩ := K4.out.at_ 0 rfl
        obtain ⟨l1, s1⟩ := K4.out.at_ 1 rfl
        obtain ⟨⟨c0, c1, c2⟩, c3, c4, c5⟩ := s2.o3
        obtain ⟨⟨d0, d1, d2⟩, d3, d4, d5⟩ := s1.o3
        clear s1 s2
        go_cut [] from 17 to 74 (fun wx => Keep w wx [(w.heap.size + 2, cells x), (w.heap.size + 1, cells x), (w.heap.size, cells s)])
        case first =>
          go_region_with (first
            | (go_at_call 13; refine (own_own _ 1 1 [(kd, n)] _ ?_ (by omega)).mono ?_; (first | exact Q4.out | exact Q4.out.drew); rintro e wA ⟨A', c', rfl, hrecs, kA0⟩; have kA : Below V4.heap.size V4 wA := bt (by first | (with_reducible exact Below.refl _ _) | (with_reducible exact (Below.refl _ _).drew)) kA0; have hrecs' := hrecs.drew; have hcc := (bcell kA).1; have hff := (bcell kA).2)
            | (go_at_call 12; refine (rel_of (w0 := V4) (run_own y _ _ _ [(kd, n)] _ (by first | exact hrecs | exact hrecs') (by omega)) (by first | (with_reducible assumption) | (with_reducible exact kA.drew))).mono ?_; rw [show runs y [(kd, n)] = x from HX.out.symm]; rintro e wB ⟨rfl, kB⟩; clear hcc hff; have hcc := (bcell kB).1; have hff := (bcell kB).2)
            | (go_at_call 14; refine (rel_of (w0 := V4) (run_ref y _ _ _ [(kd, n)] _ (Q4.out.below (Nat.le_refl _) kB) (by omega)) kB).mono ?_; rw [show runs y [(kd, n)] = x from HX.out.symm]; rintro e wC ⟨rfl, kC⟩; clear hcc hff; have hcc := (bcell kC).1; have hff := (bcell kC).2))
          all_goals go_wp2
          all_goals go_meet
          all_goals
            have K9 := K4.out.call kC
            exact K9.lay2 1 0 rfl rfl (by omega) (by omega) (by omega) (cells x) (cells x) [(w.heap.size, cells s)] (fun q hq => by simp at hq; subst hq; exact ⟨by simp, by simp, by simp⟩)
        case rest =>
          obtain ⟨W5, hW5⟩ : ∃ W5, W5 = wc := ⟨_, rfl⟩
          subst hW5
          have H5 := Lib.hid hcut
          clear hcut c0 c1 c2 c3 c4 c5 d0 d1 d2 d3 d4 d5 l1 l2 K4 Q4
          go_upto_region 12 with fail
          go_cut [74] from 17 to 74 (fun r wx => r = .bool false ∧ Below W5.heap.size W5 wx)
          case first =>
            go_region_held3 (fun w' => Below W5.heap.size W5 w' ∧ (w'.cell? ⟨w.heap.size + 2, 0, none⟩ = some (.int .i64 x.a) ∧ w'.cell? ⟨w.heap.size + 2, 1, none⟩ = some (.int .i64 x.t) ∧ w'.cell? ⟨w.heap.size + 2, 2, none⟩ = some (.int .i64 x.p)) ∧ (w'.cell? ⟨w.heap.size + 1, 0, none⟩ = some (.int .i64 x.a) ∧ w'.cell? ⟨w.heap.size + 1, 1, none⟩ = some (.int .i64 x.t) ∧ w'.cell? ⟨w.heap.size + 1, 2, none⟩ = some (.int .i64 x.p)) ∧ (w'.cell? ⟨w.heap.size, 0, none⟩ = some (.int .i64 s.a) ∧ w'.cell? ⟨w.heap.size, 1, none⟩ = some (.int .i64 s.t) ∧ w'.cell? ⟨w.heap.size, 2, none⟩ = some (.int .i64 s.p)))
              ((refine H5.out.held ?_; first | (with_reducible assumption) | (with_reducible exact (Below.refl _ _).drew)))
              (first
                | (go_at_call 15; refine (rel_of (w0 := W5) (acked_own x f _) (And.left (by assumption))).mono ?_; rintro e w' ⟨rfl, kb⟩)
                | (go_at_call 16; refine (rel_of (w0 := W5) (acked_ref x f _) (And.left (by assumption))).mono ?_; rintro e w' ⟨rfl, kb⟩)
                | (go_at_call 17; refine (rel_of (w0 := W5) (lost_own x _) (And.left (by assumption))).mono ?_; rintro e w' ⟨rfl, kb⟩)
                | (go_at_call 18; refine (rel_of (w0 := W5) (lost_ref x _) (And.left (by assumption))).mono ?_; rintro e w' ⟨rfl, kb⟩)
                | (go_at_call 19; refine (rel_of (w0 := W5) (expd_own x _) (And.left (by assumption))).mono ?_; rintro e w' ⟨rfl, kb⟩)
                | (go_at_call 20; refine (rel_of (w0 := W5) (expd_ref x _) (And.left (by assumption))).mono ?_; rintro e w' ⟨rfl, kb⟩))
            all_goals go_wp2
            all_goals go_meet
            all_goals exact ⟨rfl, And.left (by assumption)⟩
          case rest =>
            obtain ⟨W6, hW6⟩ : ∃ W6, W6 = wc := ⟨_, rfl⟩
            subst hW6
            obtain ⟨rfl, k6⟩ := hcut
            have H6 := Lib.hid (H5.out.call k6)
            clear k6 H5
            go_wp2
            go_roundw
            case rel => exact ⟨k + 1, by omega, by go_num, by rw [HS.out]; exact H6.out⟩
            case measure => simp [intOf]; omega
    · have hz0 : zs.take k = zs := List.take_of_length_le (by omega)
      rw [hz0] at HK
      clear hz0
      have HR2 := Lib.hid (HR.out.below (Nat.le_refl _) HK.out.1)
      obtain ⟨y, hy⟩ : ∃ y, y = runs s zs := ⟨_, rfl⟩
      rw [← hy] at HK
      have HY := Lib.hid hy
      clear hy
      go_upto_region 14 with fail
      go_region_held3 (fun w' => Below V.heap.size V w' ∧ (w'.cell? ⟨w.heap.size + 2, 0, none⟩ = some (.int .i64 y.a) ∧ w'.cell? ⟨w.heap.size + 2, 1, none⟩ = some (.int .i64 y.t) ∧ w'.cell? ⟨w.heap.size + 2, 2, none⟩ = some (.int .i64 y.p)) ∧ (w'.cell? ⟨w.heap.size + 1, 0, none⟩ = some (.int .i64 y.a) ∧ w'.cell? ⟨w.heap.size + 1, 1, none⟩ = some (.int .i64 y.t) ∧ w'.cell? ⟨w.heap.size + 1, 2, none⟩ = some (.int .i64 y.p)) ∧ (w'.cell? ⟨w.heap.size, 0, none⟩ = some (.int .i64 s.a) ∧ w'.cell? ⟨w.heap.size, 1, none⟩ = some (.int .i64 s.t) ∧ w'.cell? ⟨w.heap.size, 2, none⟩ = some (.int .i64 s.p)))
        ((refine HK.out.held ?_; first | (with_reducible assumption) | (with_reducible exact (Below.refl _ _).drew)))
        (first
          | (go_at_call 13; refine (own_own A len cap zs _ (HR2.out.below (Nat.le_refl _) (And.left (by assumption))) (by omega)).mono ?_; rintro e w' ⟨A', c', rfl, hrecs, kb0⟩; have kb : Below V.heap.size V w' := bt (And.left (by assumption)) kb0)
          | (go_at_call 12; refine (rel_of (w0 := V) (run_own s _ _ _ zs _ hrecs (by omega)) (And.left (by assumption))).mono ?_; rw [← HY.out]; rintro e w' ⟨rfl, kb⟩)
          | (go_at_call 21; refine (rel_of (w0 := V) (new_own _) (And.left (by assumption))).mono ?_; rintro e w' ⟨rfl, kb⟩)
          | (go_at_call 22; refine (rel_of (w0 := V) (new_ref _) (And.left (by assumption))).mono ?_; rintro e w' ⟨rfl, kb⟩)
          | (go_at_call 7; refine (rel_of (w0 := V) (awake_true _) (And.left (by assumption))).mono ?_; rintro e w' ⟨rfl, kb⟩))
      all_goals go_wp2
      all_goals go_ret
      all_goals exact ⟨rfl, bt HK.out.1 (And.left (by assumption))⟩
theorem runs_all (a t p : Int) (A : Option Addr) (len cap : Nat) (zs : List (Int × Int)) (f : Int) (w : World) (_ : (Lit.int .i64 a).wf = true) (_ : (Lit.int .i64 t).wf = true) (_ : (Lit.int .i64 p).wf = true) (hr : IsRecs .u8 .i64 w A len cap zs) (hf : (Lit.int .i64 f).wf = true) :
    Calls Try.prog 3 #[.agg #[.int .i64 a, .int .i64 t, .int .i64 p], .slice A len cap, .int .i64 f] w fun e w' => e = .returned (.bool true) ∧ Below w.heap.size w w' := runs_walk ⟨a, t, p⟩ A len cap zs f w hr hf
end Go.Proofs.Ytaddflfihpdffaa
