/-
  The walk of RttRuns.
-/
import Derived.Test.YtjkbhmlpmapobaaW5
import Derived.Test.YtjkbhmlpmapobaaW6
import Derived.Deep.RegionHeld3
import Derived.Deep.RegionWith
import Derived.Deep.DeepCutAuto
import Derived.Deep.CutRange
namespace Go.Proofs.Ytjkbhmlpmapobaa
open Go.RowKit

theorem check_own2 (x : S) (w : World) : Calls Try.prog 8 #[.agg #[.int .i64 x.s, .int .i64 x.v, .bool x.k, .int .i64 x.h]] w fun e w' => e = .returned (.int .i64 (chk x)) ∧ Below w.heap.size w w' :=
  (check_own x.s x.v x.k x.h w).mono fun _ _ ⟨he, hw⟩ => ⟨he, by rw [← hw]; exact (Below.refl _ _).alloc (Nat.le_refl _) _⟩
theorem check_ref2 (x : S) (w : World) : Calls Try.prog 9 #[.agg #[.int .i64 x.s, .int .i64 x.v, .bool x.k, .int .i64 x.h]] w fun e w' => e = .returned (.int .i64 (chk x)) ∧ Below w.heap.size w w' :=
  (check_ref x.s x.v x.k x.h w).mono fun _ _ ⟨he, hw⟩ => ⟨he, by rw [← hw]; exact (Below.refl _ _).alloc (Nat.le_refl _) _⟩

/-- Two states read, and what lies below an earlier world's end: what a statement that draws its order keeps. -/
theorem held {w0 w' : World} {p q : Nat} {x y : S} (hb : Below w0.heap.size w0 w') (hx : Box w0 p x) (hp : p < w0.heap.size) (hy : Box w0 q y) (hq : q < w0.heap.size) :
    Below w0.heap.size w0 w' ∧ (w'.cell? ⟨p, 0, none⟩ = some (.int .i64 x.s) ∧ w'.cell? ⟨p, 1, none⟩ = some (.int .i64 x.v) ∧ w'.cell? ⟨p, 2, none⟩ = some (.bool x.k) ∧ w'.cell? ⟨p, 3, none⟩ = some (.int .i64 x.h)) ∧
      (w'.cell? ⟨q, 0, none⟩ = some (.int .i64 y.s) ∧ w'.cell? ⟨q, 1, none⟩ = some (.int .i64 y.v) ∧ w'.cell? ⟨q, 2, none⟩ = some (.bool y.k) ∧ w'.cell? ⟨q, 3, none⟩ = some (.int .i64 y.h)) :=
  ⟨hb, (hx.below hb hp).1, (hy.below hb hq).1⟩

/-- A state's block is new. -/
theorem box_made (w : World) (x : S) (t : Nat) : Box (w.alloc (.cells #[.int .i64 x.s, .int .i64 x.v, .bool x.k, .int .i64 x.h] t)) w.heap.size x := by
  refine ⟨⟨?_, ?_, ?_, ?_⟩, ?_, ?_, ?_, ?_⟩ <;> simp [go_sem]
theorem trip (w : World) (x : S) (t1 t2 t3 : Nat) (W : World) (hW : W = (((w.alloc (.cells #[.int .i64 x.s, .int .i64 x.v, .bool x.k, .int .i64 x.h] t1)).alloc (.cells #[.int .i64 x.s, .int .i64 x.v, .bool x.k, .int .i64 x.h] t2)).alloc (.cells #[.int .i64 x.s, .int .i64 x.v, .bool x.k, .int .i64 x.h] t3)).drew) :
    Box W w.heap.size x ∧ Box W (w.heap.size + 1) x ∧ Box W (w.heap.size + 1 + 1) x ∧ w.heap.size + 1 + 1 < W.heap.size ∧ Below w.heap.size w W := by
  have h1 := box_made w x t1
  have h2 := box_made (w.alloc (.cells #[.int .i64 x.s, .int .i64 x.v, .bool x.k, .int .i64 x.h] t1)) x t2
  have h3 := box_made ((w.alloc (.cells #[.int .i64 x.s, .int .i64 x.v, .bool x.k, .int .i64 x.h] t1)).alloc (.cells #[.int .i64 x.s, .int .i64 x.v, .bool x.k, .int .i64 x.h] t2)) x t3
  have e2 : (w.alloc (.cells #[.int .i64 x.s, .int .i64 x.v, .bool x.k, .int .i64 x.h] t1)).heap.size = w.heap.size + 1 := by simp
  have e3 : ((w.alloc (.cells #[.int .i64 x.s, .int .i64 x.v, .bool x.k, .int .i64 x.h] t1)).alloc (.cells #[.int .i64 x.s, .int .i64 x.v, .bool x.k, .int .i64 x.h] t2)).heap.size = w.heap.size + 1 + 1 := by simp
  have e4 : (((w.alloc (.cells #[.int .i64 x.s, .int .i64 x.v, .bool x.k, .int .i64 x.h] t1)).alloc (.cells #[.int .i64 x.s, .int .i64 x.v, .bool x.k, .int .i64 x.h] t2)).alloc (.cells #[.int .i64 x.s, .int .i64 x.v, .bool x.k, .int .i64 x.h] t3)).heap.size = w.heap.size + 1 + 1 + 1 := by simp
  rw [e2] at h2
  rw [e3] at h3
  subst hW
  generalize hA : w.alloc (.cells #[.int .i64 x.s, .int .i64 x.v, .bool x.k, .int .i64 x.h] t1) = wA at *
  generalize hB : wA.alloc (.cells #[.int .i64 x.s, .int .i64 x.v, .bool x.k, .int .i64 x.h] t2) = wB at *
  generalize hC : wB.alloc (.cells #[.int .i64 x.s, .int .i64 x.v, .bool x.k, .int .i64 x.h] t3) = wC at *
  have kA : Below w.heap.size w wA := by rw [← hA]; exact (Below.refl _ _).alloc (Nat.le_refl _) _
  have kB : Below wA.heap.size wA wB := by rw [← hB]; exact (Below.refl _ _).alloc (Nat.le_refl _) _
  have kC : Below wB.heap.size wB wC := by rw [← hC]; exact (Below.refl _ _).alloc (Nat.le_refl _) _
  have kD : Below wC.heap.size wC wC.drew := (Below.refl _ _).drew
  have kBD := bt kC kD
  have kAD := bt kB kBD
  exact ⟨h1.below kAD (by omega), h2.below kBD (by omega), h3.below kD (by omega), by have := kD.size; omega, bt kA kAD⟩

set_option maxHeartbeats 40000000 in
theorem runs_walk (s v : Int) (kn : Bool) (sh : Int) (A : Option Addr) (len cap : Nat) (zs : List Int) (w : World) (hr : IsRow .i64 w A len cap zs) :
    Calls Try.prog 3 #[.agg #[.int .i64 s, .int .i64 v, .bool kn, .int .i64 sh], .slice A len cap] w fun e w' => e = .returned (.bool true) ∧ Below w.heap.size w w' := by
  by_cases hl : 60 < len
  · have hl' : (60 : Int) < (len : Int) := by omega
    go_enter Try.func3, Try.ntmps3
    go_wp2_with fail
    refine (awake_true _).mono ?_
    rintro e w1 ⟨rfl, hb1⟩
    go_wp2
    go_ret
    exact ⟨rfl, ((Below.refl _ w).alloc (Nat.le_refl _) _).trans (hb1.mono (by simp))⟩
  have hl' : ¬ (60 : Int) < (len : Int) := by omega
  obtain ⟨x, hx⟩ : ∃ x : S, x = ⟨s, v, kn, sh⟩ := ⟨_, rfl⟩
  rw [show s = x.s from by rw [hx], show v = x.v from by rw [hx], show kn = x.k from by rw [hx], show sh = x.h from by rw [hx]]
  clear hx
  go_enter Try.func3, Try.ntmps3
  go_upto_region 3 with fail
  go_cut [5, 6] (fun p q wx => (∃ b : Nat, ∃ c : Nat, p = .pointer (some ⟨b, 0, none⟩) ∧ q = .pointer (some ⟨c, 0, none⟩) ∧ b ≠ c ∧ w.heap.size ≤ b ∧ w.heap.size ≤ c ∧ b < wx.heap.size ∧ c < wx.heap.size ∧ Box wx b x ∧ Box wx c x) ∧ Box wx w.heap.size x ∧ w.heap.size < wx.heap.size ∧ Below w.heap.size w wx)
  case first =>
    go_region
    all_goals go_wp2
    all_goals go_meet
    all_goals obtain ⟨b1, b2, b3, hs, hk⟩ := trip w x _ _ _ _ rfl
    · exact ⟨⟨_, _, rfl, rfl, by omega, by omega, by omega, by omega, hs, b2, b3⟩, b1, by omega, hk⟩
    · exact ⟨⟨_, _, rfl, rfl, by omega, by omega, by omega, hs, by omega, b3, b2⟩, b1, by omega, hk⟩
  case rest =>
    obtain ⟨w3, hw3⟩ : ∃ w3, w3 = wc := ⟨_, rfl⟩
    subst hw3
    obtain ⟨⟨b, c, rfl, rfl, hbc, lb, lc, sb, sc, xb, xc⟩, xa, sa, hk⟩ := hcut
    have XA := Lib.hid xa
    have XB := Lib.hid xb
    have XC := Lib.hid xc
    clear xa xb xc
    go_upto_region 4 with fail
    go_cut [32] (fun r wx => r = .bool false ∧ Below w3.heap.size w3 wx)
    case first =>
      go_region_held3 (fun w' => Below w3.heap.size w3 w' ∧ (w'.cell? ⟨b, 0, none⟩ = some (.int .i64 x.s) ∧ w'.cell? ⟨b, 1, none⟩ = some (.int .i64 x.v) ∧ w'.cell? ⟨b, 2, none⟩ = some (.bool x.k) ∧ w'.cell? ⟨b, 3, none⟩ = some (.int .i64 x.h)) ∧
        (w'.cell? ⟨w.heap.size, 0, none⟩ = some (.int .i64 x.s) ∧ w'.cell? ⟨w.heap.size, 1, none⟩ = some (.int .i64 x.v) ∧ w'.cell? ⟨w.heap.size, 2, none⟩ = some (.bool x.k) ∧ w'.cell? ⟨w.heap.size, 3, none⟩ = some (.int .i64 x.h)))
        ((refine held ?_ XB.out sb XA.out sa; first | assumption | exact (Below.refl _ _).drew))
        (first
          | (go_at_call 8; refine (rel_of (w0 := w3) (check_own2 x _) (And.left (by assumption))).mono ?_; rintro e w' ⟨rfl, kb⟩)
          | (go_at_call 9; refine (rel_of (w0 := w3) (check_ref2 x _) (And.left (by assumption))).mono ?_; rintro e w' ⟨rfl, kb⟩)
          | (go_at_call 10; refine (rel_of (w0 := w3) (wait_own x _) (And.left (by assumption))).mono ?_; rintro e w' ⟨rfl, kb⟩)
          | (go_at_call 11; refine (rel_of (w0 := w3) (wait_ref x _) (And.left (by assumption))).mono ?_; rintro e w' ⟨rfl, kb⟩)
          | (go_at_call 12; refine (rel_of (w0 := w3) (expire_own x _) (And.left (by assumption))).mono ?_; rintro e w' ⟨rfl, kb⟩)
          | (go_at_call 13; refine (rel_of (w0 := w3) (expire_ref x _) (And.left (by assumption))).mono ?_; rintro e w' ⟨rfl, kb⟩))
      all_goals go_wp2
      all_goals go_meet
      all_goals exact ⟨rfl, And.left (by assumption)⟩
    case rest =>
      obtain ⟨w4, hw4⟩ : ∃ w4, w4 = wc := ⟨_, rfl⟩
      subst hw4
      obtain ⟨rfl, k4⟩ := hcut
      have xa4 := XA.out.below k4 sa
      have xb4 := XB.out.below k4 sb
      have xc4 := XC.out.below k4 sc
      have z4 := k4.size
      have sa4 : w.heap.size < w4.heap.size := by omega
      have sb4 : b < w4.heap.size := by omega
      have sc4 : c < w4.heap.size := by omega
      have hk4 := bt hk k4
      clear XA XB XC sa sb sc hk k4 z4
      have XA := Lib.hid xa4
      have XB := Lib.hid xb4
      have XC := Lib.hid xc4
      have HR := Lib.hid hr
      clear xa4 xb4 xc4 hr
      go_upto_region 6 with fail
      go_cut [39] (fun r wx => r = .bool false ∧ Below w4.heap.size w4 wx)
      case first =>
        go_region_held3 (fun w' => Below w4.heap.size w4 w' ∧ (w'.cell? ⟨b, 0, none⟩ = some (.int .i64 x.s) ∧ w'.cell? ⟨b, 1, none⟩ = some (.int .i64 x.v) ∧ w'.cell? ⟨b, 2, none⟩ = some (.bool x.k) ∧ w'.cell? ⟨b, 3, none⟩ = some (.int .i64 x.h)) ∧
          (w'.cell? ⟨w.heap.size, 0, none⟩ = some (.int .i64 x.s) ∧ w'.cell? ⟨w.heap.size, 1, none⟩ = some (.int .i64 x.v) ∧ w'.cell? ⟨w.heap.size, 2, none⟩ = some (.bool x.k) ∧ w'.cell? ⟨w.heap.size, 3, none⟩ = some (.int .i64 x.h)))
          ((refine held ?_ XB.out sb4 XA.out sa4; first | assumption | exact (Below.refl _ _).drew))
          (first
            | (go_at_call 14; refine (rel_of (w0 := w4) (run_own x A len cap zs _ (HR.out.below (Nat.le_refl _) (bt hk4 (And.left (by assumption)))) (by omega)) (And.left (by assumption))).mono ?_; rintro e w' ⟨rfl, kb⟩)
            | (go_at_call 15; refine (rel_of (w0 := w4) (run_ref x A len cap zs _ (HR.out.below (Nat.le_refl _) (bt hk4 (And.left (by assumption)))) (by omega)) (And.left (by assumption))).mono ?_; rintro e w' ⟨rfl, kb⟩))
        all_goals go_wp2
        all_goals go_meet
        all_goals exact ⟨rfl, And.left (by assumption)⟩
      case rest =>
        obtain ⟨w5, hw5⟩ : ∃ w5, w5 = wc := ⟨_, rfl⟩
        subst hw5
        obtain ⟨rfl, k5⟩ := hcut
        have xb5 := XB.out.below k5 sb4
        have xc5 := XC.out.below k5 sc4
        have z5 := k5.size
        have sb5 : b < w5.heap.size := by omega
        have sc5 : c < w5.heap.size := by omega
        have hk5 := bt hk4 k5
        clear XA XB XC sa4 sb4 sc4 hk4 k5 z5
        have XB := Lib.hid xb5
        have XC := Lib.hid xc5
        clear xb5 xc5
        go_wp2_with fail
        go_loopw [7] (fun i wr => ∃ k : Nat, k ≤ len ∧ i = .int .i64 (k : Int) ∧ (∃ y, Box wr b y ∧ Box wr c y) ∧ Below w.heap.size w wr ∧ b < wr.heap.size ∧ c < wr.heap.size) (fun i _ => len - (intOf i).toNat)
        case atStart => exact ⟨0, by omega, rfl, ⟨x, XB.out, XC.out⟩, hk5, sb5, sc5⟩
        case round =>
          clear XB XC hk5 sb5 sc5
          obtain ⟨k, hk, rfl, ⟨y, hb, hc⟩, hbel, sb, sc⟩ := hrel
          by_cases hlt : k < len
          · have hlen := HR.out.1
            obtain ⟨bb, o, rfl, hbw, hckw, hwz⟩ := HR.out.at_ hlt
            have hck := (hbel.cell (p := ⟨bb, o + k, none⟩) hbw).trans hckw
            have n1 : b ≠ bb := by omega
            have n2 : c ≠ bb := by omega
            have hbl : bb < wr.heap.size := Nat.lt_of_lt_of_le hbw hbel.size
            clear hwz hckw
            generalize zs.getD k 0 = z at *
            have HB := Lib.hid hb
            have HC := Lib.hid hc
            obtain ⟨⟨c0, c1, c2, c3⟩, f0, f1, f2, f3⟩ := hb
            obtain ⟨⟨d0, d1, d2, d3⟩, g0, g1, g2, g3⟩ := hc
            have hckd : wr.drew.cell? ⟨bb, o + k, none⟩ = some (.int .i64 z) := (((Below.refl wr.heap.size wr).drew).cell (p := ⟨bb, o + k, none⟩) hbl).trans hck
            go_upto_region 11 with fail
            go_cut [] from 40 to 67 (fun wx => (∃ y, Box wx b y ∧ Box wx c y) ∧ Below w.heap.size w wx ∧ b < wx.heap.size ∧ c < wx.heap.size)
            case first =>
              go_region_with (first
                  | (go_at_call 16; refine (rel_of (w0 := wr) (sample_own y z _) ?_).mono ?_; (first | exact Below.refl _ _ | exact (Below.refl _ _).drew | assumption); rintro e w2 ⟨rfl, kb2⟩; obtain ⟨-, ⟨c0', c1', c2', c3'⟩, ⟨d0', d1', d2', d3'⟩⟩ := held kb2 HB.out sb HC.out sc; have hck2 := (kb2.cell (p := ⟨bb, o + k, none⟩) hbl).trans hck; obtain ⟨-, f0', f1', f2', f3'⟩ := HB.out.below kb2 sb; obtain ⟨-, g0', g1', g2', g3'⟩ := HC.out.below kb2 sc)
                  | (go_at_call 17; refine (rel_of (w0 := wr) (sample_ref y z _) ?_).mono ?_; (first | exact Below.refl _ _ | exact (Below.refl _ _).drew | assumption); rintro e w4 ⟨rfl, kb4⟩; obtain ⟨-, ⟨c0'', c1'', c2'', c3''⟩, ⟨d0'', d1'', d2'', d3''⟩⟩ := held kb4 HB.out sb HC.out sc; have hck4 := (kb4.cell (p := ⟨bb, o + k, none⟩) hbl).trans hck; obtain ⟨-, f0'', f1'', f2'', f3''⟩ := HB.out.below kb4 sb; obtain ⟨-, g0'', g1'', g2'', g3''⟩ := HC.out.below kb4 sc))
              all_goals go_wp2
              all_goals go_meet
              all_goals
                have hz4 := kb4.size
                refine ⟨⟨smp y z, ((HB.out.below kb4 sb).lay (smp y z)).far (Ne.symm hbc) (smp y z), ((HC.out.below kb4 sc).far hbc (smp y z)).lay (smp y z)⟩, below_lay (below_lay (bt hbel kb4) lb (smp y z)) lc (smp y z), ?_, ?_⟩
                · show b < (lay (lay w4 b (smp y z)) c (smp y z)).heap.size
                  rw [size_lay, size_lay]; omega
                · show c < (lay (lay w4 b (smp y z)) c (smp y z)).heap.size
                  rw [size_lay, size_lay]; omega
            case rest =>
              obtain ⟨w7, hw7⟩ : ∃ w7, w7 = wc := ⟨_, rfl⟩
              subst hw7
              obtain ⟨⟨q, hb', hc'⟩, hbel', sb', sc'⟩ := hcut
              clear hbel sb sc c0 c1 c2 c3 f0 f1 f2 f3 d0 d1 d2 d3 g0 g1 g2 g3 hck hckd HB HC hbl
              have QB := Lib.hid hb'
              have QC := Lib.hid hc'
              clear hb' hc'
              go_upto_region 12 with fail
              go_cut [67] from 40 to 67 (fun r wx => r = .bool false ∧ Below w7.heap.size w7 wx)
              case first =>
                go_region_held3 (fun w' => Below w7.heap.size w7 w' ∧ (w'.cell? ⟨b, 0, none⟩ = some (.int .i64 q.s) ∧ w'.cell? ⟨b, 1, none⟩ = some (.int .i64 q.v) ∧ w'.cell? ⟨b, 2, none⟩ = some (.bool q.k) ∧ w'.cell? ⟨b, 3, none⟩ = some (.int .i64 q.h)) ∧
                  (w'.cell? ⟨c, 0, none⟩ = some (.int .i64 q.s) ∧ w'.cell? ⟨c, 1, none⟩ = some (.int .i64 q.v) ∧ w'.cell? ⟨c, 2, none⟩ = some (.bool q.k) ∧ w'.cell? ⟨c, 3, none⟩ = some (.int .i64 q.h)))
                  ((refine held ?_ QB.out sb' QC.out sc'; first | assumption | exact (Below.refl _ _).drew))
                  (first
                    | (go_at_call 10; refine (rel_of (w0 := w7) (wait_own q _) (And.left (by assumption))).mono ?_; rintro e w' ⟨rfl, kb⟩)
                    | (go_at_call 11; refine (rel_of (w0 := w7) (wait_ref q _) (And.left (by assumption))).mono ?_; rintro e w' ⟨rfl, kb⟩))
                all_goals go_wp2
                all_goals go_meet
                all_goals exact ⟨rfl, And.left (by assumption)⟩
              case rest =>
                obtain ⟨w8, hw8⟩ : ∃ w8, w8 = wc := ⟨_, rfl⟩
                subst hw8
                obtain ⟨rfl, k8⟩ := hcut
                have z8 := k8.size
                go_wp2
                go_roundw
                case rel => exact ⟨k + 1, by omega, by go_num, ⟨q, QB.out.below k8 sb', QC.out.below k8 sc'⟩, bt hbel' k8, by omega, by omega⟩
                case measure => simp [intOf]; omega
          · go_wp2_with fail
            refine (awake_true _).mono ?_
            rintro e w6 ⟨rfl, k6⟩
            go_wp2
            go_ret
            exact ⟨rfl, bt hbel k6⟩
theorem runs_all (s v : Int) (kn : Bool) (sh : Int) (A : Option Addr) (len cap : Nat) (zs : List Int) (w : World) (_ : (Lit.int .i64 s).wf = true) (_ : (Lit.int .i64 v).wf = true) (_ : (Lit.int .i64 sh).wf = true) (hr : IsRow .i64 w A len cap zs) :
    Calls Try.prog 3 #[.agg #[.int .i64 s, .int .i64 v, .bool kn, .int .i64 sh], .slice A len cap] w fun e w' => e = .returned (.bool true) ∧ Below w.heap.size w w' := runs_walk s v kn sh A len cap zs w hr
end Go.Proofs.Ytjkbhmlpmapobaa
