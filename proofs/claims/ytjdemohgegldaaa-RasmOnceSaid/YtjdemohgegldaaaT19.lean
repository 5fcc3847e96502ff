/-
  Layer 12: the law RecvqTakes.
-/
import Derived.Test.YtjdemohgegldaaaT1
import Derived.Test.YtjdemohgegldaaaT2
import Derived.Test.YtjdemohgegldaaaT3
import Derived.Test.YtjdemohgegldaaaT4
import Derived.Test.YtjdemohgegldaaaT6
import Derived.Test.YtjdemohgegldaaaT7
import Derived.Test.YtjdemohgegldaaaT8
import Derived.Test.YtjdemohgegldaaaT10
import Derived.Test.YtjdemohgegldaaaT11
import Derived.Test.YtjdemohgegldaaaT13
import Derived.Test.YtjdemohgegldaaaT15
import Derived.Test.YtjdemohgegldaaaT16
import Derived.Test.YtjdemohgegldaaaT17
import Derived.Test.YtjdemohgegldaaaT18
namespace Go.Proofs.Ytjdemohgegldaaa
open Go.RowKit
set_option linter.unusedSimpArgs false
set_option linter.unusedVariables false


def putA (S : SS) (v : Int) (s : List Int) : SS := if chkF S.b S.r.length S.ps = 0 ∧ 0 ≤ v ∧ v ≤ 1099511627776 then putF S v s else S
theorem putA_ok {S : SS} (h : S.Ok) {v : Int} (v0 : 0 ≤ v) (v1 : v ≤ 1099511627776) (s : List Int) : putA S v s = putF S v s := if_pos ⟨chk_ok.2 h, v0, v1⟩
theorem bytes_run : ∀ {s : List Int} {S : SS} {v : Int}, BytesL S.ps → Bytes S.r → Bytes s → BytesL (runO S v s).1.ps ∧ Bytes (runO S v s).1.r
  | [], _, _, h, k, _ => ⟨h, k⟩
  | c :: s, S, v, h, k, hs => by
    have h1 := bytes_one (v := v) (c := [c]) h k (fun z hz => by simp at hz; subst hz; exact hs z (by simp))
    exact bytes_run (s := s) h1.1 h1.2 fun z hz => hs z (by simp [hz])
theorem putF_bytes {S : SS} (h : S.Ok) (hb : BytesL S.ps) (hr : Bytes S.r) {v : Int} {s : List Int} (hs : Bytes s) : BytesL (putF S v s).ps ∧ Bytes (putF S v s).r := by
  rw [← (run_put h v s).1]; exact bytes_run hb hr hs
theorem putA_keep {S : SS} (hP : AllB S.ps) (hm : S.ps.length ≤ 90000) (hl : S.r.length ≤ 100000) (hr : Bytes S.r) {v : Int} {s : List Int} (hs : Bytes s) : AllB (putA S v s).ps ∧ (putA S v s).ps.length ≤ 90000 ∧ Bytes (putA S v s).r ∧ (putA S v s).r.length ≤ 100000 := by
  unfold putA
  split
  · rename_i h
    have ho := chk_ok.1 h.1
    have hk := (put_ok ho v s).ok
    have hb := putF_bytes ho (fun p hp => (hP p hp).1) hr (v := v) hs
    refine ⟨hk.all hb.1, ?_, hb.2, ?_⟩
    · have := hk.len; omega
    · have := hk.r; omega
  · exact ⟨hP, hm, hr, hl⟩
theorem putF_tot {S : SS} {v : Int} {s : List Int} (hc : fromF S v < toF S v s) (h : S.Ok) : ((putF S v s).tot : Int) - S.tot = totL (putL S.ps (freshF S v s)) - totL S.ps := by
  have e : putF S v s = settleF S.b S.r (putL S.ps (freshF S v s)) := if_pos hc
  have hl := fresh_len hc
  have hbl := h.b
  have h1 : (freshF S v s).1 = fromF S v := rfl
  have hne : (freshF S v s).2 ≠ [] := by rw [ne_len]; omega
  have he : endP (freshF S v s) ≤ S.lim := by simp only [endP]; rw [hl, h1]; simp only [toF]; omega
  obtain ⟨w1, w2⟩ := putL_spec (last' := S.b - 1) h.w (by omega) (by rw [h1]; simp only [fromF]; omega) hne he
  have := (settle_spec (r := S.r) w1).2.2.2.2.2
  rw [e, this, SS.tot, held_tot]; omega
theorem put_c {S : SS} {x : D} {v : Int} {s : List Int} (hX : IsL 2 (S.ps.map ptD) x) (hP : AllB S.ps) (hm : S.ps.length ≤ 90000) (hr : S.r.length ≤ 100000) (hs : s.length ≤ 100000) (v0 : -9223372036854775808 ≤ v) :
    ∃ y, IsL 2 ((putA S v s).ps.map ptD) y ∧ ReadD Try.prog 26 [.agg [.v (.int .i64 S.b), str S.r, x], .v (.int .i64 v), str s] [.agg [.v (.int .i64 (putA S v s).b), str (putA S v s).r, y], .v (.int .i64 ((putA S v s).tot - S.tot))] := by
  unfold putA
  by_cases h : chkF S.b S.r.length S.ps = 0 ∧ 0 ≤ v ∧ v ≤ 1099511627776
  · rw [if_pos h]
    have ho := chk_ok.1 h.1
    by_cases hc : fromF S v < toF S v s
    · exact ⟨_, .inl rfl, put_yes x S.ps S.b S.r s v _ _ _ _ hX hP hm hs ho h.2.1 h.2.2 hc rfl rfl rfl (putF_tot hc ho)⟩
    · have e : putF S v s = S := if_neg hc
      rw [e]
      exact ⟨x, hX, put_no x S.ps S.b S.r s v _ _ _ _ hX hP (by omega) hr hs v0 (fun hh => hc hh.2.2.2) rfl rfl rfl (by omega)⟩
  · rw [if_neg h]
    exact ⟨x, hX, put_no x S.ps S.b S.r s v _ _ _ _ hX hP (by omega) hr hs v0 (fun hh => h ⟨chk_ok.2 hh.1, hh.2.1, hh.2.2.1⟩) rfl rfl rfl (by omega)⟩
theorem rput_c {S : SS} {x : D} {v : Int} {s : List Int} (hX : IsL 2 (S.ps.map ptD) x) (hP : AllB S.ps) (hm : S.ps.length ≤ 90000) (hr : S.r.length ≤ 100000) (hrb : Bytes S.r) (hs : s.length ≤ 100000) (hbs : Bytes s) :
    ∃ y, IsL 2 ((putA S v s).ps.map ptD) y ∧ ReadD Try.prog 27 [.agg [.v (.int .i64 S.b), str S.r, x], .v (.int .i64 v), str s] [.agg [.v (.int .i64 (putA S v s).b), str (putA S v s).r, y], .v (.int .i64 ((putA S v s).tot - S.tot))] := by
  unfold putA
  by_cases h : chkF S.b S.r.length S.ps = 0 ∧ 0 ≤ v ∧ v ≤ 1099511627776
  · rw [if_pos h]
    have ho := chk_ok.1 h.1
    obtain ⟨e1, e2⟩ := run_put ho v s
    have hy := runY_is ho (fun p hp => (hP p hp).1) hrb hbs hX h.2.1 (by omega : v + s.length ≤ 1099511727776)
    rw [e1] at hy
    refine ⟨_, hy, ?_⟩
    exact rput_yes x S.ps S.b S.r s v _ _ _ _ hX hP hr hrb hs hbs ho h.2.1 h.2.2 (by rw [e1]) (by rw [e1]) rfl (by have e3 : (runO ⟨S.b, S.r, S.ps⟩ v s).2 = (runO S v s).2 := rfl; rw [e2, e3]; omega)
  · rw [if_neg h]
    exact ⟨x, hX, rput_no x S.ps S.b S.r s v _ _ _ _ hX hP (by omega) hr (fun hh => h ⟨chk_ok.2 hh.1, hh.2.1, hh.2.2⟩) rfl rfl rfl (by omega)⟩
theorem heldF_le {r : List Int} {ps : List Pt} (hP : AllB ps) (hm : ps.length ≤ 90000) (hr : r.length ≤ 100000) : (heldF r ps : Int) ≤ 9000100000 := by
  have := tot_le (l := ps) (c := 100000) fun p hp => (hP p hp).2
  rw [held_tot]; omega

end Go.Proofs.Ytjdemohgegldaaa