/-
  Layer 26: what comes in, for TuneLeast.
-/
import Derived.Test.YthmidjhomabboaaT7
import Derived.Test.YthmidjhomabboaaT61
import Derived.Test.YthmidjhomabboaaT62
import Derived.Test.YthmidjhomabboaaT63
import Derived.Test.YthmidjhomabboaaT64
import Derived.Test.YthmidjhomabboaaT65
import Derived.Test.YthmidjhomabboaaT66
namespace Go.Proofs.Ythmidjhomabboaa
open Go.RowKit
set_option linter.unusedSimpArgs false
set_option linter.unusedVariables false


theorem set_ok {a b c d i n : Int} (hc : chkV a b c d = 0) (hf : fitsF i n = true) : ∃ e f g h : Int, applyF ⟨a, b, c, d⟩ [(i, n)] = (⟨e, f, g, h⟩, 0) ∧ chkV e f g h = 0 ∧ (i < 1 ∨ 4 < i ∨ e = n ∨ f = n ∨ g = n ∨ h = n) := by
  have h1 := chk_ok hc
  rcases (show i = 1 ∨ i = 2 ∨ i = 3 ∨ i = 4 ∨ (¬ i = 1 ∧ ¬ i = 2 ∧ ¬ i = 3 ∧ ¬ i = 4) by omega) with rfl | rfl | rfl | rfl | hi
  · refine ⟨n, b, c, d, by rw [ap_yes hc hf]; rfl, ?_, by omega⟩
    simp [fitsF] at hf; exact chk_mk (by omega)
  · refine ⟨a, n, c, d, by rw [ap_yes hc hf]; rfl, ?_, by omega⟩
    simp [fitsF] at hf; exact chk_mk (by omega)
  · refine ⟨a, b, n, d, by rw [ap_yes hc hf]; rfl, ?_, by omega⟩
    simp [fitsF] at hf; exact chk_mk (by omega)
  · refine ⟨a, b, c, n, by rw [ap_yes hc hf]; rfl, ?_, by omega⟩
    simp [fitsF] at hf; exact chk_mk (by omega)
  · refine ⟨a, b, c, d, ?_, hc, by omega⟩
    rw [ap_yes hc hf]; simp only [Q.set]; rw [if_neg hi.1, if_neg hi.2.1, if_neg hi.2.2.1, if_neg hi.2.2.2]
theorem law_TuneLeast (xs : List D) (h : All2 TypedA [(true, [.int .i64, .int .i64, .int .i64, .int .i64]), (true, [.int .i64, .int .i64, .int .i64, .int .i64]), (true, [.int .i64, .int .i64])] xs) : PureD Try.prog 4 xs [.v (.bool true)] := by
  obtain ⟨x, xs, rfl, hx, h⟩ := h.cons_
  obtain ⟨y, xs, rfl, hy, h⟩ := h.cons_
  obtain ⟨z, xs, rfl, hz, h⟩ := h.cons_
  obtain rfl := h.nil_
  obtain ⟨a, b, c, d, rfl⟩ := four_in hx
  obtain ⟨a2, b2, c2, d2, rfl⟩ := four_in hy
  obtain ⟨ds, rfl, hd⟩ := hz.agg
  obtain ⟨i, ds, rfl, hi, hd⟩ := hd.cons_
  obtain ⟨n, ds, rfl, hn, hd⟩ := hd.cons_
  obtain rfl := hd.nil_
  obtain ⟨i, rfl, _⟩ := hi.int_
  obtain ⟨n, rfl, _⟩ := hn.int_
  rcases chk_two a b c d with hc | hc
  · have hap0 := ap_none (n := n) hc
    rcases hf : fitsF i n with _ | _
    · have hap := ap_not hc hf
      have hr : ¬ faultF i = 0 := by rcases fault_not i with h | h <;> omega
      rcases chk_two a2 b2 c2 d2 with hc2 | hc2
      · exact least_ny _ _ _ _ _ _ _ _ _ _ _ _ _ _ _ hap0 hap hc hc2 hr
      · exact least_nn _ _ _ _ _ _ _ _ _ _ _ _ _ _ _ hap0 hap hc hc2 hr
    · obtain ⟨e, f, g, k, hap, hb, ho⟩ := set_ok hc hf
      rcases chk_two a2 b2 c2 d2 with hc2 | hc2
      · exact least_yy _ _ _ _ _ _ _ _ _ _ _ _ _ _ _ hap0 hap hc hc2 rfl hb ho
      · exact least_yn _ _ _ _ _ _ _ _ _ _ _ _ _ _ _ hap0 hap hc hc2 rfl hb ho
  · have hap0 := ap_bad (zs := [(5, n), (0, n), (-1, n)]) hc
    have hap := ap_bad (zs := [(i, n)]) hc
    rcases chk_two a2 b2 c2 d2 with hc2 | hc2
    · exact least_8y _ _ _ _ _ _ _ _ _ _ _ _ _ _ _ hap0 hap hc hc2 (by decide)
    · exact least_8n _ _ _ _ _ _ _ _ _ _ _ _ _ _ _ hap0 hap hc hc2 (by decide)

end Go.Proofs.Ythmidjhomabboaa