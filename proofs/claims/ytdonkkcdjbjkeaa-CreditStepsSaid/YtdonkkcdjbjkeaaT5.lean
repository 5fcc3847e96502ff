/-
  Layer 21: what comes in, for the laws.
-/
import Derived.Test.YtdonkkcdjbjkeaaT4
namespace Go.Proofs.Ytdonkkcdjbjkeaa
open Go.RowKit
set_option linter.unusedSimpArgs false
set_option linter.unusedVariables false


theorem law_CreditSteps (xs : List D) (h : All2 TypedA [(false, [.int .u8]), (true, [.int .u8, .int .u8, .int .u8])] xs) : PureD Try.prog 5 xs [.v (.bool true)] := by
  obtain ⟨x, xs, rfl, hx, h⟩ := h.cons_
  obtain ⟨y, xs, rfl, hy, h⟩ := h.cons_
  obtain rfl := h.nil_
  obtain ⟨w, rfl, h1⟩ := hx.one.int_
  obtain ⟨ds, rfl, hd⟩ := hy.agg
  obtain ⟨a, ds, rfl, ha, hd⟩ := hd.cons_
  obtain ⟨b, ds, rfl, hb, hd⟩ := hd.cons_
  obtain ⟨c, ds, rfl, hc, hd⟩ := hd.cons_
  obtain rfl := hd.nil_
  obtain ⟨a, rfl, h2⟩ := ha.int_
  obtain ⟨b, rfl, h3⟩ := hb.int_
  obtain ⟨c, rfl, h4⟩ := hc.int_
  have h1 := wf_u8 h1
  have h2 := wf_u8 h2
  have h3 := wf_u8 h3
  have h4 := wf_u8 h4
  exact steps w a b c h1.1 h1.2 h2.1 h2.2 h3.1 h3.2 h4.1 h4.2

end Go.Proofs.Ytdonkkcdjbjkeaa