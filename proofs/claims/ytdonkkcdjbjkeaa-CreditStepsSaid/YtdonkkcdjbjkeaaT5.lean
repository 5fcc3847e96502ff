/-
  Layer 21: what comes in, for the laws.
-/
import Derived.Test.YtdonkkcdjbjkeaaT4
namespace Go.Proofs.Ytdonkkcdjbjkeaa
open Go.RowKit


theorem law_CreditSteps (xs : List D) (h : All2 TypedA [(false, [.int .u8]), (true, [.int .u8, .int .u8, .int .u8])] xs) : PureD Try.prog 5 xs [.v (.bool true)] := by
  obtain ⟨x, xs, rfl, hx, h⟩ := h.cons_
  obtain ⟨y, xs, rfl, hy, h⟩ := h.cons_
  obtain rfl := h.nil_
  obtain ⟨w, rfl, hw⟩ := hx.one.int_
  obtain ⟨ds, rfl, hy⟩ := hy.agg
  obtain ⟨a, ds, rfl, ha, hy⟩ := hy.cons_
  obtain ⟨b, ds, rfl, hb, hy⟩ := hy.cons_
  obtain ⟨c, ds, rfl, hc, hy⟩ := hy.cons_
  obtain rfl := hy.nil_
  obtain ⟨a, rfl, ha⟩ := ha.int_
  obtain ⟨b, rfl, hb⟩ := hb.int_
  obtain ⟨c, rfl, hc⟩ := hc.int_
  have h1 := wf_u8 hw
  have h2 := wf_u8 ha
  have h3 := wf_u8 hb
  have h4 := wf_u8 hc
  exact steps w a b c h1.1 h1.2 h2.1 h2.2 h3.1 h3.2 h4.1 h4.2

end Go.Proofs.Ytdonkkcdjbjkeaa