/-
  Layer 26: what comes in, for TuneBack.
-/
import Derived.Test.YthmidjhomabboaaT5
namespace Go.Proofs.Ythmidjhomabboaa
open Go.RowKit
set_option linter.unusedSimpArgs false
set_option linter.unusedVariables false


theorem four_in {d : D} (h : TypedA (true, [.int .i64, .int .i64, .int .i64, .int .i64]) d) : ∃ a b c e, d = .agg [.v (.int .i64 a), .v (.int .i64 b), .v (.int .i64 c), .v (.int .i64 e)] := by
  obtain ⟨ds, rfl, hd⟩ := h.agg
  obtain ⟨a, ds, rfl, ha, hd⟩ := hd.cons_
  obtain ⟨b, ds, rfl, hb, hd⟩ := hd.cons_
  obtain ⟨c, ds, rfl, hc, hd⟩ := hd.cons_
  obtain ⟨e, ds, rfl, he, hd⟩ := hd.cons_
  obtain rfl := hd.nil_
  obtain ⟨a, rfl, _⟩ := ha.int_
  obtain ⟨b, rfl, _⟩ := hb.int_
  obtain ⟨c, rfl, _⟩ := hc.int_
  obtain ⟨e, rfl, _⟩ := he.int_
  exact ⟨_, _, _, _, rfl⟩
theorem law_TuneBack (xs : List D) (h : All2 TypedA [(true, [.int .i64, .int .i64, .int .i64, .int .i64]), (true, [.int .i64, .int .i64, .int .i64, .int .i64])] xs) : PureD Try.prog 3 xs [.v (.bool true)] := by
  obtain ⟨x, xs, rfl, hx, h⟩ := h.cons_
  obtain ⟨y, xs, rfl, hy, h⟩ := h.cons_
  obtain rfl := h.nil_
  obtain ⟨a, b, c, d, rfl⟩ := four_in hx
  obtain ⟨a2, b2, c2, d2, rfl⟩ := four_in hy
  exact back a b c d a2 b2 c2 d2

end Go.Proofs.Ythmidjhomabboaa