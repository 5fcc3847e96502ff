/-
  Layer 17: what comes in.
-/
import Derived.Test.YtimfgdlkekghaaaT4
import Derived.Test.YtimfgdlkekghaaaT5
import Derived.Test.YtimfgdlkekghaaaT6
namespace Go.Proofs.Ytimfgdlkekghaaa
open Go.RowKit
set_option linter.unusedSimpArgs false
set_option linter.unusedVariables false


theorem law_RulesOver (xs : List D) (h : All2 TypedA [(false, [.int .u8]), (false, [.int .u8])] xs) : PureD Try.prog 4 xs [.v (.bool true)] := by
  obtain ⟨x, xs, rfl, hx, h⟩ := h.cons_
  obtain ⟨y, xs, rfl, hy, h⟩ := h.cons_
  obtain rfl := h.nil_
  obtain ⟨a, rfl, ha⟩ := hx.one.int_
  obtain ⟨b, rfl, hb⟩ := hy.one.int_
  have ha := wf_u8 ha
  have hb := wf_u8 hb
  exact over a b ha.1 ha.2 hb.1 hb.2

theorem u8s_in {d : D} (h : TypedA (false, [.sl false [.int .u8]]) d) : ∃ zs : List Int, IsL 1 (ints .u8 zs) d ∧ zs.length ≤ maxLen ∧ ∀ z ∈ zs, 0 ≤ z ∧ z < 256 := by
  obtain ⟨zs, h1, h2, h3⟩ := h.one.ints
  exact ⟨zs, h1, h2, fun z hz => wf_u8 (h3 z hz)⟩
theorem law_RulesWorst (xs : List D) (h : All2 TypedA [(false, [.sl false [.int .u8]]), (false, [.sl false [.int .u8]]), (false, [.int .u8])] xs) : PureD Try.prog 5 xs [.v (.bool true)] := by
  obtain ⟨x, xs, rfl, hx, h⟩ := h.cons_
  obtain ⟨y, xs, rfl, hy, h⟩ := h.cons_
  obtain ⟨z, xs, rfl, hz, h⟩ := h.cons_
  obtain rfl := h.nil_
  obtain ⟨zs, h1, h2, h3⟩ := u8s_in hx
  obtain ⟨bs, k1, k2, k3⟩ := u8s_in hy
  obtain ⟨c, rfl, hc⟩ := hz.one.int_
  have hc := wf_u8 hc
  have hm : maxLen ≤ 9223372036854775807 := by decide
  exact rworstL x y zs bs c h1 k1 h3 k3 (by omega) (by omega) hc.1 hc.2
theorem law_RulesJudge (xs : List D) (h : All2 TypedA [(false, [.sl false [.int .u8]]), (false, [.sl false [.int .u8]]), (false, [.int .u8])] xs) : PureD Try.prog 3 xs [.v (.bool true)] := by
  obtain ⟨x, xs, rfl, hx, h⟩ := h.cons_
  obtain ⟨y, xs, rfl, hy, h⟩ := h.cons_
  obtain ⟨z, xs, rfl, hz, h⟩ := h.cons_
  obtain rfl := h.nil_
  obtain ⟨zs, h1, h2, h3⟩ := u8s_in hx
  obtain ⟨bs, k1, k2, k3⟩ := u8s_in hy
  obtain ⟨c, rfl, hc⟩ := hz.one.int_
  have hc := wf_u8 hc
  have hm : maxLen ≤ 9223372036854775807 := by decide
  exact judgeL x y zs bs c h1 k1 h3 k3 (by omega) (by omega) hc.1 hc.2

end Go.Proofs.Ytimfgdlkekghaaa