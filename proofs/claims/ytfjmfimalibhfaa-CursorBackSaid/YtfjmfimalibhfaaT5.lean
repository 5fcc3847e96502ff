/-
  Layer 1: what comes in.
-/
import Derived.Test.YtfjmfimalibhfaaT4
namespace Go.Proofs.Ytfjmfimalibhfaa
open Go.RowKit
set_option linter.unusedSimpArgs false
set_option linter.unusedVariables false


theorem law_CursorBack (xs : List D) (h : All2 TypedA [(false, [.sl false [.int .u32]]), (false, [.sl false [.int .u8]])] xs) : PureD Try.prog 5 xs [.v (.bool true)] := by
  obtain ⟨x, xs, rfl, hx, h⟩ := h.cons_
  obtain ⟨y, xs, rfl, hy, h⟩ := h.cons_
  obtain rfl := h.nil_
  obtain ⟨zs, h1, h2, h3⟩ := hx.one.ints
  obtain ⟨vs, k1, k2, k3⟩ := hy.one.ints
  exact backL x y zs vs h1 k1 (fun v hv => wf_u32 (h3 v hv)) (fun v hv => wf_u8 (k3 v hv))

end Go.Proofs.Ytfjmfimalibhfaa