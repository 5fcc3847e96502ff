/-
  Layer 2: what comes in.
-/
import Derived.Test.YtojbpgkjenghaaaT7
namespace Go.Proofs.Ytojbpgkjenghaaa
open Go.RowKit
set_option linter.unusedSimpArgs false
set_option linter.unusedVariables false


theorem str_in {d : D} (h : TypedA (false, [.str]) d) : ∃ l : List Int, d = str l ∧ Bytes l := by
  obtain ⟨s, rfl, _⟩ := h.one.str_
  exact ⟨bytesOf s, str_of s, bytesOf_bd s⟩
theorem law_VarintPuts (xs : List D) (h : All2 TypedA [(false, [.int .i64]), (false, [.sl false [.int .i64]])] xs) : PureD Try.prog 3 xs [.v (.bool true)] := by
  obtain ⟨x, xs, rfl, hx, h⟩ := h.cons_
  obtain ⟨y, xs, rfl, hy, h⟩ := h.cons_
  obtain rfl := h.nil_
  obtain ⟨n, rfl, _⟩ := hx.one.int_
  obtain ⟨l, h1, h2, h3⟩ := hy.one.ints
  exact putsL n y l h1
theorem law_VarintGets (xs : List D) (h : All2 TypedA [(false, [.str])] xs) : PureD Try.prog 4 xs [.v (.bool true)] := by
  obtain ⟨x, xs, rfl, hx, h⟩ := h.cons_
  obtain rfl := h.nil_
  obtain ⟨l, rfl, hB⟩ := str_in hx
  exact getsL l hB
theorem law_VarintBack (xs : List D) (h : All2 TypedA [(false, [.sl false [.int .u64]]), (false, [.str])] xs) : PureD Try.prog 5 xs [.v (.bool true)] := by
  obtain ⟨x, xs, rfl, hx, h⟩ := h.cons_
  obtain ⟨y, xs, rfl, hy, h⟩ := h.cons_
  obtain rfl := h.nil_
  obtain ⟨l, h1, h2, h3⟩ := hx.one.ints
  obtain ⟨t, rfl, hB⟩ := str_in hy
  exact backL x l t h1 (fun z hz => wf_u64 (h3 z hz)) hB
theorem law_VarintOne (xs : List D) (h : All2 TypedA [(false, [.str])] xs) : PureD Try.prog 6 xs [.v (.bool true)] := by
  obtain ⟨x, xs, rfl, hx, h⟩ := h.cons_
  obtain rfl := h.nil_
  obtain ⟨l, rfl, hB⟩ := str_in hx
  exact oneL l hB

end Go.Proofs.Ytojbpgkjenghaaa