/-
  The walks of layer 21's functions: whether a ledger may be, what goes, what comes, what is read, what is granted.
-/
import Derived.Test.YtdonkkcdjbjkeaaBase
namespace Go.Proofs.Ytdonkkcdjbjkeaa
open Go.RowKit

/-- A ledger. -/
structure G where
  w : Int
  l : Int
  u : Int
  r : Int
deriving DecidableEq
/-- May a ledger be? -/
def chk (g : G) : Int := if g.w < 1 ∨ 1048576 < g.w ∨ g.l < 0 ∨ 1099511627776 < g.l ∨ g.u < 0 ∨ g.l < g.u ∨ g.r < 0 ∨ g.u < g.r then 8 else 0
theorem chk_ok {g : G} (hc : chk g = 0) : 1 ≤ g.w ∧ g.w ≤ 1048576 ∧ 0 ≤ g.l ∧ g.l ≤ 1099511627776 ∧ 0 ≤ g.u ∧ g.u ≤ g.l ∧ 0 ≤ g.r ∧ g.r ≤ g.u := by
  unfold chk at hc
  split at hc
  · cases hc
  · omega
theorem chk_mk {g : G} (h : 1 ≤ g.w ∧ g.w ≤ 1048576 ∧ 0 ≤ g.l ∧ g.l ≤ 1099511627776 ∧ 0 ≤ g.u ∧ g.u ≤ g.l ∧ 0 ≤ g.r ∧ g.r ≤ g.u) : chk g = 0 := by
  unfold chk; rw [if_neg (by omega)]
def fre (g : G) : Int := if chk g = 0 then g.l - g.u else 0
def spend (g : G) (n : Int) : G × Bool := if chk g = 0 ∧ 0 ≤ n ∧ n ≤ g.l - g.u then (⟨g.w, g.l, g.u + n, g.r⟩, true) else (g, false)
def given (g : G) (n : Int) : G × Bool := if chk g = 0 ∧ 1 ≤ n ∧ n ≤ 1099511627776 - g.l then (⟨g.w, g.l + n, g.u, g.r⟩, true) else (g, false)
def reach (g : G) (n : Int) : G × Int × Bool := if chk g = 0 ∧ 0 ≤ n ∧ n ≤ g.l then (⟨g.w, g.l, max n g.u, g.r⟩, max n g.u - g.u, true) else (g, 0, false)
def eat (g : G) (n : Int) : G := if chk g = 0 then ⟨g.w, g.l, g.u, g.r + min (max n 0) (g.u - g.r)⟩ else g
def more (g : G) : Int := min (g.r + g.w) 1099511627776 - g.l
def grant (g : G) : G × Int := if chk g = 0 ∧ max (g.w / 2) 1 ≤ more g then (⟨g.w, g.l + more g, g.u, g.r⟩, more g) else (g, 0)

theorem check_own (a b c d : Int) (w : World) : Calls Try.prog 15 #[.agg #[.int .i64 a, .int .i64 b, .int .i64 c, .int .i64 d]] w fun e w' => e = .returned (.int .i64 (chk ⟨a, b, c, d⟩)) ∧ w.alloc (.cells #[.int .i64 a, .int .i64 b, .int .i64 c, .int .i64 d] 26) = w' := by
  go_enter Try.func15, Try.ntmps15
  go_wp2
  all_goals go_ret
  all_goals refine ⟨ret_int ?_, by simp_all⟩
  all_goals unfold chk
  all_goals first
    | rw [if_pos (by simp only; omega)]
    | rw [if_neg (by simp only; omega)]
theorem check_ref (a b c d : Int) (w : World) : Calls Try.prog 16 #[.agg #[.int .i64 a, .int .i64 b, .int .i64 c, .int .i64 d]] w fun e w' => e = .returned (.int .i64 (chk ⟨a, b, c, d⟩)) ∧ w.alloc (.cells #[.int .i64 a, .int .i64 b, .int .i64 c, .int .i64 d] 23) = w' := by
  go_enter Try.func16, Try.ntmps16
  go_wp2
  all_goals go_ret
  all_goals refine ⟨ret_int ?_, by simp_all⟩
  all_goals unfold chk
  all_goals first
    | rw [if_pos (by simp only; omega)]
    | rw [if_neg (by simp only; omega)]

end Go.Proofs.Ytdonkkcdjbjkeaa
