/-
  No cell of these rows narrows 'for every input' (looked for: loops, veiled, ifaces, maps, wideKeys, modest, calm, conditions, laid).
  DERIVED. THE GIVEN ROWS OF THIS SEAT. 3 by the template 'for every input the law returns true; each argument reads behind the call as it read before'; 0 by the template 'total and deterministic' (their statements: YtimfgdlkekghaaaTotals.lean).
  GIVEN WITH THE SEED: the statements are not yours to turn. If you find one false, say at which input.
  Laid BY PROGRAM, IN A SANDBOX (cutbox-rows.mjs): the forced cells as the released guide's own fill.sh prints them over the translation 88801733ec2270d0… (all of the seat's roots in one cut). By AI agents, Wed Nov 11 2026. No macro, syntax, notation, axiom, sorry.
-/
import Derived.Test.YtimfgdlkekghaaaChecked
import GoSem.Claim
import GoSem.ClaimJoined
import GoSem.ClaimMapViews
import Derived.JoinedTies
import Derived.KernelRfl
namespace Go.Proofs.Ytimfgdlkekghaaa
/- THE CELL 'sum', in the pinned program and in every row, IS THE sha256 OF THE DUMP (.gsa) THAT YtimfgdlkekghaaaProg.lean LOADS. Nothing in Lean hashes anything: it is a label: what it is worth is what the hold of that sum in a sandbox is worth. -/
noncomputable def Try.pinned : Pinned := { name := "ytimfgdlkekghaaa", sum := "88801733ec2270d056f98130f70dc08f2d3c753b172abd29d55769b4df3c691b", checked := Try.checked }
namespace Rows
def none {H : Type} : Left H := { results := [], args := [] }

/-- 'sennitlaw17.RulesJudge': WHATEVER THE INPUT: true; the input reads as it did. -/
def rulesJudgeSpec : ChangeSpec := { name := "rulesJudge", fn := fun _ => fun
  | [d1, d2, d3] => { results := [.lit (.bool true)], args := [d1, d2, d3] }
  | _ => none }
def rulesJudgeRow : OpenClaim := { program := "ytimfgdlkekghaaa", sum := "88801733ec2270d056f98130f70dc08f2d3c753b172abd29d55769b4df3c691b", func := "sennit/sennitlaw17.RulesJudge", spec := "rulesJudge", apart := false }
def RulesJudgeSaid : Prop := rulesJudgeRow.holds Try.pinned (OpenSpec.ofChange rulesJudgeSpec)

/-- ITS FALSE NEIGHBOUR: 'it returns false'. Refute it at one input. -/
def rulesJudgeWrong : ChangeSpec := { name := "rulesJudge", fn := fun _ => fun
  | [d1, d2, d3] => { results := [.lit (.bool false)], args := [d1, d2, d3] }
  | _ => none }
def RulesJudgeWrongFalsely : Prop := rulesJudgeRow.holds Try.pinned (OpenSpec.ofChange rulesJudgeWrong)

/-- 'sennitlaw17.RulesOver': WHATEVER THE INPUT: true; the input reads as it did. -/
def rulesOverSpec : ChangeSpec := { name := "rulesOver", fn := fun _ => fun
  | [d1, d2] => { results := [.lit (.bool true)], args := [d1, d2] }
  | _ => none }
def rulesOverRow : OpenClaim := { program := "ytimfgdlkekghaaa", sum := "88801733ec2270d056f98130f70dc08f2d3c753b172abd29d55769b4df3c691b", func := "sennit/sennitlaw17.RulesOver", spec := "rulesOver", apart := false }
def RulesOverSaid : Prop := rulesOverRow.holds Try.pinned (OpenSpec.ofChange rulesOverSpec)

/-- ITS FALSE NEIGHBOUR: 'it returns false'. Refute it at one input. -/
def rulesOverWrong : ChangeSpec := { name := "rulesOver", fn := fun _ => fun
  | [d1, d2] => { results := [.lit (.bool false)], args := [d1, d2] }
  | _ => none }
def RulesOverWrongFalsely : Prop := rulesOverRow.holds Try.pinned (OpenSpec.ofChange rulesOverWrong)

/-- 'sennitlaw17.RulesWorst': WHATEVER THE INPUT: true; the input reads as it did. -/
def rulesWorstSpec : ChangeSpec := { name := "rulesWorst", fn := fun _ => fun
  | [d1, d2, d3] => { results := [.lit (.bool true)], args := [d1, d2, d3] }
  | _ => none }
def rulesWorstRow : OpenClaim := { program := "ytimfgdlkekghaaa", sum := "88801733ec2270d056f98130f70dc08f2d3c753b172abd29d55769b4df3c691b", func := "sennit/sennitlaw17.RulesWorst", spec := "rulesWorst", apart := false }
def RulesWorstSaid : Prop := rulesWorstRow.holds Try.pinned (OpenSpec.ofChange rulesWorstSpec)

/-- ITS FALSE NEIGHBOUR: 'it returns false'. Refute it at one input. -/
def rulesWorstWrong : ChangeSpec := { name := "rulesWorst", fn := fun _ => fun
  | [d1, d2, d3] => { results := [.lit (.bool false)], args := [d1, d2, d3] }
  | _ => none }
def RulesWorstWrongFalsely : Prop := rulesWorstRow.holds Try.pinned (OpenSpec.ofChange rulesWorstWrong)

/- THE SECOND FORM. 'bulk': how many values and letters a reading holds, each counted each time it is reached (what is shared counts as often as it is met; a slice's spare places count too). A statement '..UptoSaid' is the law's where the arguments, and the package variables that the reading takes, are together of bulk at most 1048576: NARROWER than '..Said'. Prove '..Said' where nothing that the law and all that it calls make is longer than what came in: it says more and counts as full. Else prove '..UptoSaid'. A law counts once. -/
mutual
def uptoBulk {H : Type} : DataW H → Nat
  | .lit (.string bytes) => bytes.length + 1
  | .lit _ => 1
  | .nil => 1
  | .ptr d => uptoBulk d + 1
  | .slice elems spare => uptoBulkAll elems + uptoBulkAll spare + 1
  | .agg parts => uptoBulkAll parts + 1
  | .iface _ d => uptoBulk d + 1
  | .map entries => uptoBulkEntries entries + 1
  | .held _ => 1
def uptoBulkAll {H : Type} : List (DataW H) → Nat
  | [] => 0
  | d :: r => uptoBulk d + uptoBulkAll r
def uptoBulkEntries {H : Type} : List (Lit × DataW H) → Nat
  | [] => 0
  | x :: r => uptoBulkEntry x + uptoBulkEntries r
def uptoBulkEntry {H : Type} : Lit × DataW H → Nat
  | (.string bytes, d) => bytes.length + uptoBulk d + 1
  | (_, d) => uptoBulk d + 1
 end
def uptoSmall : (H : Type) → List (DataW H) → Bool := fun _ ds => decide (uptoBulkAll ds ≤ 1048576)
def OpenSpec.upto (s : _root_.Go.ChangeSpec) : _root_.Go.OpenSpec := { _root_.Go.OpenSpec.ofChange s with cond := some uptoSmall }

/-- 'sennitlaw17.RulesJudge', WHERE WHAT IT READS IS OF BULK AT MOST 1048576: true; the input reads as it did. -/
def rulesJudgeUptoRow : OpenClaim := { program := "ytimfgdlkekghaaa", sum := "88801733ec2270d056f98130f70dc08f2d3c753b172abd29d55769b4df3c691b", func := "sennit/sennitlaw17.RulesJudge", spec := "rulesJudge", apart := false, narrowed := true }
def RulesJudgeUptoSaid : Prop := rulesJudgeUptoRow.holds Try.pinned (OpenSpec.upto rulesJudgeSpec)

/-- 'sennitlaw17.RulesOver', WHERE WHAT IT READS IS OF BULK AT MOST 1048576: true; the input reads as it did. -/
def rulesOverUptoRow : OpenClaim := { program := "ytimfgdlkekghaaa", sum := "88801733ec2270d056f98130f70dc08f2d3c753b172abd29d55769b4df3c691b", func := "sennit/sennitlaw17.RulesOver", spec := "rulesOver", apart := false, narrowed := true }
def RulesOverUptoSaid : Prop := rulesOverUptoRow.holds Try.pinned (OpenSpec.upto rulesOverSpec)

/-- 'sennitlaw17.RulesWorst', WHERE WHAT IT READS IS OF BULK AT MOST 1048576: true; the input reads as it did. -/
def rulesWorstUptoRow : OpenClaim := { program := "ytimfgdlkekghaaa", sum := "88801733ec2270d056f98130f70dc08f2d3c753b172abd29d55769b4df3c691b", func := "sennit/sennitlaw17.RulesWorst", spec := "rulesWorst", apart := false, narrowed := true }
def RulesWorstUptoSaid : Prop := rulesWorstUptoRow.holds Try.pinned (OpenSpec.upto rulesWorstSpec)

end Rows
end Go.Proofs.Ytimfgdlkekghaaa
