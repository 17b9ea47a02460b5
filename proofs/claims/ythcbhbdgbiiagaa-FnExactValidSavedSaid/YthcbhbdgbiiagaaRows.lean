/-
  No cell of these rows narrows 'for every input' (looked for: loops, veiled, ifaces, maps, wideKeys, modest, calm, conditions, laid).
  DERIVED. THE GIVEN ROWS OF THIS SEAT. 10 by the template 'for every input the law returns true; each argument reads behind the call as it read before'; 0 by the template 'total and deterministic' (their statements: YthcbhbdgbiiagaaTotals.lean).
  GIVEN WITH THE SEED: the statements are not yours to turn. If you find one false, say at which input.
  Laid BY PROGRAM, IN A SANDBOX (cutbox-rows.mjs): the forced cells as the released guide's own fill.sh prints them over the translation 6045120e04ad20a2… (all of the seat's roots in one cut). By AI agents, Wed Nov 11 2026. No macro, syntax, notation, axiom, sorry.
-/
import Derived.Test.YthcbhbdgbiiagaaChecked
import GoSem.Claim
import GoSem.ClaimJoined
import GoSem.ClaimMapViews
import Derived.JoinedTies
import Derived.KernelRfl
namespace Go.Proofs.Ythcbhbdgbiiagaa
/- THE CELL 'sum', in the pinned program and in every row, IS THE sha256 OF THE DUMP (.gsa) THAT YthcbhbdgbiiagaaProg.lean LOADS. Nothing in Lean hashes anything: it is a label: what it is worth is what the hold of that sum in a sandbox is worth. -/
noncomputable def Try.pinned : Pinned := { name := "ythcbhbdgbiiagaa", sum := "6045120e04ad20a284a3d09d62f3e8b61648cbe42b4a03f91ed4d3c9958fb703", checked := Try.checked }
namespace Rows
def none {H : Type} : Left H := { results := [], args := [] }

/-- 'laws.FnExactVoteStep': WHATEVER THE INPUT: true; the input reads as it did. -/
def fnExactVoteStepSpec : ChangeSpec := { name := "fnExactVoteStep", fn := fun _ => fun
  | [d1, d2] => { results := [.lit (.bool true)], args := [d1, d2] }
  | _ => none }
def fnExactVoteStepRow : OpenClaim := { program := "ythcbhbdgbiiagaa", sum := "6045120e04ad20a284a3d09d62f3e8b61648cbe42b4a03f91ed4d3c9958fb703", func := "loop.example/g01381/laws.FnExactVoteStep", spec := "fnExactVoteStep", unfollowed := true, recurses := true, apart := false }
def FnExactVoteStepSaid : Prop := fnExactVoteStepRow.holds Try.pinned (OpenSpec.ofChange fnExactVoteStepSpec)

/-- ITS FALSE NEIGHBOUR: 'it returns false'. Refute it at one input. -/
def fnExactVoteStepWrong : ChangeSpec := { name := "fnExactVoteStep", fn := fun _ => fun
  | [d1, d2] => { results := [.lit (.bool false)], args := [d1, d2] }
  | _ => none }
def FnExactVoteStepWrongFalsely : Prop := fnExactVoteStepRow.holds Try.pinned (OpenSpec.ofChange fnExactVoteStepWrong)

/-- 'laws.FnExactVoteRun': WHATEVER THE INPUT: true; the input reads as it did. -/
def fnExactVoteRunSpec : ChangeSpec := { name := "fnExactVoteRun", fn := fun _ => fun
  | [d1, d2, d3] => { results := [.lit (.bool true)], args := [d1, d2, d3] }
  | _ => none }
def fnExactVoteRunRow : OpenClaim := { program := "ythcbhbdgbiiagaa", sum := "6045120e04ad20a284a3d09d62f3e8b61648cbe42b4a03f91ed4d3c9958fb703", func := "loop.example/g01381/laws.FnExactVoteRun", spec := "fnExactVoteRun", unfollowed := true, recurses := true, apart := false }
def FnExactVoteRunSaid : Prop := fnExactVoteRunRow.holds Try.pinned (OpenSpec.ofChange fnExactVoteRunSpec)

/-- ITS FALSE NEIGHBOUR: 'it returns false'. Refute it at one input. -/
def fnExactVoteRunWrong : ChangeSpec := { name := "fnExactVoteRun", fn := fun _ => fun
  | [d1, d2, d3] => { results := [.lit (.bool false)], args := [d1, d2, d3] }
  | _ => none }
def FnExactVoteRunWrongFalsely : Prop := fnExactVoteRunRow.holds Try.pinned (OpenSpec.ofChange fnExactVoteRunWrong)

/-- 'laws.FnExactMajorityOf': WHATEVER THE INPUT: true; the input reads as it did. -/
def fnExactMajorityOfSpec : ChangeSpec := { name := "fnExactMajorityOf", fn := fun _ => fun
  | [d] => { results := [.lit (.bool true)], args := [d] }
  | _ => none }
def fnExactMajorityOfRow : OpenClaim := { program := "ythcbhbdgbiiagaa", sum := "6045120e04ad20a284a3d09d62f3e8b61648cbe42b4a03f91ed4d3c9958fb703", func := "loop.example/g01381/laws.FnExactMajorityOf", spec := "fnExactMajorityOf", unfollowed := true, recurses := true, apart := false }
def FnExactMajorityOfSaid : Prop := fnExactMajorityOfRow.holds Try.pinned (OpenSpec.ofChange fnExactMajorityOfSpec)

/-- ITS FALSE NEIGHBOUR: 'it returns false'. Refute it at one input. -/
def fnExactMajorityOfWrong : ChangeSpec := { name := "fnExactMajorityOf", fn := fun _ => fun
  | [d] => { results := [.lit (.bool false)], args := [d] }
  | _ => none }
def FnExactMajorityOfWrongFalsely : Prop := fnExactMajorityOfRow.holds Try.pinned (OpenSpec.ofChange fnExactMajorityOfWrong)

/-- 'laws.FnExactCrossRules': WHATEVER THE INPUT: true; the input reads as it did. -/
def fnExactCrossRulesSpec : ChangeSpec := { name := "fnExactCrossRules", fn := fun _ => fun
  | [d1, d2, d3] => { results := [.lit (.bool true)], args := [d1, d2, d3] }
  | _ => none }
def fnExactCrossRulesRow : OpenClaim := { program := "ythcbhbdgbiiagaa", sum := "6045120e04ad20a284a3d09d62f3e8b61648cbe42b4a03f91ed4d3c9958fb703", func := "loop.example/g01381/laws.FnExactCrossRules", spec := "fnExactCrossRules", unfollowed := true, recurses := true, apart := false }
def FnExactCrossRulesSaid : Prop := fnExactCrossRulesRow.holds Try.pinned (OpenSpec.ofChange fnExactCrossRulesSpec)

/-- ITS FALSE NEIGHBOUR: 'it returns false'. Refute it at one input. -/
def fnExactCrossRulesWrong : ChangeSpec := { name := "fnExactCrossRules", fn := fun _ => fun
  | [d1, d2, d3] => { results := [.lit (.bool false)], args := [d1, d2, d3] }
  | _ => none }
def FnExactCrossRulesWrongFalsely : Prop := fnExactCrossRulesRow.holds Try.pinned (OpenSpec.ofChange fnExactCrossRulesWrong)

/-- 'laws.FnExactFillTable': WHATEVER THE INPUT: true; the input reads as it did. -/
def fnExactFillTableSpec : ChangeSpec := { name := "fnExactFillTable", fn := fun _ => fun
  | [d1, d2, d3, d4] => { results := [.lit (.bool true)], args := [d1, d2, d3, d4] }
  | _ => none }
def fnExactFillTableRow : OpenClaim := { program := "ythcbhbdgbiiagaa", sum := "6045120e04ad20a284a3d09d62f3e8b61648cbe42b4a03f91ed4d3c9958fb703", func := "loop.example/g01381/laws.FnExactFillTable", spec := "fnExactFillTable", unfollowed := true, recurses := true, apart := false }
def FnExactFillTableSaid : Prop := fnExactFillTableRow.holds Try.pinned (OpenSpec.ofChange fnExactFillTableSpec)

/-- ITS FALSE NEIGHBOUR: 'it returns false'. Refute it at one input. -/
def fnExactFillTableWrong : ChangeSpec := { name := "fnExactFillTable", fn := fun _ => fun
  | [d1, d2, d3, d4] => { results := [.lit (.bool false)], args := [d1, d2, d3, d4] }
  | _ => none }
def FnExactFillTableWrongFalsely : Prop := fnExactFillTableRow.holds Try.pinned (OpenSpec.ofChange fnExactFillTableWrong)

/-- 'laws.FnExactChangeRule': WHATEVER THE INPUT: true; the input reads as it did. -/
def fnExactChangeRuleSpec : ChangeSpec := { name := "fnExactChangeRule", fn := fun _ => fun
  | [d1, d2, d3] => { results := [.lit (.bool true)], args := [d1, d2, d3] }
  | _ => none }
def fnExactChangeRuleRow : OpenClaim := { program := "ythcbhbdgbiiagaa", sum := "6045120e04ad20a284a3d09d62f3e8b61648cbe42b4a03f91ed4d3c9958fb703", func := "loop.example/g01381/laws.FnExactChangeRule", spec := "fnExactChangeRule", unfollowed := true, recurses := true, apart := false }
def FnExactChangeRuleSaid : Prop := fnExactChangeRuleRow.holds Try.pinned (OpenSpec.ofChange fnExactChangeRuleSpec)

/-- ITS FALSE NEIGHBOUR: 'it returns false'. Refute it at one input. -/
def fnExactChangeRuleWrong : ChangeSpec := { name := "fnExactChangeRule", fn := fun _ => fun
  | [d1, d2, d3] => { results := [.lit (.bool false)], args := [d1, d2, d3] }
  | _ => none }
def FnExactChangeRuleWrongFalsely : Prop := fnExactChangeRuleRow.holds Try.pinned (OpenSpec.ofChange fnExactChangeRuleWrong)

/-- 'laws.FnExactTaskCount': WHATEVER THE INPUT: true; the input reads as it did. -/
def fnExactTaskCountSpec : ChangeSpec := { name := "fnExactTaskCount", fn := fun _ => fun
  | [d1, d2, d3, d4, d5] => { results := [.lit (.bool true)], args := [d1, d2, d3, d4, d5] }
  | _ => none }
def fnExactTaskCountRow : OpenClaim := { program := "ythcbhbdgbiiagaa", sum := "6045120e04ad20a284a3d09d62f3e8b61648cbe42b4a03f91ed4d3c9958fb703", func := "loop.example/g01381/laws.FnExactTaskCount", spec := "fnExactTaskCount", unfollowed := true, recurses := true, apart := false }
def FnExactTaskCountSaid : Prop := fnExactTaskCountRow.holds Try.pinned (OpenSpec.ofChange fnExactTaskCountSpec)

/-- ITS FALSE NEIGHBOUR: 'it returns false'. Refute it at one input. -/
def fnExactTaskCountWrong : ChangeSpec := { name := "fnExactTaskCount", fn := fun _ => fun
  | [d1, d2, d3, d4, d5] => { results := [.lit (.bool false)], args := [d1, d2, d3, d4, d5] }
  | _ => none }
def FnExactTaskCountWrongFalsely : Prop := fnExactTaskCountRow.holds Try.pinned (OpenSpec.ofChange fnExactTaskCountWrong)

/-- 'laws.FnExactWindingOf': WHATEVER THE INPUT: true; the input reads as it did. -/
def fnExactWindingOfSpec : ChangeSpec := { name := "fnExactWindingOf", fn := fun _ => fun
  | [d1, d2] => { results := [.lit (.bool true)], args := [d1, d2] }
  | _ => none }
def fnExactWindingOfRow : OpenClaim := { program := "ythcbhbdgbiiagaa", sum := "6045120e04ad20a284a3d09d62f3e8b61648cbe42b4a03f91ed4d3c9958fb703", func := "loop.example/g01381/laws.FnExactWindingOf", spec := "fnExactWindingOf", unfollowed := true, recurses := true, apart := false }
def FnExactWindingOfSaid : Prop := fnExactWindingOfRow.holds Try.pinned (OpenSpec.ofChange fnExactWindingOfSpec)

/-- ITS FALSE NEIGHBOUR: 'it returns false'. Refute it at one input. -/
def fnExactWindingOfWrong : ChangeSpec := { name := "fnExactWindingOf", fn := fun _ => fun
  | [d1, d2] => { results := [.lit (.bool false)], args := [d1, d2] }
  | _ => none }
def FnExactWindingOfWrongFalsely : Prop := fnExactWindingOfRow.holds Try.pinned (OpenSpec.ofChange fnExactWindingOfWrong)

/-- 'laws.FnExactSpiralsOf': WHATEVER THE INPUT: true; the input reads as it did. -/
def fnExactSpiralsOfSpec : ChangeSpec := { name := "fnExactSpiralsOf", fn := fun _ => fun
  | [d1, d2] => { results := [.lit (.bool true)], args := [d1, d2] }
  | _ => none }
def fnExactSpiralsOfRow : OpenClaim := { program := "ythcbhbdgbiiagaa", sum := "6045120e04ad20a284a3d09d62f3e8b61648cbe42b4a03f91ed4d3c9958fb703", func := "loop.example/g01381/laws.FnExactSpiralsOf", spec := "fnExactSpiralsOf", unfollowed := true, recurses := true, apart := false }
def FnExactSpiralsOfSaid : Prop := fnExactSpiralsOfRow.holds Try.pinned (OpenSpec.ofChange fnExactSpiralsOfSpec)

/-- ITS FALSE NEIGHBOUR: 'it returns false'. Refute it at one input. -/
def fnExactSpiralsOfWrong : ChangeSpec := { name := "fnExactSpiralsOf", fn := fun _ => fun
  | [d1, d2] => { results := [.lit (.bool false)], args := [d1, d2] }
  | _ => none }
def FnExactSpiralsOfWrongFalsely : Prop := fnExactSpiralsOfRow.holds Try.pinned (OpenSpec.ofChange fnExactSpiralsOfWrong)

/-- 'laws.FnExactValidSaved': WHATEVER THE INPUT: true; the input reads as it did. -/
def fnExactValidSavedSpec : ChangeSpec := { name := "fnExactValidSaved", fn := fun _ => fun
  | [d] => { results := [.lit (.bool true)], args := [d] }
  | _ => none }
def fnExactValidSavedRow : OpenClaim := { program := "ythcbhbdgbiiagaa", sum := "6045120e04ad20a284a3d09d62f3e8b61648cbe42b4a03f91ed4d3c9958fb703", func := "loop.example/g01381/laws.FnExactValidSaved", spec := "fnExactValidSaved", unfollowed := true, recurses := true, apart := false }
def FnExactValidSavedSaid : Prop := fnExactValidSavedRow.holds Try.pinned (OpenSpec.ofChange fnExactValidSavedSpec)

/-- ITS FALSE NEIGHBOUR: 'it returns false'. Refute it at one input. -/
def fnExactValidSavedWrong : ChangeSpec := { name := "fnExactValidSaved", fn := fun _ => fun
  | [d] => { results := [.lit (.bool false)], args := [d] }
  | _ => none }
def FnExactValidSavedWrongFalsely : Prop := fnExactValidSavedRow.holds Try.pinned (OpenSpec.ofChange fnExactValidSavedWrong)

/- THE SECOND FORM. 'bulk': how many values and letters a reading holds, each counted each time it is reached (what is shared counts as often as it is met; a slice's spare places count too). A statement '..UptoSaid' is the law's where the arguments, and the package variables that the reading takes, are together of bulk at most 1048576: NARROWER than '..Said'. Prove '..Said' where nothing that the law and all that it calls make is longer than what came in: it says more and counts as full. Else prove '..UptoSaid'. A law counts once. -/
mutual
def uptoBulk {H : Type} : DataW H → Nat
  | .lit (.string bytes) => bytes.length + 1
  | .lit _ => 1
  | .nil => 1
  | .ptr d => uptoBulk d + 1
  | .slice elems spare => uptoBulkAll elems + uptoBulkAll spare + 1
  | .agg parts => uptoBulkAll parts + 1
  | .iface _ d => uptoBulk d + 1
  | .map entries => uptoBulkEntries entries + 1
  | .held _ => 1
def uptoBulkAll {H : Type} : List (DataW H) → Nat
  | [] => 0
  | d :: r => uptoBulk d + uptoBulkAll r
def uptoBulkEntries {H : Type} : List (Lit × DataW H) → Nat
  | [] => 0
  | x :: r => uptoBulkEntry x + uptoBulkEntries r
def uptoBulkEntry {H : Type} : Lit × DataW H → Nat
  | (.string bytes, d) => bytes.length + uptoBulk d + 1
  | (_, d) => uptoBulk d + 1
 end
def uptoSmall : (H : Type) → List (DataW H) → Bool := fun _ ds => decide (uptoBulkAll ds ≤ 1048576)
def OpenSpec.upto (s : _root_.Go.ChangeSpec) : _root_.Go.OpenSpec := { _root_.Go.OpenSpec.ofChange s with cond := some uptoSmall }

/-- 'laws.FnExactVoteStep', WHERE WHAT IT READS IS OF BULK AT MOST 1048576: true; the input reads as it did. -/
def fnExactVoteStepUptoRow : OpenClaim := { program := "ythcbhbdgbiiagaa", sum := "6045120e04ad20a284a3d09d62f3e8b61648cbe42b4a03f91ed4d3c9958fb703", func := "loop.example/g01381/laws.FnExactVoteStep", spec := "fnExactVoteStep", unfollowed := true, recurses := true, apart := false, narrowed := true }
def FnExactVoteStepUptoSaid : Prop := fnExactVoteStepUptoRow.holds Try.pinned (OpenSpec.upto fnExactVoteStepSpec)

/-- 'laws.FnExactVoteRun', WHERE WHAT IT READS IS OF BULK AT MOST 1048576: true; the input reads as it did. -/
def fnExactVoteRunUptoRow : OpenClaim := { program := "ythcbhbdgbiiagaa", sum := "6045120e04ad20a284a3d09d62f3e8b61648cbe42b4a03f91ed4d3c9958fb703", func := "loop.example/g01381/laws.FnExactVoteRun", spec := "fnExactVoteRun", unfollowed := true, recurses := true, apart := false, narrowed := true }
def FnExactVoteRunUptoSaid : Prop := fnExactVoteRunUptoRow.holds Try.pinned (OpenSpec.upto fnExactVoteRunSpec)

/-- 'laws.FnExactMajorityOf', WHERE WHAT IT READS IS OF BULK AT MOST 1048576: true; the input reads as it did. -/
def fnExactMajorityOfUptoRow : OpenClaim := { program := "ythcbhbdgbiiagaa", sum := "6045120e04ad20a284a3d09d62f3e8b61648cbe42b4a03f91ed4d3c9958fb703", func := "loop.example/g01381/laws.FnExactMajorityOf", spec := "fnExactMajorityOf", unfollowed := true, recurses := true, apart := false, narrowed := true }
def FnExactMajorityOfUptoSaid : Prop := fnExactMajorityOfUptoRow.holds Try.pinned (OpenSpec.upto fnExactMajorityOfSpec)

/-- 'laws.FnExactCrossRules', WHERE WHAT IT READS IS OF BULK AT MOST 1048576: true; the input reads as it did. -/
def fnExactCrossRulesUptoRow : OpenClaim := { program := "ythcbhbdgbiiagaa", sum := "6045120e04ad20a284a3d09d62f3e8b61648cbe42b4a03f91ed4d3c9958fb703", func := "loop.example/g01381/laws.FnExactCrossRules", spec := "fnExactCrossRules", unfollowed := true, recurses := true, apart := false, narrowed := true }
def FnExactCrossRulesUptoSaid : Prop := fnExactCrossRulesUptoRow.holds Try.pinned (OpenSpec.upto fnExactCrossRulesSpec)

/-- 'laws.FnExactFillTable', WHERE WHAT IT READS IS OF BULK AT MOST 1048576: true; the input reads as it did. -/
def fnExactFillTableUptoRow : OpenClaim := { program := "ythcbhbdgbiiagaa", sum := "6045120e04ad20a284a3d09d62f3e8b61648cbe42b4a03f91ed4d3c9958fb703", func := "loop.example/g01381/laws.FnExactFillTable", spec := "fnExactFillTable", unfollowed := true, recurses := true, apart := false, narrowed := true }
def FnExactFillTableUptoSaid : Prop := fnExactFillTableUptoRow.holds Try.pinned (OpenSpec.upto fnExactFillTableSpec)

/-- 'laws.FnExactChangeRule', WHERE WHAT IT READS IS OF BULK AT MOST 1048576: true; the input reads as it did. -/
def fnExactChangeRuleUptoRow : OpenClaim := { program := "ythcbhbdgbiiagaa", sum := "6045120e04ad20a284a3d09d62f3e8b61648cbe42b4a03f91ed4d3c9958fb703", func := "loop.example/g01381/laws.FnExactChangeRule", spec := "fnExactChangeRule", unfollowed := true, recurses := true, apart := false, narrowed := true }
def FnExactChangeRuleUptoSaid : Prop := fnExactChangeRuleUptoRow.holds Try.pinned (OpenSpec.upto fnExactChangeRuleSpec)

/-- 'laws.FnExactTaskCount', WHERE WHAT IT READS IS OF BULK AT MOST 1048576: true; the input reads as it did. -/
def fnExactTaskCountUptoRow : OpenClaim := { program := "ythcbhbdgbiiagaa", sum := "6045120e04ad20a284a3d09d62f3e8b61648cbe42b4a03f91ed4d3c9958fb703", func := "loop.example/g01381/laws.FnExactTaskCount", spec := "fnExactTaskCount", unfollowed := true, recurses := true, apart := false, narrowed := true }
def FnExactTaskCountUptoSaid : Prop := fnExactTaskCountUptoRow.holds Try.pinned (OpenSpec.upto fnExactTaskCountSpec)

/-- 'laws.FnExactWindingOf', WHERE WHAT IT READS IS OF BULK AT MOST 1048576: true; the input reads as it did. -/
def fnExactWindingOfUptoRow : OpenClaim := { program := "ythcbhbdgbiiagaa", sum := "6045120e04ad20a284a3d09d62f3e8b61648cbe42b4a03f91ed4d3c9958fb703", func := "loop.example/g01381/laws.FnExactWindingOf", spec := "fnExactWindingOf", unfollowed := true, recurses := true, apart := false, narrowed := true }
def FnExactWindingOfUptoSaid : Prop := fnExactWindingOfUptoRow.holds Try.pinned (OpenSpec.upto fnExactWindingOfSpec)

/-- 'laws.FnExactSpiralsOf', WHERE WHAT IT READS IS OF BULK AT MOST 1048576: true; the input reads as it did. -/
def fnExactSpiralsOfUptoRow : OpenClaim := { program := "ythcbhbdgbiiagaa", sum := "6045120e04ad20a284a3d09d62f3e8b61648cbe42b4a03f91ed4d3c9958fb703", func := "loop.example/g01381/laws.FnExactSpiralsOf", spec := "fnExactSpiralsOf", unfollowed := true, recurses := true, apart := false, narrowed := true }
def FnExactSpiralsOfUptoSaid : Prop := fnExactSpiralsOfUptoRow.holds Try.pinned (OpenSpec.upto fnExactSpiralsOfSpec)

/-- 'laws.FnExactValidSaved', WHERE WHAT IT READS IS OF BULK AT MOST 1048576: true; the input reads as it did. -/
def fnExactValidSavedUptoRow : OpenClaim := { program := "ythcbhbdgbiiagaa", sum := "6045120e04ad20a284a3d09d62f3e8b61648cbe42b4a03f91ed4d3c9958fb703", func := "loop.example/g01381/laws.FnExactValidSaved", spec := "fnExactValidSaved", unfollowed := true, recurses := true, apart := false, narrowed := true }
def FnExactValidSavedUptoSaid : Prop := fnExactValidSavedUptoRow.holds Try.pinned (OpenSpec.upto fnExactValidSavedSpec)

end Rows
end Go.Proofs.Ythcbhbdgbiiagaa
