/-
  No cell of these rows narrows 'for every input' (looked for: loops, veiled, ifaces, maps, wideKeys, modest, calm, conditions, laid).
  DERIVED. THE GIVEN ROWS OF THIS SEAT. 12 by the template 'for every input the law returns true; each argument reads behind the call as it read before'; 0 by the template 'total and deterministic' (their statements: YtejchjjkehmgaaaTotals.lean).
  GIVEN WITH THE SEED: the statements are not yours to turn. If you find one false, say at which input.
  Laid BY PROGRAM, IN A SANDBOX (cutbox-rows.mjs): the forced cells as the released guide's own fill.sh prints them over the translation 25326ca754479936… (all of the seat's roots in one cut). By AI agents, Wed Nov 11 2026. No macro, syntax, notation, axiom, sorry.
-/
import Derived.Test.YtejchjjkehmgaaaChecked
import GoSem.Claim
import GoSem.ClaimJoined
import GoSem.ClaimMapViews
import Derived.JoinedTies
import Derived.KernelRfl
namespace Go.Proofs.Ytejchjjkehmgaaa
/- THE CELL 'sum', in the pinned program and in every row, IS THE sha256 OF THE DUMP (.gsa) THAT YtejchjjkehmgaaaProg.lean LOADS. Nothing in Lean hashes anything: it is a label: what it is worth is what the hold of that sum in a sandbox is worth. -/
noncomputable def Try.pinned : Pinned := { name := "ytejchjjkehmgaaa", sum := "25326ca7544799369b4ae0fb240e1761fb57b3b24d9ee4c1509f84b12febb049", checked := Try.checked }
namespace Rows
def none {H : Type} : Left H := { results := [], args := [] }

/-- 'laws.FnExactSumNumbers': WHATEVER THE INPUT: true; the input reads as it did. -/
def fnExactSumNumbersSpec : ChangeSpec := { name := "fnExactSumNumbers", fn := fun _ => fun
  | [d] => { results := [.lit (.bool true)], args := [d] }
  | _ => none }
def fnExactSumNumbersRow : OpenClaim := { program := "ytejchjjkehmgaaa", sum := "25326ca7544799369b4ae0fb240e1761fb57b3b24d9ee4c1509f84b12febb049", func := "loop.example/g01381/laws.FnExactSumNumbers", spec := "fnExactSumNumbers", apart := false }
def FnExactSumNumbersSaid : Prop := fnExactSumNumbersRow.holds Try.pinned (OpenSpec.ofChange fnExactSumNumbersSpec)

/-- ITS FALSE NEIGHBOUR: 'it returns false'. Refute it at one input. -/
def fnExactSumNumbersWrong : ChangeSpec := { name := "fnExactSumNumbers", fn := fun _ => fun
  | [d] => { results := [.lit (.bool false)], args := [d] }
  | _ => none }
def FnExactSumNumbersWrongFalsely : Prop := fnExactSumNumbersRow.holds Try.pinned (OpenSpec.ofChange fnExactSumNumbersWrong)

/-- 'laws.FnExactDotNumbers': WHATEVER THE INPUT: true; the input reads as it did. -/
def fnExactDotNumbersSpec : ChangeSpec := { name := "fnExactDotNumbers", fn := fun _ => fun
  | [d1, d2] => { results := [.lit (.bool true)], args := [d1, d2] }
  | _ => none }
def fnExactDotNumbersRow : OpenClaim := { program := "ytejchjjkehmgaaa", sum := "25326ca7544799369b4ae0fb240e1761fb57b3b24d9ee4c1509f84b12febb049", func := "loop.example/g01381/laws.FnExactDotNumbers", spec := "fnExactDotNumbers", apart := false }
def FnExactDotNumbersSaid : Prop := fnExactDotNumbersRow.holds Try.pinned (OpenSpec.ofChange fnExactDotNumbersSpec)

/-- ITS FALSE NEIGHBOUR: 'it returns false'. Refute it at one input. -/
def fnExactDotNumbersWrong : ChangeSpec := { name := "fnExactDotNumbers", fn := fun _ => fun
  | [d1, d2] => { results := [.lit (.bool false)], args := [d1, d2] }
  | _ => none }
def FnExactDotNumbersWrongFalsely : Prop := fnExactDotNumbersRow.holds Try.pinned (OpenSpec.ofChange fnExactDotNumbersWrong)

/-- 'laws.FnExactMassOf': WHATEVER THE INPUT: true; the input reads as it did. -/
def fnExactMassOfSpec : ChangeSpec := { name := "fnExactMassOf", fn := fun _ => fun
  | [d] => { results := [.lit (.bool true)], args := [d] }
  | _ => none }
def fnExactMassOfRow : OpenClaim := { program := "ytejchjjkehmgaaa", sum := "25326ca7544799369b4ae0fb240e1761fb57b3b24d9ee4c1509f84b12febb049", func := "loop.example/g01381/laws.FnExactMassOf", spec := "fnExactMassOf", inPlace := ["math.Float64bits", "math.Float64frombits"], unfollowed := true, recurses := true, apart := false }
def FnExactMassOfSaid : Prop := fnExactMassOfRow.holds Try.pinned (OpenSpec.ofChange fnExactMassOfSpec)

/-- ITS FALSE NEIGHBOUR: 'it returns false'. Refute it at one input. -/
def fnExactMassOfWrong : ChangeSpec := { name := "fnExactMassOf", fn := fun _ => fun
  | [d] => { results := [.lit (.bool false)], args := [d] }
  | _ => none }
def FnExactMassOfWrongFalsely : Prop := fnExactMassOfRow.holds Try.pinned (OpenSpec.ofChange fnExactMassOfWrong)

/-- 'laws.FnExactValidFlow': WHATEVER THE INPUT: true; the input reads as it did. -/
def fnExactValidFlowSpec : ChangeSpec := { name := "fnExactValidFlow", fn := fun _ => fun
  | [d] => { results := [.lit (.bool true)], args := [d] }
  | _ => none }
def fnExactValidFlowRow : OpenClaim := { program := "ytejchjjkehmgaaa", sum := "25326ca7544799369b4ae0fb240e1761fb57b3b24d9ee4c1509f84b12febb049", func := "loop.example/g01381/laws.FnExactValidFlow", spec := "fnExactValidFlow", inPlace := ["math.Float64bits", "math.Float64frombits"], unfollowed := true, recurses := true, apart := false }
def FnExactValidFlowSaid : Prop := fnExactValidFlowRow.holds Try.pinned (OpenSpec.ofChange fnExactValidFlowSpec)

/-- ITS FALSE NEIGHBOUR: 'it returns false'. Refute it at one input. -/
def fnExactValidFlowWrong : ChangeSpec := { name := "fnExactValidFlow", fn := fun _ => fun
  | [d] => { results := [.lit (.bool false)], args := [d] }
  | _ => none }
def FnExactValidFlowWrongFalsely : Prop := fnExactValidFlowRow.holds Try.pinned (OpenSpec.ofChange fnExactValidFlowWrong)

/-- 'laws.FnExactSameFlow': WHATEVER THE INPUT: true; the input reads as it did. -/
def fnExactSameFlowSpec : ChangeSpec := { name := "fnExactSameFlow", fn := fun _ => fun
  | [d1, d2] => { results := [.lit (.bool true)], args := [d1, d2] }
  | _ => none }
def fnExactSameFlowRow : OpenClaim := { program := "ytejchjjkehmgaaa", sum := "25326ca7544799369b4ae0fb240e1761fb57b3b24d9ee4c1509f84b12febb049", func := "loop.example/g01381/laws.FnExactSameFlow", spec := "fnExactSameFlow", inPlace := ["math.Float32bits"], unfollowed := true, recurses := true, apart := false }
def FnExactSameFlowSaid : Prop := fnExactSameFlowRow.holds Try.pinned (OpenSpec.ofChange fnExactSameFlowSpec)

/-- ITS FALSE NEIGHBOUR: 'it returns false'. Refute it at one input. -/
def fnExactSameFlowWrong : ChangeSpec := { name := "fnExactSameFlow", fn := fun _ => fun
  | [d1, d2] => { results := [.lit (.bool false)], args := [d1, d2] }
  | _ => none }
def FnExactSameFlowWrongFalsely : Prop := fnExactSameFlowRow.holds Try.pinned (OpenSpec.ofChange fnExactSameFlowWrong)

/-- 'laws.FnExactRowsOfRing': WHATEVER THE INPUT: true; the input reads as it did. -/
def fnExactRowsOfRingSpec : ChangeSpec := { name := "fnExactRowsOfRing", fn := fun _ => fun
  | [d1, d2, d3] => { results := [.lit (.bool true)], args := [d1, d2, d3] }
  | _ => none }
def fnExactRowsOfRingRow : OpenClaim := { program := "ytejchjjkehmgaaa", sum := "25326ca7544799369b4ae0fb240e1761fb57b3b24d9ee4c1509f84b12febb049", func := "loop.example/g01381/laws.FnExactRowsOfRing", spec := "fnExactRowsOfRing", unfollowed := true, recurses := true, apart := false }
def FnExactRowsOfRingSaid : Prop := fnExactRowsOfRingRow.holds Try.pinned (OpenSpec.ofChange fnExactRowsOfRingSpec)

/-- ITS FALSE NEIGHBOUR: 'it returns false'. Refute it at one input. -/
def fnExactRowsOfRingWrong : ChangeSpec := { name := "fnExactRowsOfRing", fn := fun _ => fun
  | [d1, d2, d3] => { results := [.lit (.bool false)], args := [d1, d2, d3] }
  | _ => none }
def FnExactRowsOfRingWrongFalsely : Prop := fnExactRowsOfRingRow.holds Try.pinned (OpenSpec.ofChange fnExactRowsOfRingWrong)

/-- 'laws.FnExactActiveShare': WHATEVER THE INPUT: true; the input reads as it did. -/
def fnExactActiveShareSpec : ChangeSpec := { name := "fnExactActiveShare", fn := fun _ => fun
  | [d] => { results := [.lit (.bool true)], args := [d] }
  | _ => none }
def fnExactActiveShareRow : OpenClaim := { program := "ytejchjjkehmgaaa", sum := "25326ca7544799369b4ae0fb240e1761fb57b3b24d9ee4c1509f84b12febb049", func := "loop.example/g01381/laws.FnExactActiveShare", spec := "fnExactActiveShare", unfollowed := true, recurses := true, apart := false }
def FnExactActiveShareSaid : Prop := fnExactActiveShareRow.holds Try.pinned (OpenSpec.ofChange fnExactActiveShareSpec)

/-- ITS FALSE NEIGHBOUR: 'it returns false'. Refute it at one input. -/
def fnExactActiveShareWrong : ChangeSpec := { name := "fnExactActiveShare", fn := fun _ => fun
  | [d] => { results := [.lit (.bool false)], args := [d] }
  | _ => none }
def FnExactActiveShareWrongFalsely : Prop := fnExactActiveShareRow.holds Try.pinned (OpenSpec.ofChange fnExactActiveShareWrong)

/-- 'laws.FnExactLeastReach': WHATEVER THE INPUT: true; the input reads as it did. -/
def fnExactLeastReachSpec : ChangeSpec := { name := "fnExactLeastReach", fn := fun _ => fun
  | [d1, d2, d3] => { results := [.lit (.bool true)], args := [d1, d2, d3] }
  | _ => none }
def fnExactLeastReachRow : OpenClaim := { program := "ytejchjjkehmgaaa", sum := "25326ca7544799369b4ae0fb240e1761fb57b3b24d9ee4c1509f84b12febb049", func := "loop.example/g01381/laws.FnExactLeastReach", spec := "fnExactLeastReach", unfollowed := true, recurses := true, apart := false }
def FnExactLeastReachSaid : Prop := fnExactLeastReachRow.holds Try.pinned (OpenSpec.ofChange fnExactLeastReachSpec)

/-- ITS FALSE NEIGHBOUR: 'it returns false'. Refute it at one input. -/
def fnExactLeastReachWrong : ChangeSpec := { name := "fnExactLeastReach", fn := fun _ => fun
  | [d1, d2, d3] => { results := [.lit (.bool false)], args := [d1, d2, d3] }
  | _ => none }
def FnExactLeastReachWrongFalsely : Prop := fnExactLeastReachRow.holds Try.pinned (OpenSpec.ofChange fnExactLeastReachWrong)

/-- 'laws.FnExactLearnTable': WHATEVER THE INPUT: true; the input reads as it did. -/
def fnExactLearnTableSpec : ChangeSpec := { name := "fnExactLearnTable", fn := fun _ => fun
  | [d1, d2, d3, d4] => { results := [.lit (.bool true)], args := [d1, d2, d3, d4] }
  | _ => none }
def fnExactLearnTableRow : OpenClaim := { program := "ytejchjjkehmgaaa", sum := "25326ca7544799369b4ae0fb240e1761fb57b3b24d9ee4c1509f84b12febb049", func := "loop.example/g01381/laws.FnExactLearnTable", spec := "fnExactLearnTable", unfollowed := true, recurses := true, apart := false }
def FnExactLearnTableSaid : Prop := fnExactLearnTableRow.holds Try.pinned (OpenSpec.ofChange fnExactLearnTableSpec)

/-- ITS FALSE NEIGHBOUR: 'it returns false'. Refute it at one input. -/
def fnExactLearnTableWrong : ChangeSpec := { name := "fnExactLearnTable", fn := fun _ => fun
  | [d1, d2, d3, d4] => { results := [.lit (.bool false)], args := [d1, d2, d3, d4] }
  | _ => none }
def FnExactLearnTableWrongFalsely : Prop := fnExactLearnTableRow.holds Try.pinned (OpenSpec.ofChange fnExactLearnTableWrong)

/-- 'laws.FnExactCountBack': WHATEVER THE INPUT: true; the input reads as it did. -/
def fnExactCountBackSpec : ChangeSpec := { name := "fnExactCountBack", fn := fun _ => fun
  | [d1, d2] => { results := [.lit (.bool true)], args := [d1, d2] }
  | _ => none }
def fnExactCountBackRow : OpenClaim := { program := "ytejchjjkehmgaaa", sum := "25326ca7544799369b4ae0fb240e1761fb57b3b24d9ee4c1509f84b12febb049", func := "loop.example/g01381/laws.FnExactCountBack", spec := "fnExactCountBack", unfollowed := true, recurses := true, apart := false }
def FnExactCountBackSaid : Prop := fnExactCountBackRow.holds Try.pinned (OpenSpec.ofChange fnExactCountBackSpec)

/-- ITS FALSE NEIGHBOUR: 'it returns false'. Refute it at one input. -/
def fnExactCountBackWrong : ChangeSpec := { name := "fnExactCountBack", fn := fun _ => fun
  | [d1, d2] => { results := [.lit (.bool false)], args := [d1, d2] }
  | _ => none }
def FnExactCountBackWrongFalsely : Prop := fnExactCountBackRow.holds Try.pinned (OpenSpec.ofChange fnExactCountBackWrong)

/-- 'laws.FnExactSameSaved': WHATEVER THE INPUT: true; the input reads as it did. -/
def fnExactSameSavedSpec : ChangeSpec := { name := "fnExactSameSaved", fn := fun _ => fun
  | [d1, d2] => { results := [.lit (.bool true)], args := [d1, d2] }
  | _ => none }
def fnExactSameSavedRow : OpenClaim := { program := "ytejchjjkehmgaaa", sum := "25326ca7544799369b4ae0fb240e1761fb57b3b24d9ee4c1509f84b12febb049", func := "loop.example/g01381/laws.FnExactSameSaved", spec := "fnExactSameSaved", unfollowed := true, recurses := true, apart := false }
def FnExactSameSavedSaid : Prop := fnExactSameSavedRow.holds Try.pinned (OpenSpec.ofChange fnExactSameSavedSpec)

/-- ITS FALSE NEIGHBOUR: 'it returns false'. Refute it at one input. -/
def fnExactSameSavedWrong : ChangeSpec := { name := "fnExactSameSaved", fn := fun _ => fun
  | [d1, d2] => { results := [.lit (.bool false)], args := [d1, d2] }
  | _ => none }
def FnExactSameSavedWrongFalsely : Prop := fnExactSameSavedRow.holds Try.pinned (OpenSpec.ofChange fnExactSameSavedWrong)

/-- 'laws.FnExactJoinRules': WHATEVER THE INPUT: true; the input reads as it did. -/
def fnExactJoinRulesSpec : ChangeSpec := { name := "fnExactJoinRules", fn := fun _ => fun
  | [d1, d2] => { results := [.lit (.bool true)], args := [d1, d2] }
  | _ => none }
def fnExactJoinRulesRow : OpenClaim := { program := "ytejchjjkehmgaaa", sum := "25326ca7544799369b4ae0fb240e1761fb57b3b24d9ee4c1509f84b12febb049", func := "loop.example/g01381/laws.FnExactJoinRules", spec := "fnExactJoinRules", unfollowed := true, recurses := true, apart := false }
def FnExactJoinRulesSaid : Prop := fnExactJoinRulesRow.holds Try.pinned (OpenSpec.ofChange fnExactJoinRulesSpec)

/-- ITS FALSE NEIGHBOUR: 'it returns false'. Refute it at one input. -/
def fnExactJoinRulesWrong : ChangeSpec := { name := "fnExactJoinRules", fn := fun _ => fun
  | [d1, d2] => { results := [.lit (.bool false)], args := [d1, d2] }
  | _ => none }
def FnExactJoinRulesWrongFalsely : Prop := fnExactJoinRulesRow.holds Try.pinned (OpenSpec.ofChange fnExactJoinRulesWrong)

/- THE SECOND FORM. 'bulk': how many values and letters a reading holds, each counted each time it is reached (what is shared counts as often as it is met; a slice's spare places count too). A statement '..UptoSaid' is the law's where the arguments, and the package variables that the reading takes, are together of bulk at most 1048576: NARROWER than '..Said'. Prove '..Said' where nothing that the law and all that it calls make is longer than what came in: it says more and counts as full. Else prove '..UptoSaid'. A law counts once. -/
mutual
def uptoBulk {H : Type} : DataW H → Nat
  | .lit (.string bytes) => bytes.length + 1
  | .lit _ => 1
  | .nil => 1
  | .ptr d => uptoBulk d + 1
  | .slice elems spare => uptoBulkAll elems + uptoBulkAll spare + 1
  | .agg parts => uptoBulkAll parts + 1
  | .iface _ d => uptoBulk d + 1
  | .map entries => uptoBulkEntries entries + 1
  | .held _ => 1
def uptoBulkAll {H : Type} : List (DataW H) → Nat
  | [] => 0
  | d :: r => uptoBulk d + uptoBulkAll r
def uptoBulkEntries {H : Type} : List (Lit × DataW H) → Nat
  | [] => 0
  | x :: r => uptoBulkEntry x + uptoBulkEntries r
def uptoBulkEntry {H : Type} : Lit × DataW H → Nat
  | (.string bytes, d) => bytes.length + uptoBulk d + 1
  | (_, d) => uptoBulk d + 1
 end
def uptoSmall : (H : Type) → List (DataW H) → Bool := fun _ ds => decide (uptoBulkAll ds ≤ 1048576)
def OpenSpec.upto (s : _root_.Go.ChangeSpec) : _root_.Go.OpenSpec := { _root_.Go.OpenSpec.ofChange s with cond := some uptoSmall }

/-- 'laws.FnExactSumNumbers', WHERE WHAT IT READS IS OF BULK AT MOST 1048576: true; the input reads as it did. -/
def fnExactSumNumbersUptoRow : OpenClaim := { program := "ytejchjjkehmgaaa", sum := "25326ca7544799369b4ae0fb240e1761fb57b3b24d9ee4c1509f84b12febb049", func := "loop.example/g01381/laws.FnExactSumNumbers", spec := "fnExactSumNumbers", apart := false, narrowed := true }
def FnExactSumNumbersUptoSaid : Prop := fnExactSumNumbersUptoRow.holds Try.pinned (OpenSpec.upto fnExactSumNumbersSpec)

/-- 'laws.FnExactDotNumbers', WHERE WHAT IT READS IS OF BULK AT MOST 1048576: true; the input reads as it did. -/
def fnExactDotNumbersUptoRow : OpenClaim := { program := "ytejchjjkehmgaaa", sum := "25326ca7544799369b4ae0fb240e1761fb57b3b24d9ee4c1509f84b12febb049", func := "loop.example/g01381/laws.FnExactDotNumbers", spec := "fnExactDotNumbers", apart := false, narrowed := true }
def FnExactDotNumbersUptoSaid : Prop := fnExactDotNumbersUptoRow.holds Try.pinned (OpenSpec.upto fnExactDotNumbersSpec)

/-- 'laws.FnExactMassOf', WHERE WHAT IT READS IS OF BULK AT MOST 1048576: true; the input reads as it did. -/
def fnExactMassOfUptoRow : OpenClaim := { program := "ytejchjjkehmgaaa", sum := "25326ca7544799369b4ae0fb240e1761fb57b3b24d9ee4c1509f84b12febb049", func := "loop.example/g01381/laws.FnExactMassOf", spec := "fnExactMassOf", inPlace := ["math.Float64bits", "math.Float64frombits"], unfollowed := true, recurses := true, apart := false, narrowed := true }
def FnExactMassOfUptoSaid : Prop := fnExactMassOfUptoRow.holds Try.pinned (OpenSpec.upto fnExactMassOfSpec)

/-- 'laws.FnExactValidFlow', WHERE WHAT IT READS IS OF BULK AT MOST 1048576: true; the input reads as it did. -/
def fnExactValidFlowUptoRow : OpenClaim := { program := "ytejchjjkehmgaaa", sum := "25326ca7544799369b4ae0fb240e1761fb57b3b24d9ee4c1509f84b12febb049", func := "loop.example/g01381/laws.FnExactValidFlow", spec := "fnExactValidFlow", inPlace := ["math.Float64bits", "math.Float64frombits"], unfollowed := true, recurses := true, apart := false, narrowed := true }
def FnExactValidFlowUptoSaid : Prop := fnExactValidFlowUptoRow.holds Try.pinned (OpenSpec.upto fnExactValidFlowSpec)

/-- 'laws.FnExactSameFlow', WHERE WHAT IT READS IS OF BULK AT MOST 1048576: true; the input reads as it did. -/
def fnExactSameFlowUptoRow : OpenClaim := { program := "ytejchjjkehmgaaa", sum := "25326ca7544799369b4ae0fb240e1761fb57b3b24d9ee4c1509f84b12febb049", func := "loop.example/g01381/laws.FnExactSameFlow", spec := "fnExactSameFlow", inPlace := ["math.Float32bits"], unfollowed := true, recurses := true, apart := false, narrowed := true }
def FnExactSameFlowUptoSaid : Prop := fnExactSameFlowUptoRow.holds Try.pinned (OpenSpec.upto fnExactSameFlowSpec)

/-- 'laws.FnExactRowsOfRing', WHERE WHAT IT READS IS OF BULK AT MOST 1048576: true; the input reads as it did. -/
def fnExactRowsOfRingUptoRow : OpenClaim := { program := "ytejchjjkehmgaaa", sum := "25326ca7544799369b4ae0fb240e1761fb57b3b24d9ee4c1509f84b12febb049", func := "loop.example/g01381/laws.FnExactRowsOfRing", spec := "fnExactRowsOfRing", unfollowed := true, recurses := true, apart := false, narrowed := true }
def FnExactRowsOfRingUptoSaid : Prop := fnExactRowsOfRingUptoRow.holds Try.pinned (OpenSpec.upto fnExactRowsOfRingSpec)

/-- 'laws.FnExactActiveShare', WHERE WHAT IT READS IS OF BULK AT MOST 1048576: true; the input reads as it did. -/
def fnExactActiveShareUptoRow : OpenClaim := { program := "ytejchjjkehmgaaa", sum := "25326ca7544799369b4ae0fb240e1761fb57b3b24d9ee4c1509f84b12febb049", func := "loop.example/g01381/laws.FnExactActiveShare", spec := "fnExactActiveShare", unfollowed := true, recurses := true, apart := false, narrowed := true }
def FnExactActiveShareUptoSaid : Prop := fnExactActiveShareUptoRow.holds Try.pinned (OpenSpec.upto fnExactActiveShareSpec)

/-- 'laws.FnExactLeastReach', WHERE WHAT IT READS IS OF BULK AT MOST 1048576: true; the input reads as it did. -/
def fnExactLeastReachUptoRow : OpenClaim := { program := "ytejchjjkehmgaaa", sum := "25326ca7544799369b4ae0fb240e1761fb57b3b24d9ee4c1509f84b12febb049", func := "loop.example/g01381/laws.FnExactLeastReach", spec := "fnExactLeastReach", unfollowed := true, recurses := true, apart := false, narrowed := true }
def FnExactLeastReachUptoSaid : Prop := fnExactLeastReachUptoRow.holds Try.pinned (OpenSpec.upto fnExactLeastReachSpec)

/-- 'laws.FnExactLearnTable', WHERE WHAT IT READS IS OF BULK AT MOST 1048576: true; the input reads as it did. -/
def fnExactLearnTableUptoRow : OpenClaim := { program := "ytejchjjkehmgaaa", sum := "25326ca7544799369b4ae0fb240e1761fb57b3b24d9ee4c1509f84b12febb049", func := "loop.example/g01381/laws.FnExactLearnTable", spec := "fnExactLearnTable", unfollowed := true, recurses := true, apart := false, narrowed := true }
def FnExactLearnTableUptoSaid : Prop := fnExactLearnTableUptoRow.holds Try.pinned (OpenSpec.upto fnExactLearnTableSpec)

/-- 'laws.FnExactCountBack', WHERE WHAT IT READS IS OF BULK AT MOST 1048576: true; the input reads as it did. -/
def fnExactCountBackUptoRow : OpenClaim := { program := "ytejchjjkehmgaaa", sum := "25326ca7544799369b4ae0fb240e1761fb57b3b24d9ee4c1509f84b12febb049", func := "loop.example/g01381/laws.FnExactCountBack", spec := "fnExactCountBack", unfollowed := true, recurses := true, apart := false, narrowed := true }
def FnExactCountBackUptoSaid : Prop := fnExactCountBackUptoRow.holds Try.pinned (OpenSpec.upto fnExactCountBackSpec)

/-- 'laws.FnExactSameSaved', WHERE WHAT IT READS IS OF BULK AT MOST 1048576: true; the input reads as it did. -/
def fnExactSameSavedUptoRow : OpenClaim := { program := "ytejchjjkehmgaaa", sum := "25326ca7544799369b4ae0fb240e1761fb57b3b24d9ee4c1509f84b12febb049", func := "loop.example/g01381/laws.FnExactSameSaved", spec := "fnExactSameSaved", unfollowed := true, recurses := true, apart := false, narrowed := true }
def FnExactSameSavedUptoSaid : Prop := fnExactSameSavedUptoRow.holds Try.pinned (OpenSpec.upto fnExactSameSavedSpec)

/-- 'laws.FnExactJoinRules', WHERE WHAT IT READS IS OF BULK AT MOST 1048576: true; the input reads as it did. -/
def fnExactJoinRulesUptoRow : OpenClaim := { program := "ytejchjjkehmgaaa", sum := "25326ca7544799369b4ae0fb240e1761fb57b3b24d9ee4c1509f84b12febb049", func := "loop.example/g01381/laws.FnExactJoinRules", spec := "fnExactJoinRules", unfollowed := true, recurses := true, apart := false, narrowed := true }
def FnExactJoinRulesUptoSaid : Prop := fnExactJoinRulesUptoRow.holds Try.pinned (OpenSpec.upto fnExactJoinRulesSpec)

end Rows
end Go.Proofs.Ytejchjjkehmgaaa
