/-
  No cell of these rows narrows 'for every input' (looked for: loops, veiled, ifaces, maps, wideKeys, modest, calm, conditions, laid).
  DERIVED. THE GIVEN ROWS OF THIS SEAT. 15 by the template 'for every input the law returns true; each argument reads behind the call as it read before'; 0 by the template 'total and deterministic' (their statements: YtiijabiijkdhcaaTotals.lean).
  GIVEN WITH THE SEED: the statements are not yours to turn. If you find one false, say at which input.
  Laid BY PROGRAM, IN A SANDBOX (cutbox-rows.mjs): the forced cells as the released guide's own fill.sh prints them over the translation 6daee196d05c3b2b… (all of the seat's roots in one cut). By AI agents, Wed Nov 11 2026. No macro, syntax, notation, axiom, sorry.
-/
import Derived.Test.YtiijabiijkdhcaaChecked
import GoSem.Claim
import GoSem.ClaimJoined
import GoSem.ClaimMapViews
import Derived.JoinedTies
import Derived.KernelRfl
namespace Go.Proofs.Ytiijabiijkdhcaa
/- THE CELL 'sum', in the pinned program and in every row, IS THE sha256 OF THE DUMP (.gsa) THAT YtiijabiijkdhcaaProg.lean LOADS. Nothing in Lean hashes anything: it is a label: what it is worth is what the hold of that sum in a sandbox is worth. -/
noncomputable def Try.pinned : Pinned := { name := "ytiijabiijkdhcaa", sum := "6daee196d05c3b2b4efbeb212e9166cf450e1cb384f8e6391884edd9c337f2b6", checked := Try.checked }
namespace Rows
def none {H : Type} : Left H := { results := [], args := [] }

/-- 'laws.FnExactRuleOfNumber': WHATEVER THE INPUT: true; the input reads as it did. -/
def fnExactRuleOfNumberSpec : ChangeSpec := { name := "fnExactRuleOfNumber", fn := fun _ => fun
  | [d] => { results := [.lit (.bool true)], args := [d] }
  | _ => none }
def fnExactRuleOfNumberRow : OpenClaim := { program := "ytiijabiijkdhcaa", sum := "6daee196d05c3b2b4efbeb212e9166cf450e1cb384f8e6391884edd9c337f2b6", func := "loop.example/g01381/laws.FnExactRuleOfNumber", spec := "fnExactRuleOfNumber", unfollowed := true, recurses := true, apart := false }
def FnExactRuleOfNumberSaid : Prop := fnExactRuleOfNumberRow.holds Try.pinned (OpenSpec.ofChange fnExactRuleOfNumberSpec)

/-- ITS FALSE NEIGHBOUR: 'it returns false'. Refute it at one input. -/
def fnExactRuleOfNumberWrong : ChangeSpec := { name := "fnExactRuleOfNumber", fn := fun _ => fun
  | [d] => { results := [.lit (.bool false)], args := [d] }
  | _ => none }
def FnExactRuleOfNumberWrongFalsely : Prop := fnExactRuleOfNumberRow.holds Try.pinned (OpenSpec.ofChange fnExactRuleOfNumberWrong)

/-- 'laws.FnExactTotalRule': WHATEVER THE INPUT: true; the input reads as it did. -/
def fnExactTotalRuleSpec : ChangeSpec := { name := "fnExactTotalRule", fn := fun _ => fun
  | [d1, d2, d3] => { results := [.lit (.bool true)], args := [d1, d2, d3] }
  | _ => none }
def fnExactTotalRuleRow : OpenClaim := { program := "ytiijabiijkdhcaa", sum := "6daee196d05c3b2b4efbeb212e9166cf450e1cb384f8e6391884edd9c337f2b6", func := "loop.example/g01381/laws.FnExactTotalRule", spec := "fnExactTotalRule", unfollowed := true, recurses := true, apart := false }
def FnExactTotalRuleSaid : Prop := fnExactTotalRuleRow.holds Try.pinned (OpenSpec.ofChange fnExactTotalRuleSpec)

/-- ITS FALSE NEIGHBOUR: 'it returns false'. Refute it at one input. -/
def fnExactTotalRuleWrong : ChangeSpec := { name := "fnExactTotalRule", fn := fun _ => fun
  | [d1, d2, d3] => { results := [.lit (.bool false)], args := [d1, d2, d3] }
  | _ => none }
def FnExactTotalRuleWrongFalsely : Prop := fnExactTotalRuleRow.holds Try.pinned (OpenSpec.ofChange fnExactTotalRuleWrong)

/-- 'laws.FnExactSumRule': WHATEVER THE INPUT: true; the input reads as it did. -/
def fnExactSumRuleSpec : ChangeSpec := { name := "fnExactSumRule", fn := fun _ => fun
  | [d1, d2] => { results := [.lit (.bool true)], args := [d1, d2] }
  | _ => none }
def fnExactSumRuleRow : OpenClaim := { program := "ytiijabiijkdhcaa", sum := "6daee196d05c3b2b4efbeb212e9166cf450e1cb384f8e6391884edd9c337f2b6", func := "loop.example/g01381/laws.FnExactSumRule", spec := "fnExactSumRule", unfollowed := true, recurses := true, apart := false }
def FnExactSumRuleSaid : Prop := fnExactSumRuleRow.holds Try.pinned (OpenSpec.ofChange fnExactSumRuleSpec)

/-- ITS FALSE NEIGHBOUR: 'it returns false'. Refute it at one input. -/
def fnExactSumRuleWrong : ChangeSpec := { name := "fnExactSumRule", fn := fun _ => fun
  | [d1, d2] => { results := [.lit (.bool false)], args := [d1, d2] }
  | _ => none }
def FnExactSumRuleWrongFalsely : Prop := fnExactSumRuleRow.holds Try.pinned (OpenSpec.ofChange fnExactSumRuleWrong)

/-- 'laws.FnExactMirrorRule': WHATEVER THE INPUT: true; the input reads as it did. -/
def fnExactMirrorRuleSpec : ChangeSpec := { name := "fnExactMirrorRule", fn := fun _ => fun
  | [d] => { results := [.lit (.bool true)], args := [d] }
  | _ => none }
def fnExactMirrorRuleRow : OpenClaim := { program := "ytiijabiijkdhcaa", sum := "6daee196d05c3b2b4efbeb212e9166cf450e1cb384f8e6391884edd9c337f2b6", func := "loop.example/g01381/laws.FnExactMirrorRule", spec := "fnExactMirrorRule", unfollowed := true, recurses := true, apart := false }
def FnExactMirrorRuleSaid : Prop := fnExactMirrorRuleRow.holds Try.pinned (OpenSpec.ofChange fnExactMirrorRuleSpec)

/-- ITS FALSE NEIGHBOUR: 'it returns false'. Refute it at one input. -/
def fnExactMirrorRuleWrong : ChangeSpec := { name := "fnExactMirrorRule", fn := fun _ => fun
  | [d] => { results := [.lit (.bool false)], args := [d] }
  | _ => none }
def FnExactMirrorRuleWrongFalsely : Prop := fnExactMirrorRuleRow.holds Try.pinned (OpenSpec.ofChange fnExactMirrorRuleWrong)

/-- 'laws.FnExactOppositeRule': WHATEVER THE INPUT: true; the input reads as it did. -/
def fnExactOppositeRuleSpec : ChangeSpec := { name := "fnExactOppositeRule", fn := fun _ => fun
  | [d] => { results := [.lit (.bool true)], args := [d] }
  | _ => none }
def fnExactOppositeRuleRow : OpenClaim := { program := "ytiijabiijkdhcaa", sum := "6daee196d05c3b2b4efbeb212e9166cf450e1cb384f8e6391884edd9c337f2b6", func := "loop.example/g01381/laws.FnExactOppositeRule", spec := "fnExactOppositeRule", unfollowed := true, recurses := true, apart := false }
def FnExactOppositeRuleSaid : Prop := fnExactOppositeRuleRow.holds Try.pinned (OpenSpec.ofChange fnExactOppositeRuleSpec)

/-- ITS FALSE NEIGHBOUR: 'it returns false'. Refute it at one input. -/
def fnExactOppositeRuleWrong : ChangeSpec := { name := "fnExactOppositeRule", fn := fun _ => fun
  | [d] => { results := [.lit (.bool false)], args := [d] }
  | _ => none }
def FnExactOppositeRuleWrongFalsely : Prop := fnExactOppositeRuleRow.holds Try.pinned (OpenSpec.ofChange fnExactOppositeRuleWrong)

/-- 'laws.FnExactWiderRule': WHATEVER THE INPUT: true; the input reads as it did. -/
def fnExactWiderRuleSpec : ChangeSpec := { name := "fnExactWiderRule", fn := fun _ => fun
  | [d] => { results := [.lit (.bool true)], args := [d] }
  | _ => none }
def fnExactWiderRuleRow : OpenClaim := { program := "ytiijabiijkdhcaa", sum := "6daee196d05c3b2b4efbeb212e9166cf450e1cb384f8e6391884edd9c337f2b6", func := "loop.example/g01381/laws.FnExactWiderRule", spec := "fnExactWiderRule", unfollowed := true, recurses := true, apart := false }
def FnExactWiderRuleSaid : Prop := fnExactWiderRuleRow.holds Try.pinned (OpenSpec.ofChange fnExactWiderRuleSpec)

/-- ITS FALSE NEIGHBOUR: 'it returns false'. Refute it at one input. -/
def fnExactWiderRuleWrong : ChangeSpec := { name := "fnExactWiderRule", fn := fun _ => fun
  | [d] => { results := [.lit (.bool false)], args := [d] }
  | _ => none }
def FnExactWiderRuleWrongFalsely : Prop := fnExactWiderRuleRow.holds Try.pinned (OpenSpec.ofChange fnExactWiderRuleWrong)

/-- 'laws.FnExactJoinRules': WHATEVER THE INPUT: true; the input reads as it did. -/
def fnExactJoinRulesSpec : ChangeSpec := { name := "fnExactJoinRules", fn := fun _ => fun
  | [d1, d2] => { results := [.lit (.bool true)], args := [d1, d2] }
  | _ => none }
def fnExactJoinRulesRow : OpenClaim := { program := "ytiijabiijkdhcaa", sum := "6daee196d05c3b2b4efbeb212e9166cf450e1cb384f8e6391884edd9c337f2b6", func := "loop.example/g01381/laws.FnExactJoinRules", spec := "fnExactJoinRules", unfollowed := true, recurses := true, apart := false }
def FnExactJoinRulesSaid : Prop := fnExactJoinRulesRow.holds Try.pinned (OpenSpec.ofChange fnExactJoinRulesSpec)

/-- ITS FALSE NEIGHBOUR: 'it returns false'. Refute it at one input. -/
def fnExactJoinRulesWrong : ChangeSpec := { name := "fnExactJoinRules", fn := fun _ => fun
  | [d1, d2] => { results := [.lit (.bool false)], args := [d1, d2] }
  | _ => none }
def FnExactJoinRulesWrongFalsely : Prop := fnExactJoinRulesRow.holds Try.pinned (OpenSpec.ofChange fnExactJoinRulesWrong)

/-- 'laws.FnExactIsTotal': WHATEVER THE INPUT: true; the input reads as it did. -/
def fnExactIsTotalSpec : ChangeSpec := { name := "fnExactIsTotal", fn := fun _ => fun
  | [d] => { results := [.lit (.bool true)], args := [d] }
  | _ => none }
def fnExactIsTotalRow : OpenClaim := { program := "ytiijabiijkdhcaa", sum := "6daee196d05c3b2b4efbeb212e9166cf450e1cb384f8e6391884edd9c337f2b6", func := "loop.example/g01381/laws.FnExactIsTotal", spec := "fnExactIsTotal", unfollowed := true, recurses := true, apart := false }
def FnExactIsTotalSaid : Prop := fnExactIsTotalRow.holds Try.pinned (OpenSpec.ofChange fnExactIsTotalSpec)

/-- ITS FALSE NEIGHBOUR: 'it returns false'. Refute it at one input. -/
def fnExactIsTotalWrong : ChangeSpec := { name := "fnExactIsTotal", fn := fun _ => fun
  | [d] => { results := [.lit (.bool false)], args := [d] }
  | _ => none }
def FnExactIsTotalWrongFalsely : Prop := fnExactIsTotalRow.holds Try.pinned (OpenSpec.ofChange fnExactIsTotalWrong)

/-- 'laws.FnExactIsSumRule': WHATEVER THE INPUT: true; the input reads as it did. -/
def fnExactIsSumRuleSpec : ChangeSpec := { name := "fnExactIsSumRule", fn := fun _ => fun
  | [d] => { results := [.lit (.bool true)], args := [d] }
  | _ => none }
def fnExactIsSumRuleRow : OpenClaim := { program := "ytiijabiijkdhcaa", sum := "6daee196d05c3b2b4efbeb212e9166cf450e1cb384f8e6391884edd9c337f2b6", func := "loop.example/g01381/laws.FnExactIsSumRule", spec := "fnExactIsSumRule", unfollowed := true, recurses := true, apart := false }
def FnExactIsSumRuleSaid : Prop := fnExactIsSumRuleRow.holds Try.pinned (OpenSpec.ofChange fnExactIsSumRuleSpec)

/-- ITS FALSE NEIGHBOUR: 'it returns false'. Refute it at one input. -/
def fnExactIsSumRuleWrong : ChangeSpec := { name := "fnExactIsSumRule", fn := fun _ => fun
  | [d] => { results := [.lit (.bool false)], args := [d] }
  | _ => none }
def FnExactIsSumRuleWrongFalsely : Prop := fnExactIsSumRuleRow.holds Try.pinned (OpenSpec.ofChange fnExactIsSumRuleWrong)

/-- 'laws.FnExactIsAdding': WHATEVER THE INPUT: true; the input reads as it did. -/
def fnExactIsAddingSpec : ChangeSpec := { name := "fnExactIsAdding", fn := fun _ => fun
  | [d] => { results := [.lit (.bool true)], args := [d] }
  | _ => none }
def fnExactIsAddingRow : OpenClaim := { program := "ytiijabiijkdhcaa", sum := "6daee196d05c3b2b4efbeb212e9166cf450e1cb384f8e6391884edd9c337f2b6", func := "loop.example/g01381/laws.FnExactIsAdding", spec := "fnExactIsAdding", unfollowed := true, recurses := true, apart := false }
def FnExactIsAddingSaid : Prop := fnExactIsAddingRow.holds Try.pinned (OpenSpec.ofChange fnExactIsAddingSpec)

/-- ITS FALSE NEIGHBOUR: 'it returns false'. Refute it at one input. -/
def fnExactIsAddingWrong : ChangeSpec := { name := "fnExactIsAdding", fn := fun _ => fun
  | [d] => { results := [.lit (.bool false)], args := [d] }
  | _ => none }
def FnExactIsAddingWrongFalsely : Prop := fnExactIsAddingRow.holds Try.pinned (OpenSpec.ofChange fnExactIsAddingWrong)

/-- 'laws.FnExactAddingTerms': WHATEVER THE INPUT: true; the input reads as it did. -/
def fnExactAddingTermsSpec : ChangeSpec := { name := "fnExactAddingTerms", fn := fun _ => fun
  | [d] => { results := [.lit (.bool true)], args := [d] }
  | _ => none }
def fnExactAddingTermsRow : OpenClaim := { program := "ytiijabiijkdhcaa", sum := "6daee196d05c3b2b4efbeb212e9166cf450e1cb384f8e6391884edd9c337f2b6", func := "loop.example/g01381/laws.FnExactAddingTerms", spec := "fnExactAddingTerms", unfollowed := true, recurses := true, apart := false }
def FnExactAddingTermsSaid : Prop := fnExactAddingTermsRow.holds Try.pinned (OpenSpec.ofChange fnExactAddingTermsSpec)

/-- ITS FALSE NEIGHBOUR: 'it returns false'. Refute it at one input. -/
def fnExactAddingTermsWrong : ChangeSpec := { name := "fnExactAddingTerms", fn := fun _ => fun
  | [d] => { results := [.lit (.bool false)], args := [d] }
  | _ => none }
def FnExactAddingTermsWrongFalsely : Prop := fnExactAddingTermsRow.holds Try.pinned (OpenSpec.ofChange fnExactAddingTermsWrong)

/-- 'laws.FnExactFarAhead': WHATEVER THE INPUT: true; the input reads as it did. -/
def fnExactFarAheadSpec : ChangeSpec := { name := "fnExactFarAhead", fn := fun _ => fun
  | [d1, d2, d3] => { results := [.lit (.bool true)], args := [d1, d2, d3] }
  | _ => none }
def fnExactFarAheadRow : OpenClaim := { program := "ytiijabiijkdhcaa", sum := "6daee196d05c3b2b4efbeb212e9166cf450e1cb384f8e6391884edd9c337f2b6", func := "loop.example/g01381/laws.FnExactFarAhead", spec := "fnExactFarAhead", unfollowed := true, recurses := true, apart := false }
def FnExactFarAheadSaid : Prop := fnExactFarAheadRow.holds Try.pinned (OpenSpec.ofChange fnExactFarAheadSpec)

/-- ITS FALSE NEIGHBOUR: 'it returns false'. Refute it at one input. -/
def fnExactFarAheadWrong : ChangeSpec := { name := "fnExactFarAhead", fn := fun _ => fun
  | [d1, d2, d3] => { results := [.lit (.bool false)], args := [d1, d2, d3] }
  | _ => none }
def FnExactFarAheadWrongFalsely : Prop := fnExactFarAheadRow.holds Try.pinned (OpenSpec.ofChange fnExactFarAheadWrong)

/-- 'laws.FnExactIsEvenRule': WHATEVER THE INPUT: true; the input reads as it did. -/
def fnExactIsEvenRuleSpec : ChangeSpec := { name := "fnExactIsEvenRule", fn := fun _ => fun
  | [d] => { results := [.lit (.bool true)], args := [d] }
  | _ => none }
def fnExactIsEvenRuleRow : OpenClaim := { program := "ytiijabiijkdhcaa", sum := "6daee196d05c3b2b4efbeb212e9166cf450e1cb384f8e6391884edd9c337f2b6", func := "loop.example/g01381/laws.FnExactIsEvenRule", spec := "fnExactIsEvenRule", unfollowed := true, recurses := true, apart := false }
def FnExactIsEvenRuleSaid : Prop := fnExactIsEvenRuleRow.holds Try.pinned (OpenSpec.ofChange fnExactIsEvenRuleSpec)

/-- ITS FALSE NEIGHBOUR: 'it returns false'. Refute it at one input. -/
def fnExactIsEvenRuleWrong : ChangeSpec := { name := "fnExactIsEvenRule", fn := fun _ => fun
  | [d] => { results := [.lit (.bool false)], args := [d] }
  | _ => none }
def FnExactIsEvenRuleWrongFalsely : Prop := fnExactIsEvenRuleRow.holds Try.pinned (OpenSpec.ofChange fnExactIsEvenRuleWrong)

/-- 'laws.FnExactKeepsSum': WHATEVER THE INPUT: true; the input reads as it did. -/
def fnExactKeepsSumSpec : ChangeSpec := { name := "fnExactKeepsSum", fn := fun _ => fun
  | [d] => { results := [.lit (.bool true)], args := [d] }
  | _ => none }
def fnExactKeepsSumRow : OpenClaim := { program := "ytiijabiijkdhcaa", sum := "6daee196d05c3b2b4efbeb212e9166cf450e1cb384f8e6391884edd9c337f2b6", func := "loop.example/g01381/laws.FnExactKeepsSum", spec := "fnExactKeepsSum", unfollowed := true, recurses := true, apart := false }
def FnExactKeepsSumSaid : Prop := fnExactKeepsSumRow.holds Try.pinned (OpenSpec.ofChange fnExactKeepsSumSpec)

/-- ITS FALSE NEIGHBOUR: 'it returns false'. Refute it at one input. -/
def fnExactKeepsSumWrong : ChangeSpec := { name := "fnExactKeepsSum", fn := fun _ => fun
  | [d] => { results := [.lit (.bool false)], args := [d] }
  | _ => none }
def FnExactKeepsSumWrongFalsely : Prop := fnExactKeepsSumRow.holds Try.pinned (OpenSpec.ofChange fnExactKeepsSumWrong)

/-- 'laws.FnExactFlowOf': WHATEVER THE INPUT: true; the input reads as it did. -/
def fnExactFlowOfSpec : ChangeSpec := { name := "fnExactFlowOf", fn := fun _ => fun
  | [d] => { results := [.lit (.bool true)], args := [d] }
  | _ => none }
def fnExactFlowOfRow : OpenClaim := { program := "ytiijabiijkdhcaa", sum := "6daee196d05c3b2b4efbeb212e9166cf450e1cb384f8e6391884edd9c337f2b6", func := "loop.example/g01381/laws.FnExactFlowOf", spec := "fnExactFlowOf", unfollowed := true, recurses := true, apart := false }
def FnExactFlowOfSaid : Prop := fnExactFlowOfRow.holds Try.pinned (OpenSpec.ofChange fnExactFlowOfSpec)

/-- ITS FALSE NEIGHBOUR: 'it returns false'. Refute it at one input. -/
def fnExactFlowOfWrong : ChangeSpec := { name := "fnExactFlowOf", fn := fun _ => fun
  | [d] => { results := [.lit (.bool false)], args := [d] }
  | _ => none }
def FnExactFlowOfWrongFalsely : Prop := fnExactFlowOfRow.holds Try.pinned (OpenSpec.ofChange fnExactFlowOfWrong)

/- THE SECOND FORM. 'bulk': how many values and letters a reading holds, each counted each time it is reached (what is shared counts as often as it is met; a slice's spare places count too). A statement '..UptoSaid' is the law's where the arguments, and the package variables that the reading takes, are together of bulk at most 1048576: NARROWER than '..Said'. Prove '..Said' where nothing that the law and all that it calls make is longer than what came in: it says more and counts as full. Else prove '..UptoSaid'. A law counts once. -/
mutual
def uptoBulk {H : Type} : DataW H → Nat
  | .lit (.string bytes) => bytes.length + 1
  | .lit _ => 1
  | .nil => 1
  | .ptr d => uptoBulk d + 1
  | .slice elems spare => uptoBulkAll elems + uptoBulkAll spare + 1
  | .agg parts => uptoBulkAll parts + 1
  | .iface _ d => uptoBulk d + 1
  | .map entries => uptoBulkEntries entries + 1
  | .held _ => 1
def uptoBulkAll {H : Type} : List (DataW H) → Nat
  | [] => 0
  | d :: r => uptoBulk d + uptoBulkAll r
def uptoBulkEntries {H : Type} : List (Lit × DataW H) → Nat
  | [] => 0
  | x :: r => uptoBulkEntry x + uptoBulkEntries r
def uptoBulkEntry {H : Type} : Lit × DataW H → Nat
  | (.string bytes, d) => bytes.length + uptoBulk d + 1
  | (_, d) => uptoBulk d + 1
 end
def uptoSmall : (H : Type) → List (DataW H) → Bool := fun _ ds => decide (uptoBulkAll ds ≤ 1048576)
def OpenSpec.upto (s : _root_.Go.ChangeSpec) : _root_.Go.OpenSpec := { _root_.Go.OpenSpec.ofChange s with cond := some uptoSmall }

/-- 'laws.FnExactRuleOfNumber', WHERE WHAT IT READS IS OF BULK AT MOST 1048576: true; the input reads as it did. -/
def fnExactRuleOfNumberUptoRow : OpenClaim := { program := "ytiijabiijkdhcaa", sum := "6daee196d05c3b2b4efbeb212e9166cf450e1cb384f8e6391884edd9c337f2b6", func := "loop.example/g01381/laws.FnExactRuleOfNumber", spec := "fnExactRuleOfNumber", unfollowed := true, recurses := true, apart := false, narrowed := true }
def FnExactRuleOfNumberUptoSaid : Prop := fnExactRuleOfNumberUptoRow.holds Try.pinned (OpenSpec.upto fnExactRuleOfNumberSpec)

/-- 'laws.FnExactTotalRule', WHERE WHAT IT READS IS OF BULK AT MOST 1048576: true; the input reads as it did. -/
def fnExactTotalRuleUptoRow : OpenClaim := { program := "ytiijabiijkdhcaa", sum := "6daee196d05c3b2b4efbeb212e9166cf450e1cb384f8e6391884edd9c337f2b6", func := "loop.example/g01381/laws.FnExactTotalRule", spec := "fnExactTotalRule", unfollowed := true, recurses := true, apart := false, narrowed := true }
def FnExactTotalRuleUptoSaid : Prop := fnExactTotalRuleUptoRow.holds Try.pinned (OpenSpec.upto fnExactTotalRuleSpec)

/-- 'laws.FnExactSumRule', WHERE WHAT IT READS IS OF BULK AT MOST 1048576: true; the input reads as it did. -/
def fnExactSumRuleUptoRow : OpenClaim := { program := "ytiijabiijkdhcaa", sum := "6daee196d05c3b2b4efbeb212e9166cf450e1cb384f8e6391884edd9c337f2b6", func := "loop.example/g01381/laws.FnExactSumRule", spec := "fnExactSumRule", unfollowed := true, recurses := true, apart := false, narrowed := true }
def FnExactSumRuleUptoSaid : Prop := fnExactSumRuleUptoRow.holds Try.pinned (OpenSpec.upto fnExactSumRuleSpec)

/-- 'laws.FnExactMirrorRule', WHERE WHAT IT READS IS OF BULK AT MOST 1048576: true; the input reads as it did. -/
def fnExactMirrorRuleUptoRow : OpenClaim := { program := "ytiijabiijkdhcaa", sum := "6daee196d05c3b2b4efbeb212e9166cf450e1cb384f8e6391884edd9c337f2b6", func := "loop.example/g01381/laws.FnExactMirrorRule", spec := "fnExactMirrorRule", unfollowed := true, recurses := true, apart := false, narrowed := true }
def FnExactMirrorRuleUptoSaid : Prop := fnExactMirrorRuleUptoRow.holds Try.pinned (OpenSpec.upto fnExactMirrorRuleSpec)

/-- 'laws.FnExactOppositeRule', WHERE WHAT IT READS IS OF BULK AT MOST 1048576: true; the input reads as it did. -/
def fnExactOppositeRuleUptoRow : OpenClaim := { program := "ytiijabiijkdhcaa", sum := "6daee196d05c3b2b4efbeb212e9166cf450e1cb384f8e6391884edd9c337f2b6", func := "loop.example/g01381/laws.FnExactOppositeRule", spec := "fnExactOppositeRule", unfollowed := true, recurses := true, apart := false, narrowed := true }
def FnExactOppositeRuleUptoSaid : Prop := fnExactOppositeRuleUptoRow.holds Try.pinned (OpenSpec.upto fnExactOppositeRuleSpec)

/-- 'laws.FnExactWiderRule', WHERE WHAT IT READS IS OF BULK AT MOST 1048576: true; the input reads as it did. -/
def fnExactWiderRuleUptoRow : OpenClaim := { program := "ytiijabiijkdhcaa", sum := "6daee196d05c3b2b4efbeb212e9166cf450e1cb384f8e6391884edd9c337f2b6", func := "loop.example/g01381/laws.FnExactWiderRule", spec := "fnExactWiderRule", unfollowed := true, recurses := true, apart := false, narrowed := true }
def FnExactWiderRuleUptoSaid : Prop := fnExactWiderRuleUptoRow.holds Try.pinned (OpenSpec.upto fnExactWiderRuleSpec)

/-- 'laws.FnExactJoinRules', WHERE WHAT IT READS IS OF BULK AT MOST 1048576: true; the input reads as it did. -/
def fnExactJoinRulesUptoRow : OpenClaim := { program := "ytiijabiijkdhcaa", sum := "6daee196d05c3b2b4efbeb212e9166cf450e1cb384f8e6391884edd9c337f2b6", func := "loop.example/g01381/laws.FnExactJoinRules", spec := "fnExactJoinRules", unfollowed := true, recurses := true, apart := false, narrowed := true }
def FnExactJoinRulesUptoSaid : Prop := fnExactJoinRulesUptoRow.holds Try.pinned (OpenSpec.upto fnExactJoinRulesSpec)

/-- 'laws.FnExactIsTotal', WHERE WHAT IT READS IS OF BULK AT MOST 1048576: true; the input reads as it did. -/
def fnExactIsTotalUptoRow : OpenClaim := { program := "ytiijabiijkdhcaa", sum := "6daee196d05c3b2b4efbeb212e9166cf450e1cb384f8e6391884edd9c337f2b6", func := "loop.example/g01381/laws.FnExactIsTotal", spec := "fnExactIsTotal", unfollowed := true, recurses := true, apart := false, narrowed := true }
def FnExactIsTotalUptoSaid : Prop := fnExactIsTotalUptoRow.holds Try.pinned (OpenSpec.upto fnExactIsTotalSpec)

/-- 'laws.FnExactIsSumRule', WHERE WHAT IT READS IS OF BULK AT MOST 1048576: true; the input reads as it did. -/
def fnExactIsSumRuleUptoRow : OpenClaim := { program := "ytiijabiijkdhcaa", sum := "6daee196d05c3b2b4efbeb212e9166cf450e1cb384f8e6391884edd9c337f2b6", func := "loop.example/g01381/laws.FnExactIsSumRule", spec := "fnExactIsSumRule", unfollowed := true, recurses := true, apart := false, narrowed := true }
def FnExactIsSumRuleUptoSaid : Prop := fnExactIsSumRuleUptoRow.holds Try.pinned (OpenSpec.upto fnExactIsSumRuleSpec)

/-- 'laws.FnExactIsAdding', WHERE WHAT IT READS IS OF BULK AT MOST 1048576: true; the input reads as it did. -/
def fnExactIsAddingUptoRow : OpenClaim := { program := "ytiijabiijkdhcaa", sum := "6daee196d05c3b2b4efbeb212e9166cf450e1cb384f8e6391884edd9c337f2b6", func := "loop.example/g01381/laws.FnExactIsAdding", spec := "fnExactIsAdding", unfollowed := true, recurses := true, apart := false, narrowed := true }
def FnExactIsAddingUptoSaid : Prop := fnExactIsAddingUptoRow.holds Try.pinned (OpenSpec.upto fnExactIsAddingSpec)

/-- 'laws.FnExactAddingTerms', WHERE WHAT IT READS IS OF BULK AT MOST 1048576: true; the input reads as it did. -/
def fnExactAddingTermsUptoRow : OpenClaim := { program := "ytiijabiijkdhcaa", sum := "6daee196d05c3b2b4efbeb212e9166cf450e1cb384f8e6391884edd9c337f2b6", func := "loop.example/g01381/laws.FnExactAddingTerms", spec := "fnExactAddingTerms", unfollowed := true, recurses := true, apart := false, narrowed := true }
def FnExactAddingTermsUptoSaid : Prop := fnExactAddingTermsUptoRow.holds Try.pinned (OpenSpec.upto fnExactAddingTermsSpec)

/-- 'laws.FnExactFarAhead', WHERE WHAT IT READS IS OF BULK AT MOST 1048576: true; the input reads as it did. -/
def fnExactFarAheadUptoRow : OpenClaim := { program := "ytiijabiijkdhcaa", sum := "6daee196d05c3b2b4efbeb212e9166cf450e1cb384f8e6391884edd9c337f2b6", func := "loop.example/g01381/laws.FnExactFarAhead", spec := "fnExactFarAhead", unfollowed := true, recurses := true, apart := false, narrowed := true }
def FnExactFarAheadUptoSaid : Prop := fnExactFarAheadUptoRow.holds Try.pinned (OpenSpec.upto fnExactFarAheadSpec)

/-- 'laws.FnExactIsEvenRule', WHERE WHAT IT READS IS OF BULK AT MOST 1048576: true; the input reads as it did. -/
def fnExactIsEvenRuleUptoRow : OpenClaim := { program := "ytiijabiijkdhcaa", sum := "6daee196d05c3b2b4efbeb212e9166cf450e1cb384f8e6391884edd9c337f2b6", func := "loop.example/g01381/laws.FnExactIsEvenRule", spec := "fnExactIsEvenRule", unfollowed := true, recurses := true, apart := false, narrowed := true }
def FnExactIsEvenRuleUptoSaid : Prop := fnExactIsEvenRuleUptoRow.holds Try.pinned (OpenSpec.upto fnExactIsEvenRuleSpec)

/-- 'laws.FnExactKeepsSum', WHERE WHAT IT READS IS OF BULK AT MOST 1048576: true; the input reads as it did. -/
def fnExactKeepsSumUptoRow : OpenClaim := { program := "ytiijabiijkdhcaa", sum := "6daee196d05c3b2b4efbeb212e9166cf450e1cb384f8e6391884edd9c337f2b6", func := "loop.example/g01381/laws.FnExactKeepsSum", spec := "fnExactKeepsSum", unfollowed := true, recurses := true, apart := false, narrowed := true }
def FnExactKeepsSumUptoSaid : Prop := fnExactKeepsSumUptoRow.holds Try.pinned (OpenSpec.upto fnExactKeepsSumSpec)

/-- 'laws.FnExactFlowOf', WHERE WHAT IT READS IS OF BULK AT MOST 1048576: true; the input reads as it did. -/
def fnExactFlowOfUptoRow : OpenClaim := { program := "ytiijabiijkdhcaa", sum := "6daee196d05c3b2b4efbeb212e9166cf450e1cb384f8e6391884edd9c337f2b6", func := "loop.example/g01381/laws.FnExactFlowOf", spec := "fnExactFlowOf", unfollowed := true, recurses := true, apart := false, narrowed := true }
def FnExactFlowOfUptoSaid : Prop := fnExactFlowOfUptoRow.holds Try.pinned (OpenSpec.upto fnExactFlowOfSpec)

end Rows
end Go.Proofs.Ytiijabiijkdhcaa
