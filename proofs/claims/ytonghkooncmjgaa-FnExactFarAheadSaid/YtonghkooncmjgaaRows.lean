/-
  No cell of these rows narrows 'for every input' (looked for: loops, veiled, ifaces, maps, wideKeys, modest, calm, conditions, laid).
  DERIVED. THE GIVEN ROWS OF THIS SEAT. 14 by the template 'for every input the law returns true; each argument reads behind the call as it read before'; 0 by the template 'total and deterministic' (their statements: YtonghkooncmjgaaTotals.lean).
  GIVEN WITH THE SEED: the statements are not yours to turn. If you find one false, say at which input.
  Laid BY PROGRAM, IN A SANDBOX (cutbox-rows.mjs): the forced cells as the released guide's own fill.sh prints them over the translation 0d5d6c02b2cfca33… (all of the seat's roots in one cut). By AI agents, Wed Nov 11 2026. No macro, syntax, notation, axiom, sorry.
-/
import Derived.Test.YtonghkooncmjgaaChecked
import GoSem.Claim
import GoSem.ClaimJoined
import GoSem.ClaimMapViews
import Derived.JoinedTies
import Derived.KernelRfl
namespace Go.Proofs.Ytonghkooncmjgaa
/- THE CELL 'sum', in the pinned program and in every row, IS THE sha256 OF THE DUMP (.gsa) THAT YtonghkooncmjgaaProg.lean LOADS. Nothing in Lean hashes anything: it is a label: what it is worth is what the hold of that sum in a sandbox is worth. -/
noncomputable def Try.pinned : Pinned := { name := "ytonghkooncmjgaa", sum := "0d5d6c02b2cfca33a003e8d554c55d3106f02d9d4dbeb5a6e6700fe622bfc8f1", checked := Try.checked }
namespace Rows
def none {H : Type} : Left H := { results := [], args := [] }

/-- 'laws.FnExactValidDesk': WHATEVER THE INPUT: true; the input reads as it did. -/
def fnExactValidDeskSpec : ChangeSpec := { name := "fnExactValidDesk", fn := fun _ => fun
  | [d] => { results := [.lit (.bool true)], args := [d] }
  | _ => none }
def fnExactValidDeskRow : OpenClaim := { program := "ytonghkooncmjgaa", sum := "0d5d6c02b2cfca33a003e8d554c55d3106f02d9d4dbeb5a6e6700fe622bfc8f1", func := "loop.example/g01381/laws.FnExactValidDesk", spec := "fnExactValidDesk", unfollowed := true, recurses := true, apart := false }
def FnExactValidDeskSaid : Prop := fnExactValidDeskRow.holds Try.pinned (OpenSpec.ofChange fnExactValidDeskSpec)

/-- ITS FALSE NEIGHBOUR: 'it returns false'. Refute it at one input. -/
def fnExactValidDeskWrong : ChangeSpec := { name := "fnExactValidDesk", fn := fun _ => fun
  | [d] => { results := [.lit (.bool false)], args := [d] }
  | _ => none }
def FnExactValidDeskWrongFalsely : Prop := fnExactValidDeskRow.holds Try.pinned (OpenSpec.ofChange fnExactValidDeskWrong)

/-- 'laws.FnExactSameDesk': WHATEVER THE INPUT: true; the input reads as it did. -/
def fnExactSameDeskSpec : ChangeSpec := { name := "fnExactSameDesk", fn := fun _ => fun
  | [d1, d2] => { results := [.lit (.bool true)], args := [d1, d2] }
  | _ => none }
def fnExactSameDeskRow : OpenClaim := { program := "ytonghkooncmjgaa", sum := "0d5d6c02b2cfca33a003e8d554c55d3106f02d9d4dbeb5a6e6700fe622bfc8f1", func := "loop.example/g01381/laws.FnExactSameDesk", spec := "fnExactSameDesk", apart := false }
def FnExactSameDeskSaid : Prop := fnExactSameDeskRow.holds Try.pinned (OpenSpec.ofChange fnExactSameDeskSpec)

/-- ITS FALSE NEIGHBOUR: 'it returns false'. Refute it at one input. -/
def fnExactSameDeskWrong : ChangeSpec := { name := "fnExactSameDesk", fn := fun _ => fun
  | [d1, d2] => { results := [.lit (.bool false)], args := [d1, d2] }
  | _ => none }
def FnExactSameDeskWrongFalsely : Prop := fnExactSameDeskRow.holds Try.pinned (OpenSpec.ofChange fnExactSameDeskWrong)

/-- 'laws.FnExactNewDesk': WHATEVER THE INPUT: true; the input reads as it did. -/
def fnExactNewDeskSpec : ChangeSpec := { name := "fnExactNewDesk", fn := fun _ => fun
  | [] => { results := [.lit (.bool true)], args := [] }
  | _ => none }
def fnExactNewDeskRow : OpenClaim := { program := "ytonghkooncmjgaa", sum := "0d5d6c02b2cfca33a003e8d554c55d3106f02d9d4dbeb5a6e6700fe622bfc8f1", func := "loop.example/g01381/laws.FnExactNewDesk", spec := "fnExactNewDesk", unfollowed := true, recurses := true, apart := false }
def FnExactNewDeskSaid : Prop := fnExactNewDeskRow.holds Try.pinned (OpenSpec.ofChange fnExactNewDeskSpec)

/-- ITS FALSE NEIGHBOUR: 'it returns false'. Refute it at one input. -/
def fnExactNewDeskWrong : ChangeSpec := { name := "fnExactNewDesk", fn := fun _ => fun
  | [] => { results := [.lit (.bool false)], args := [] }
  | _ => none }
def FnExactNewDeskWrongFalsely : Prop := fnExactNewDeskRow.holds Try.pinned (OpenSpec.ofChange fnExactNewDeskWrong)

/-- 'laws.FnExactRingText': WHATEVER THE INPUT: true; the input reads as it did. -/
def fnExactRingTextSpec : ChangeSpec := { name := "fnExactRingText", fn := fun _ => fun
  | [d] => { results := [.lit (.bool true)], args := [d] }
  | _ => none }
def fnExactRingTextRow : OpenClaim := { program := "ytonghkooncmjgaa", sum := "0d5d6c02b2cfca33a003e8d554c55d3106f02d9d4dbeb5a6e6700fe622bfc8f1", func := "loop.example/g01381/laws.FnExactRingText", spec := "fnExactRingText", inPlace := ["internal/abi.NoEscape"], unfollowed := true, recurses := true, apart := false }
def FnExactRingTextSaid : Prop := fnExactRingTextRow.holds Try.pinned (OpenSpec.ofChange fnExactRingTextSpec)

/-- ITS FALSE NEIGHBOUR: 'it returns false'. Refute it at one input. -/
def fnExactRingTextWrong : ChangeSpec := { name := "fnExactRingText", fn := fun _ => fun
  | [d] => { results := [.lit (.bool false)], args := [d] }
  | _ => none }
def FnExactRingTextWrongFalsely : Prop := fnExactRingTextRow.holds Try.pinned (OpenSpec.ofChange fnExactRingTextWrong)

/-- 'laws.FnExactLifeText': WHATEVER THE INPUT: true; the input reads as it did. -/
def fnExactLifeTextSpec : ChangeSpec := { name := "fnExactLifeText", fn := fun _ => fun
  | [d] => { results := [.lit (.bool true)], args := [d] }
  | _ => none }
def fnExactLifeTextRow : OpenClaim := { program := "ytonghkooncmjgaa", sum := "0d5d6c02b2cfca33a003e8d554c55d3106f02d9d4dbeb5a6e6700fe622bfc8f1", func := "loop.example/g01381/laws.FnExactLifeText", spec := "fnExactLifeText", inPlace := ["internal/abi.NoEscape"], apart := false }
def FnExactLifeTextSaid : Prop := fnExactLifeTextRow.holds Try.pinned (OpenSpec.ofChange fnExactLifeTextSpec)

/-- ITS FALSE NEIGHBOUR: 'it returns false'. Refute it at one input. -/
def fnExactLifeTextWrong : ChangeSpec := { name := "fnExactLifeText", fn := fun _ => fun
  | [d] => { results := [.lit (.bool false)], args := [d] }
  | _ => none }
def FnExactLifeTextWrongFalsely : Prop := fnExactLifeTextRow.holds Try.pinned (OpenSpec.ofChange fnExactLifeTextWrong)

/-- 'laws.FnExactSameSaved': WHATEVER THE INPUT: true; the input reads as it did. -/
def fnExactSameSavedSpec : ChangeSpec := { name := "fnExactSameSaved", fn := fun _ => fun
  | [d1, d2] => { results := [.lit (.bool true)], args := [d1, d2] }
  | _ => none }
def fnExactSameSavedRow : OpenClaim := { program := "ytonghkooncmjgaa", sum := "0d5d6c02b2cfca33a003e8d554c55d3106f02d9d4dbeb5a6e6700fe622bfc8f1", func := "loop.example/g01381/laws.FnExactSameSaved", spec := "fnExactSameSaved", unfollowed := true, recurses := true, apart := false }
def FnExactSameSavedSaid : Prop := fnExactSameSavedRow.holds Try.pinned (OpenSpec.ofChange fnExactSameSavedSpec)

/-- ITS FALSE NEIGHBOUR: 'it returns false'. Refute it at one input. -/
def fnExactSameSavedWrong : ChangeSpec := { name := "fnExactSameSaved", fn := fun _ => fun
  | [d1, d2] => { results := [.lit (.bool false)], args := [d1, d2] }
  | _ => none }
def FnExactSameSavedWrongFalsely : Prop := fnExactSameSavedRow.holds Try.pinned (OpenSpec.ofChange fnExactSameSavedWrong)

/-- 'laws.FnExactIsTotal': WHATEVER THE INPUT: true; the input reads as it did. -/
def fnExactIsTotalSpec : ChangeSpec := { name := "fnExactIsTotal", fn := fun _ => fun
  | [d] => { results := [.lit (.bool true)], args := [d] }
  | _ => none }
def fnExactIsTotalRow : OpenClaim := { program := "ytonghkooncmjgaa", sum := "0d5d6c02b2cfca33a003e8d554c55d3106f02d9d4dbeb5a6e6700fe622bfc8f1", func := "loop.example/g01381/laws.FnExactIsTotal", spec := "fnExactIsTotal", unfollowed := true, recurses := true, apart := false }
def FnExactIsTotalSaid : Prop := fnExactIsTotalRow.holds Try.pinned (OpenSpec.ofChange fnExactIsTotalSpec)

/-- ITS FALSE NEIGHBOUR: 'it returns false'. Refute it at one input. -/
def fnExactIsTotalWrong : ChangeSpec := { name := "fnExactIsTotal", fn := fun _ => fun
  | [d] => { results := [.lit (.bool false)], args := [d] }
  | _ => none }
def FnExactIsTotalWrongFalsely : Prop := fnExactIsTotalRow.holds Try.pinned (OpenSpec.ofChange fnExactIsTotalWrong)

/-- 'laws.FnExactJoinRules': WHATEVER THE INPUT: true; the input reads as it did. -/
def fnExactJoinRulesSpec : ChangeSpec := { name := "fnExactJoinRules", fn := fun _ => fun
  | [d1, d2] => { results := [.lit (.bool true)], args := [d1, d2] }
  | _ => none }
def fnExactJoinRulesRow : OpenClaim := { program := "ytonghkooncmjgaa", sum := "0d5d6c02b2cfca33a003e8d554c55d3106f02d9d4dbeb5a6e6700fe622bfc8f1", func := "loop.example/g01381/laws.FnExactJoinRules", spec := "fnExactJoinRules", unfollowed := true, recurses := true, apart := false }
def FnExactJoinRulesSaid : Prop := fnExactJoinRulesRow.holds Try.pinned (OpenSpec.ofChange fnExactJoinRulesSpec)

/-- ITS FALSE NEIGHBOUR: 'it returns false'. Refute it at one input. -/
def fnExactJoinRulesWrong : ChangeSpec := { name := "fnExactJoinRules", fn := fun _ => fun
  | [d1, d2] => { results := [.lit (.bool false)], args := [d1, d2] }
  | _ => none }
def FnExactJoinRulesWrongFalsely : Prop := fnExactJoinRulesRow.holds Try.pinned (OpenSpec.ofChange fnExactJoinRulesWrong)

/-- 'laws.FnExactFarAhead': WHATEVER THE INPUT: true; the input reads as it did. -/
def fnExactFarAheadSpec : ChangeSpec := { name := "fnExactFarAhead", fn := fun _ => fun
  | [d1, d2, d3] => { results := [.lit (.bool true)], args := [d1, d2, d3] }
  | _ => none }
def fnExactFarAheadRow : OpenClaim := { program := "ytonghkooncmjgaa", sum := "0d5d6c02b2cfca33a003e8d554c55d3106f02d9d4dbeb5a6e6700fe622bfc8f1", func := "loop.example/g01381/laws.FnExactFarAhead", spec := "fnExactFarAhead", unfollowed := true, recurses := true, apart := false }
def FnExactFarAheadSaid : Prop := fnExactFarAheadRow.holds Try.pinned (OpenSpec.ofChange fnExactFarAheadSpec)

/-- ITS FALSE NEIGHBOUR: 'it returns false'. Refute it at one input. -/
def fnExactFarAheadWrong : ChangeSpec := { name := "fnExactFarAhead", fn := fun _ => fun
  | [d1, d2, d3] => { results := [.lit (.bool false)], args := [d1, d2, d3] }
  | _ => none }
def FnExactFarAheadWrongFalsely : Prop := fnExactFarAheadRow.holds Try.pinned (OpenSpec.ofChange fnExactFarAheadWrong)

/-- 'laws.FnExactPairTable': WHATEVER THE INPUT: true; the input reads as it did. -/
def fnExactPairTableSpec : ChangeSpec := { name := "fnExactPairTable", fn := fun _ => fun
  | [d1, d2] => { results := [.lit (.bool true)], args := [d1, d2] }
  | _ => none }
def fnExactPairTableRow : OpenClaim := { program := "ytonghkooncmjgaa", sum := "0d5d6c02b2cfca33a003e8d554c55d3106f02d9d4dbeb5a6e6700fe622bfc8f1", func := "loop.example/g01381/laws.FnExactPairTable", spec := "fnExactPairTable", unfollowed := true, recurses := true, apart := false }
def FnExactPairTableSaid : Prop := fnExactPairTableRow.holds Try.pinned (OpenSpec.ofChange fnExactPairTableSpec)

/-- ITS FALSE NEIGHBOUR: 'it returns false'. Refute it at one input. -/
def fnExactPairTableWrong : ChangeSpec := { name := "fnExactPairTable", fn := fun _ => fun
  | [d1, d2] => { results := [.lit (.bool false)], args := [d1, d2] }
  | _ => none }
def FnExactPairTableWrongFalsely : Prop := fnExactPairTableRow.holds Try.pinned (OpenSpec.ofChange fnExactPairTableWrong)

/-- 'laws.FnExactWordsBack': WHATEVER THE INPUT: true; the input reads as it did. -/
def fnExactWordsBackSpec : ChangeSpec := { name := "fnExactWordsBack", fn := fun _ => fun
  | [d1, d2] => { results := [.lit (.bool true)], args := [d1, d2] }
  | _ => none }
def fnExactWordsBackRow : OpenClaim := { program := "ytonghkooncmjgaa", sum := "0d5d6c02b2cfca33a003e8d554c55d3106f02d9d4dbeb5a6e6700fe622bfc8f1", func := "loop.example/g01381/laws.FnExactWordsBack", spec := "fnExactWordsBack", unfollowed := true, recurses := true, apart := false }
def FnExactWordsBackSaid : Prop := fnExactWordsBackRow.holds Try.pinned (OpenSpec.ofChange fnExactWordsBackSpec)

/-- ITS FALSE NEIGHBOUR: 'it returns false'. Refute it at one input. -/
def fnExactWordsBackWrong : ChangeSpec := { name := "fnExactWordsBack", fn := fun _ => fun
  | [d1, d2] => { results := [.lit (.bool false)], args := [d1, d2] }
  | _ => none }
def FnExactWordsBackWrongFalsely : Prop := fnExactWordsBackRow.holds Try.pinned (OpenSpec.ofChange fnExactWordsBackWrong)

/-- 'laws.FnExactCountBack': WHATEVER THE INPUT: true; the input reads as it did. -/
def fnExactCountBackSpec : ChangeSpec := { name := "fnExactCountBack", fn := fun _ => fun
  | [d1, d2] => { results := [.lit (.bool true)], args := [d1, d2] }
  | _ => none }
def fnExactCountBackRow : OpenClaim := { program := "ytonghkooncmjgaa", sum := "0d5d6c02b2cfca33a003e8d554c55d3106f02d9d4dbeb5a6e6700fe622bfc8f1", func := "loop.example/g01381/laws.FnExactCountBack", spec := "fnExactCountBack", unfollowed := true, recurses := true, apart := false }
def FnExactCountBackSaid : Prop := fnExactCountBackRow.holds Try.pinned (OpenSpec.ofChange fnExactCountBackSpec)

/-- ITS FALSE NEIGHBOUR: 'it returns false'. Refute it at one input. -/
def fnExactCountBackWrong : ChangeSpec := { name := "fnExactCountBack", fn := fun _ => fun
  | [d1, d2] => { results := [.lit (.bool false)], args := [d1, d2] }
  | _ => none }
def FnExactCountBackWrongFalsely : Prop := fnExactCountBackRow.holds Try.pinned (OpenSpec.ofChange fnExactCountBackWrong)

/-- 'laws.FnExactDrawField': WHATEVER THE INPUT: true; the input reads as it did. -/
def fnExactDrawFieldSpec : ChangeSpec := { name := "fnExactDrawField", fn := fun _ => fun
  | [d1, d2, d3, d4] => { results := [.lit (.bool true)], args := [d1, d2, d3, d4] }
  | _ => none }
def fnExactDrawFieldRow : OpenClaim := { program := "ytonghkooncmjgaa", sum := "0d5d6c02b2cfca33a003e8d554c55d3106f02d9d4dbeb5a6e6700fe622bfc8f1", func := "loop.example/g01381/laws.FnExactDrawField", spec := "fnExactDrawField", apart := false }
def FnExactDrawFieldSaid : Prop := fnExactDrawFieldRow.holds Try.pinned (OpenSpec.ofChange fnExactDrawFieldSpec)

/-- ITS FALSE NEIGHBOUR: 'it returns false'. Refute it at one input. -/
def fnExactDrawFieldWrong : ChangeSpec := { name := "fnExactDrawField", fn := fun _ => fun
  | [d1, d2, d3, d4] => { results := [.lit (.bool false)], args := [d1, d2, d3, d4] }
  | _ => none }
def FnExactDrawFieldWrongFalsely : Prop := fnExactDrawFieldRow.holds Try.pinned (OpenSpec.ofChange fnExactDrawFieldWrong)

/-- 'laws.FnExactCountsAhead': WHATEVER THE INPUT: true; the input reads as it did. -/
def fnExactCountsAheadSpec : ChangeSpec := { name := "fnExactCountsAhead", fn := fun _ => fun
  | [d1, d2, d3, d4] => { results := [.lit (.bool true)], args := [d1, d2, d3, d4] }
  | _ => none }
def fnExactCountsAheadRow : OpenClaim := { program := "ytonghkooncmjgaa", sum := "0d5d6c02b2cfca33a003e8d554c55d3106f02d9d4dbeb5a6e6700fe622bfc8f1", func := "loop.example/g01381/laws.FnExactCountsAhead", spec := "fnExactCountsAhead", unfollowed := true, recurses := true, apart := false }
def FnExactCountsAheadSaid : Prop := fnExactCountsAheadRow.holds Try.pinned (OpenSpec.ofChange fnExactCountsAheadSpec)

/-- ITS FALSE NEIGHBOUR: 'it returns false'. Refute it at one input. -/
def fnExactCountsAheadWrong : ChangeSpec := { name := "fnExactCountsAhead", fn := fun _ => fun
  | [d1, d2, d3, d4] => { results := [.lit (.bool false)], args := [d1, d2, d3, d4] }
  | _ => none }
def FnExactCountsAheadWrongFalsely : Prop := fnExactCountsAheadRow.holds Try.pinned (OpenSpec.ofChange fnExactCountsAheadWrong)

/- THE SECOND FORM. 'bulk': how many values and letters a reading holds, each counted each time it is reached (what is shared counts as often as it is met; a slice's spare places count too). A statement '..UptoSaid' is the law's where the arguments, and the package variables that the reading takes, are together of bulk at most 1048576: NARROWER than '..Said'. Prove '..Said' where nothing that the law and all that it calls make is longer than what came in: it says more and counts as full. Else prove '..UptoSaid'. A law counts once. -/
mutual
def uptoBulk {H : Type} : DataW H → Nat
  | .lit (.string bytes) => bytes.length + 1
  | .lit _ => 1
  | .nil => 1
  | .ptr d => uptoBulk d + 1
  | .slice elems spare => uptoBulkAll elems + uptoBulkAll spare + 1
  | .agg parts => uptoBulkAll parts + 1
  | .iface _ d => uptoBulk d + 1
  | .map entries => uptoBulkEntries entries + 1
  | .held _ => 1
def uptoBulkAll {H : Type} : List (DataW H) → Nat
  | [] => 0
  | d :: r => uptoBulk d + uptoBulkAll r
def uptoBulkEntries {H : Type} : List (Lit × DataW H) → Nat
  | [] => 0
  | x :: r => uptoBulkEntry x + uptoBulkEntries r
def uptoBulkEntry {H : Type} : Lit × DataW H → Nat
  | (.string bytes, d) => bytes.length + uptoBulk d + 1
  | (_, d) => uptoBulk d + 1
 end
def uptoSmall : (H : Type) → List (DataW H) → Bool := fun _ ds => decide (uptoBulkAll ds ≤ 1048576)
def OpenSpec.upto (s : _root_.Go.ChangeSpec) : _root_.Go.OpenSpec := { _root_.Go.OpenSpec.ofChange s with cond := some uptoSmall }

/-- 'laws.FnExactValidDesk', WHERE WHAT IT READS IS OF BULK AT MOST 1048576: true; the input reads as it did. -/
def fnExactValidDeskUptoRow : OpenClaim := { program := "ytonghkooncmjgaa", sum := "0d5d6c02b2cfca33a003e8d554c55d3106f02d9d4dbeb5a6e6700fe622bfc8f1", func := "loop.example/g01381/laws.FnExactValidDesk", spec := "fnExactValidDesk", unfollowed := true, recurses := true, apart := false, narrowed := true }
def FnExactValidDeskUptoSaid : Prop := fnExactValidDeskUptoRow.holds Try.pinned (OpenSpec.upto fnExactValidDeskSpec)

/-- 'laws.FnExactSameDesk', WHERE WHAT IT READS IS OF BULK AT MOST 1048576: true; the input reads as it did. -/
def fnExactSameDeskUptoRow : OpenClaim := { program := "ytonghkooncmjgaa", sum := "0d5d6c02b2cfca33a003e8d554c55d3106f02d9d4dbeb5a6e6700fe622bfc8f1", func := "loop.example/g01381/laws.FnExactSameDesk", spec := "fnExactSameDesk", apart := false, narrowed := true }
def FnExactSameDeskUptoSaid : Prop := fnExactSameDeskUptoRow.holds Try.pinned (OpenSpec.upto fnExactSameDeskSpec)

/-- 'laws.FnExactNewDesk', WHERE WHAT IT READS IS OF BULK AT MOST 1048576: true; the input reads as it did. -/
def fnExactNewDeskUptoRow : OpenClaim := { program := "ytonghkooncmjgaa", sum := "0d5d6c02b2cfca33a003e8d554c55d3106f02d9d4dbeb5a6e6700fe622bfc8f1", func := "loop.example/g01381/laws.FnExactNewDesk", spec := "fnExactNewDesk", unfollowed := true, recurses := true, apart := false, narrowed := true }
def FnExactNewDeskUptoSaid : Prop := fnExactNewDeskUptoRow.holds Try.pinned (OpenSpec.upto fnExactNewDeskSpec)

/-- 'laws.FnExactRingText', WHERE WHAT IT READS IS OF BULK AT MOST 1048576: true; the input reads as it did. -/
def fnExactRingTextUptoRow : OpenClaim := { program := "ytonghkooncmjgaa", sum := "0d5d6c02b2cfca33a003e8d554c55d3106f02d9d4dbeb5a6e6700fe622bfc8f1", func := "loop.example/g01381/laws.FnExactRingText", spec := "fnExactRingText", inPlace := ["internal/abi.NoEscape"], unfollowed := true, recurses := true, apart := false, narrowed := true }
def FnExactRingTextUptoSaid : Prop := fnExactRingTextUptoRow.holds Try.pinned (OpenSpec.upto fnExactRingTextSpec)

/-- 'laws.FnExactLifeText', WHERE WHAT IT READS IS OF BULK AT MOST 1048576: true; the input reads as it did. -/
def fnExactLifeTextUptoRow : OpenClaim := { program := "ytonghkooncmjgaa", sum := "0d5d6c02b2cfca33a003e8d554c55d3106f02d9d4dbeb5a6e6700fe622bfc8f1", func := "loop.example/g01381/laws.FnExactLifeText", spec := "fnExactLifeText", inPlace := ["internal/abi.NoEscape"], apart := false, narrowed := true }
def FnExactLifeTextUptoSaid : Prop := fnExactLifeTextUptoRow.holds Try.pinned (OpenSpec.upto fnExactLifeTextSpec)

/-- 'laws.FnExactSameSaved', WHERE WHAT IT READS IS OF BULK AT MOST 1048576: true; the input reads as it did. -/
def fnExactSameSavedUptoRow : OpenClaim := { program := "ytonghkooncmjgaa", sum := "0d5d6c02b2cfca33a003e8d554c55d3106f02d9d4dbeb5a6e6700fe622bfc8f1", func := "loop.example/g01381/laws.FnExactSameSaved", spec := "fnExactSameSaved", unfollowed := true, recurses := true, apart := false, narrowed := true }
def FnExactSameSavedUptoSaid : Prop := fnExactSameSavedUptoRow.holds Try.pinned (OpenSpec.upto fnExactSameSavedSpec)

/-- 'laws.FnExactIsTotal', WHERE WHAT IT READS IS OF BULK AT MOST 1048576: true; the input reads as it did. -/
def fnExactIsTotalUptoRow : OpenClaim := { program := "ytonghkooncmjgaa", sum := "0d5d6c02b2cfca33a003e8d554c55d3106f02d9d4dbeb5a6e6700fe622bfc8f1", func := "loop.example/g01381/laws.FnExactIsTotal", spec := "fnExactIsTotal", unfollowed := true, recurses := true, apart := false, narrowed := true }
def FnExactIsTotalUptoSaid : Prop := fnExactIsTotalUptoRow.holds Try.pinned (OpenSpec.upto fnExactIsTotalSpec)

/-- 'laws.FnExactJoinRules', WHERE WHAT IT READS IS OF BULK AT MOST 1048576: true; the input reads as it did. -/
def fnExactJoinRulesUptoRow : OpenClaim := { program := "ytonghkooncmjgaa", sum := "0d5d6c02b2cfca33a003e8d554c55d3106f02d9d4dbeb5a6e6700fe622bfc8f1", func := "loop.example/g01381/laws.FnExactJoinRules", spec := "fnExactJoinRules", unfollowed := true, recurses := true, apart := false, narrowed := true }
def FnExactJoinRulesUptoSaid : Prop := fnExactJoinRulesUptoRow.holds Try.pinned (OpenSpec.upto fnExactJoinRulesSpec)

/-- 'laws.FnExactFarAhead', WHERE WHAT IT READS IS OF BULK AT MOST 1048576: true; the input reads as it did. -/
def fnExactFarAheadUptoRow : OpenClaim := { program := "ytonghkooncmjgaa", sum := "0d5d6c02b2cfca33a003e8d554c55d3106f02d9d4dbeb5a6e6700fe622bfc8f1", func := "loop.example/g01381/laws.FnExactFarAhead", spec := "fnExactFarAhead", unfollowed := true, recurses := true, apart := false, narrowed := true }
def FnExactFarAheadUptoSaid : Prop := fnExactFarAheadUptoRow.holds Try.pinned (OpenSpec.upto fnExactFarAheadSpec)

/-- 'laws.FnExactPairTable', WHERE WHAT IT READS IS OF BULK AT MOST 1048576: true; the input reads as it did. -/
def fnExactPairTableUptoRow : OpenClaim := { program := "ytonghkooncmjgaa", sum := "0d5d6c02b2cfca33a003e8d554c55d3106f02d9d4dbeb5a6e6700fe622bfc8f1", func := "loop.example/g01381/laws.FnExactPairTable", spec := "fnExactPairTable", unfollowed := true, recurses := true, apart := false, narrowed := true }
def FnExactPairTableUptoSaid : Prop := fnExactPairTableUptoRow.holds Try.pinned (OpenSpec.upto fnExactPairTableSpec)

/-- 'laws.FnExactWordsBack', WHERE WHAT IT READS IS OF BULK AT MOST 1048576: true; the input reads as it did. -/
def fnExactWordsBackUptoRow : OpenClaim := { program := "ytonghkooncmjgaa", sum := "0d5d6c02b2cfca33a003e8d554c55d3106f02d9d4dbeb5a6e6700fe622bfc8f1", func := "loop.example/g01381/laws.FnExactWordsBack", spec := "fnExactWordsBack", unfollowed := true, recurses := true, apart := false, narrowed := true }
def FnExactWordsBackUptoSaid : Prop := fnExactWordsBackUptoRow.holds Try.pinned (OpenSpec.upto fnExactWordsBackSpec)

/-- 'laws.FnExactCountBack', WHERE WHAT IT READS IS OF BULK AT MOST 1048576: true; the input reads as it did. -/
def fnExactCountBackUptoRow : OpenClaim := { program := "ytonghkooncmjgaa", sum := "0d5d6c02b2cfca33a003e8d554c55d3106f02d9d4dbeb5a6e6700fe622bfc8f1", func := "loop.example/g01381/laws.FnExactCountBack", spec := "fnExactCountBack", unfollowed := true, recurses := true, apart := false, narrowed := true }
def FnExactCountBackUptoSaid : Prop := fnExactCountBackUptoRow.holds Try.pinned (OpenSpec.upto fnExactCountBackSpec)

/-- 'laws.FnExactDrawField', WHERE WHAT IT READS IS OF BULK AT MOST 1048576: true; the input reads as it did. -/
def fnExactDrawFieldUptoRow : OpenClaim := { program := "ytonghkooncmjgaa", sum := "0d5d6c02b2cfca33a003e8d554c55d3106f02d9d4dbeb5a6e6700fe622bfc8f1", func := "loop.example/g01381/laws.FnExactDrawField", spec := "fnExactDrawField", apart := false, narrowed := true }
def FnExactDrawFieldUptoSaid : Prop := fnExactDrawFieldUptoRow.holds Try.pinned (OpenSpec.upto fnExactDrawFieldSpec)

/-- 'laws.FnExactCountsAhead', WHERE WHAT IT READS IS OF BULK AT MOST 1048576: true; the input reads as it did. -/
def fnExactCountsAheadUptoRow : OpenClaim := { program := "ytonghkooncmjgaa", sum := "0d5d6c02b2cfca33a003e8d554c55d3106f02d9d4dbeb5a6e6700fe622bfc8f1", func := "loop.example/g01381/laws.FnExactCountsAhead", spec := "fnExactCountsAhead", unfollowed := true, recurses := true, apart := false, narrowed := true }
def FnExactCountsAheadUptoSaid : Prop := fnExactCountsAheadUptoRow.holds Try.pinned (OpenSpec.upto fnExactCountsAheadSpec)

end Rows
end Go.Proofs.Ytonghkooncmjgaa
