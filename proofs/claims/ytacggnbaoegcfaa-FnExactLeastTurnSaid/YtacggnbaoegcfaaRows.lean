/-
  No cell of these rows narrows 'for every input' (looked for: loops, veiled, ifaces, maps, wideKeys, modest, calm, conditions, laid).
  DERIVED. THE GIVEN ROWS OF THIS SEAT. 14 by the template 'for every input the law returns true; each argument reads behind the call as it read before'; 0 by the template 'total and deterministic' (their statements: YtacggnbaoegcfaaTotals.lean).
  GIVEN WITH THE SEED: the statements are not yours to turn. If you find one false, say at which input.
  Laid BY PROGRAM, IN A SANDBOX (cutbox-rows.mjs): the forced cells as the released guide's own fill.sh prints them over the translation f931d5634a3d0b2d… (all of the seat's roots in one cut). By AI agents, Wed Nov 11 2026. No macro, syntax, notation, axiom, sorry.
-/
import Derived.Test.YtacggnbaoegcfaaChecked
import GoSem.Claim
import GoSem.ClaimJoined
import GoSem.ClaimMapViews
import Derived.JoinedTies
import Derived.KernelRfl
namespace Go.Proofs.Ytacggnbaoegcfaa
/- THE CELL 'sum', in the pinned program and in every row, IS THE sha256 OF THE DUMP (.gsa) THAT YtacggnbaoegcfaaProg.lean LOADS. Nothing in Lean hashes anything: it is a label: what it is worth is what the hold of that sum in a sandbox is worth. -/
noncomputable def Try.pinned : Pinned := { name := "ytacggnbaoegcfaa", sum := "f931d5634a3d0b2d1405c46dc1ce7667844ee2ba2b0e755897327ade7268dd7b", checked := Try.checked }
namespace Rows
def none {H : Type} : Left H := { results := [], args := [] }

/-- 'laws.FnExactValidRule': WHATEVER THE INPUT: true; the input reads as it did. -/
def fnExactValidRuleSpec : ChangeSpec := { name := "fnExactValidRule", fn := fun _ => fun
  | [d] => { results := [.lit (.bool true)], args := [d] }
  | _ => none }
def fnExactValidRuleRow : OpenClaim := { program := "ytacggnbaoegcfaa", sum := "f931d5634a3d0b2d1405c46dc1ce7667844ee2ba2b0e755897327ade7268dd7b", func := "loop.example/g01381/laws.FnExactValidRule", spec := "fnExactValidRule", unfollowed := true, recurses := true, apart := false }
def FnExactValidRuleSaid : Prop := fnExactValidRuleRow.holds Try.pinned (OpenSpec.ofChange fnExactValidRuleSpec)

/-- ITS FALSE NEIGHBOUR: 'it returns false'. Refute it at one input. -/
def fnExactValidRuleWrong : ChangeSpec := { name := "fnExactValidRule", fn := fun _ => fun
  | [d] => { results := [.lit (.bool false)], args := [d] }
  | _ => none }
def FnExactValidRuleWrongFalsely : Prop := fnExactValidRuleRow.holds Try.pinned (OpenSpec.ofChange fnExactValidRuleWrong)

/-- 'laws.FnExactSameRule': WHATEVER THE INPUT: true; the input reads as it did. -/
def fnExactSameRuleSpec : ChangeSpec := { name := "fnExactSameRule", fn := fun _ => fun
  | [d1, d2] => { results := [.lit (.bool true)], args := [d1, d2] }
  | _ => none }
def fnExactSameRuleRow : OpenClaim := { program := "ytacggnbaoegcfaa", sum := "f931d5634a3d0b2d1405c46dc1ce7667844ee2ba2b0e755897327ade7268dd7b", func := "loop.example/g01381/laws.FnExactSameRule", spec := "fnExactSameRule", apart := false }
def FnExactSameRuleSaid : Prop := fnExactSameRuleRow.holds Try.pinned (OpenSpec.ofChange fnExactSameRuleSpec)

/-- ITS FALSE NEIGHBOUR: 'it returns false'. Refute it at one input. -/
def fnExactSameRuleWrong : ChangeSpec := { name := "fnExactSameRule", fn := fun _ => fun
  | [d1, d2] => { results := [.lit (.bool false)], args := [d1, d2] }
  | _ => none }
def FnExactSameRuleWrongFalsely : Prop := fnExactSameRuleRow.holds Try.pinned (OpenSpec.ofChange fnExactSameRuleWrong)

/-- 'laws.FnExactIsRing': WHATEVER THE INPUT: true; the input reads as it did. -/
def fnExactIsRingSpec : ChangeSpec := { name := "fnExactIsRing", fn := fun _ => fun
  | [d1, d2] => { results := [.lit (.bool true)], args := [d1, d2] }
  | _ => none }
def fnExactIsRingRow : OpenClaim := { program := "ytacggnbaoegcfaa", sum := "f931d5634a3d0b2d1405c46dc1ce7667844ee2ba2b0e755897327ade7268dd7b", func := "loop.example/g01381/laws.FnExactIsRing", spec := "fnExactIsRing", unfollowed := true, recurses := true, apart := false }
def FnExactIsRingSaid : Prop := fnExactIsRingRow.holds Try.pinned (OpenSpec.ofChange fnExactIsRingSpec)

/-- ITS FALSE NEIGHBOUR: 'it returns false'. Refute it at one input. -/
def fnExactIsRingWrong : ChangeSpec := { name := "fnExactIsRing", fn := fun _ => fun
  | [d1, d2] => { results := [.lit (.bool false)], args := [d1, d2] }
  | _ => none }
def FnExactIsRingWrongFalsely : Prop := fnExactIsRingRow.holds Try.pinned (OpenSpec.ofChange fnExactIsRingWrong)

/-- 'laws.FnExactNumberOfRule': WHATEVER THE INPUT: true; the input reads as it did. -/
def fnExactNumberOfRuleSpec : ChangeSpec := { name := "fnExactNumberOfRule", fn := fun _ => fun
  | [d] => { results := [.lit (.bool true)], args := [d] }
  | _ => none }
def fnExactNumberOfRuleRow : OpenClaim := { program := "ytacggnbaoegcfaa", sum := "f931d5634a3d0b2d1405c46dc1ce7667844ee2ba2b0e755897327ade7268dd7b", func := "loop.example/g01381/laws.FnExactNumberOfRule", spec := "fnExactNumberOfRule", unfollowed := true, recurses := true, apart := false }
def FnExactNumberOfRuleSaid : Prop := fnExactNumberOfRuleRow.holds Try.pinned (OpenSpec.ofChange fnExactNumberOfRuleSpec)

/-- ITS FALSE NEIGHBOUR: 'it returns false'. Refute it at one input. -/
def fnExactNumberOfRuleWrong : ChangeSpec := { name := "fnExactNumberOfRule", fn := fun _ => fun
  | [d] => { results := [.lit (.bool false)], args := [d] }
  | _ => none }
def FnExactNumberOfRuleWrongFalsely : Prop := fnExactNumberOfRuleRow.holds Try.pinned (OpenSpec.ofChange fnExactNumberOfRuleWrong)

/-- 'laws.FnExactStepRing': WHATEVER THE INPUT: true; the input reads as it did. -/
def fnExactStepRingSpec : ChangeSpec := { name := "fnExactStepRing", fn := fun _ => fun
  | [d1, d2] => { results := [.lit (.bool true)], args := [d1, d2] }
  | _ => none }
def fnExactStepRingRow : OpenClaim := { program := "ytacggnbaoegcfaa", sum := "f931d5634a3d0b2d1405c46dc1ce7667844ee2ba2b0e755897327ade7268dd7b", func := "loop.example/g01381/laws.FnExactStepRing", spec := "fnExactStepRing", unfollowed := true, recurses := true, apart := false }
def FnExactStepRingSaid : Prop := fnExactStepRingRow.holds Try.pinned (OpenSpec.ofChange fnExactStepRingSpec)

/-- ITS FALSE NEIGHBOUR: 'it returns false'. Refute it at one input. -/
def fnExactStepRingWrong : ChangeSpec := { name := "fnExactStepRing", fn := fun _ => fun
  | [d1, d2] => { results := [.lit (.bool false)], args := [d1, d2] }
  | _ => none }
def FnExactStepRingWrongFalsely : Prop := fnExactStepRingRow.holds Try.pinned (OpenSpec.ofChange fnExactStepRingWrong)

/-- 'laws.FnExactRunRing': WHATEVER THE INPUT: true; the input reads as it did. -/
def fnExactRunRingSpec : ChangeSpec := { name := "fnExactRunRing", fn := fun _ => fun
  | [d1, d2, d3] => { results := [.lit (.bool true)], args := [d1, d2, d3] }
  | _ => none }
def fnExactRunRingRow : OpenClaim := { program := "ytacggnbaoegcfaa", sum := "f931d5634a3d0b2d1405c46dc1ce7667844ee2ba2b0e755897327ade7268dd7b", func := "loop.example/g01381/laws.FnExactRunRing", spec := "fnExactRunRing", unfollowed := true, recurses := true, apart := false }
def FnExactRunRingSaid : Prop := fnExactRunRingRow.holds Try.pinned (OpenSpec.ofChange fnExactRunRingSpec)

/-- ITS FALSE NEIGHBOUR: 'it returns false'. Refute it at one input. -/
def fnExactRunRingWrong : ChangeSpec := { name := "fnExactRunRing", fn := fun _ => fun
  | [d1, d2, d3] => { results := [.lit (.bool false)], args := [d1, d2, d3] }
  | _ => none }
def FnExactRunRingWrongFalsely : Prop := fnExactRunRingRow.holds Try.pinned (OpenSpec.ofChange fnExactRunRingWrong)

/-- 'laws.FnExactSecondStep': WHATEVER THE INPUT: true; the input reads as it did. -/
def fnExactSecondStepSpec : ChangeSpec := { name := "fnExactSecondStep", fn := fun _ => fun
  | [d1, d2, d3] => { results := [.lit (.bool true)], args := [d1, d2, d3] }
  | _ => none }
def fnExactSecondStepRow : OpenClaim := { program := "ytacggnbaoegcfaa", sum := "f931d5634a3d0b2d1405c46dc1ce7667844ee2ba2b0e755897327ade7268dd7b", func := "loop.example/g01381/laws.FnExactSecondStep", spec := "fnExactSecondStep", unfollowed := true, recurses := true, apart := false }
def FnExactSecondStepSaid : Prop := fnExactSecondStepRow.holds Try.pinned (OpenSpec.ofChange fnExactSecondStepSpec)

/-- ITS FALSE NEIGHBOUR: 'it returns false'. Refute it at one input. -/
def fnExactSecondStepWrong : ChangeSpec := { name := "fnExactSecondStep", fn := fun _ => fun
  | [d1, d2, d3] => { results := [.lit (.bool false)], args := [d1, d2, d3] }
  | _ => none }
def FnExactSecondStepWrongFalsely : Prop := fnExactSecondStepRow.holds Try.pinned (OpenSpec.ofChange fnExactSecondStepWrong)

/-- 'laws.FnExactAloneSteps': WHATEVER THE INPUT: true; the input reads as it did. -/
def fnExactAloneStepsSpec : ChangeSpec := { name := "fnExactAloneSteps", fn := fun _ => fun
  | [d1, d2, d3] => { results := [.lit (.bool true)], args := [d1, d2, d3] }
  | _ => none }
def fnExactAloneStepsRow : OpenClaim := { program := "ytacggnbaoegcfaa", sum := "f931d5634a3d0b2d1405c46dc1ce7667844ee2ba2b0e755897327ade7268dd7b", func := "loop.example/g01381/laws.FnExactAloneSteps", spec := "fnExactAloneSteps", unfollowed := true, recurses := true, apart := false }
def FnExactAloneStepsSaid : Prop := fnExactAloneStepsRow.holds Try.pinned (OpenSpec.ofChange fnExactAloneStepsSpec)

/-- ITS FALSE NEIGHBOUR: 'it returns false'. Refute it at one input. -/
def fnExactAloneStepsWrong : ChangeSpec := { name := "fnExactAloneSteps", fn := fun _ => fun
  | [d1, d2, d3] => { results := [.lit (.bool false)], args := [d1, d2, d3] }
  | _ => none }
def FnExactAloneStepsWrongFalsely : Prop := fnExactAloneStepsRow.holds Try.pinned (OpenSpec.ofChange fnExactAloneStepsWrong)

/-- 'laws.FnExactDamageOf': WHATEVER THE INPUT: true; the input reads as it did. -/
def fnExactDamageOfSpec : ChangeSpec := { name := "fnExactDamageOf", fn := fun _ => fun
  | [d1, d2, d3, d4] => { results := [.lit (.bool true)], args := [d1, d2, d3, d4] }
  | _ => none }
def fnExactDamageOfRow : OpenClaim := { program := "ytacggnbaoegcfaa", sum := "f931d5634a3d0b2d1405c46dc1ce7667844ee2ba2b0e755897327ade7268dd7b", func := "loop.example/g01381/laws.FnExactDamageOf", spec := "fnExactDamageOf", unfollowed := true, recurses := true, apart := false }
def FnExactDamageOfSaid : Prop := fnExactDamageOfRow.holds Try.pinned (OpenSpec.ofChange fnExactDamageOfSpec)

/-- ITS FALSE NEIGHBOUR: 'it returns false'. Refute it at one input. -/
def fnExactDamageOfWrong : ChangeSpec := { name := "fnExactDamageOf", fn := fun _ => fun
  | [d1, d2, d3, d4] => { results := [.lit (.bool false)], args := [d1, d2, d3, d4] }
  | _ => none }
def FnExactDamageOfWrongFalsely : Prop := fnExactDamageOfRow.holds Try.pinned (OpenSpec.ofChange fnExactDamageOfWrong)

/-- 'laws.FnExactTurnRing': WHATEVER THE INPUT: true; the input reads as it did. -/
def fnExactTurnRingSpec : ChangeSpec := { name := "fnExactTurnRing", fn := fun _ => fun
  | [d1, d2] => { results := [.lit (.bool true)], args := [d1, d2] }
  | _ => none }
def fnExactTurnRingRow : OpenClaim := { program := "ytacggnbaoegcfaa", sum := "f931d5634a3d0b2d1405c46dc1ce7667844ee2ba2b0e755897327ade7268dd7b", func := "loop.example/g01381/laws.FnExactTurnRing", spec := "fnExactTurnRing", unfollowed := true, recurses := true, apart := false }
def FnExactTurnRingSaid : Prop := fnExactTurnRingRow.holds Try.pinned (OpenSpec.ofChange fnExactTurnRingSpec)

/-- ITS FALSE NEIGHBOUR: 'it returns false'. Refute it at one input. -/
def fnExactTurnRingWrong : ChangeSpec := { name := "fnExactTurnRing", fn := fun _ => fun
  | [d1, d2] => { results := [.lit (.bool false)], args := [d1, d2] }
  | _ => none }
def FnExactTurnRingWrongFalsely : Prop := fnExactTurnRingRow.holds Try.pinned (OpenSpec.ofChange fnExactTurnRingWrong)

/-- 'laws.FnExactLeastTurn': WHATEVER THE INPUT: true; the input reads as it did. -/
def fnExactLeastTurnSpec : ChangeSpec := { name := "fnExactLeastTurn", fn := fun _ => fun
  | [d] => { results := [.lit (.bool true)], args := [d] }
  | _ => none }
def fnExactLeastTurnRow : OpenClaim := { program := "ytacggnbaoegcfaa", sum := "f931d5634a3d0b2d1405c46dc1ce7667844ee2ba2b0e755897327ade7268dd7b", func := "loop.example/g01381/laws.FnExactLeastTurn", spec := "fnExactLeastTurn", unfollowed := true, recurses := true, apart := false }
def FnExactLeastTurnSaid : Prop := fnExactLeastTurnRow.holds Try.pinned (OpenSpec.ofChange fnExactLeastTurnSpec)

/-- ITS FALSE NEIGHBOUR: 'it returns false'. Refute it at one input. -/
def fnExactLeastTurnWrong : ChangeSpec := { name := "fnExactLeastTurn", fn := fun _ => fun
  | [d] => { results := [.lit (.bool false)], args := [d] }
  | _ => none }
def FnExactLeastTurnWrongFalsely : Prop := fnExactLeastTurnRow.holds Try.pinned (OpenSpec.ofChange fnExactLeastTurnWrong)

/-- 'laws.FnExactWordsOfRing': WHATEVER THE INPUT: true; the input reads as it did. -/
def fnExactWordsOfRingSpec : ChangeSpec := { name := "fnExactWordsOfRing", fn := fun _ => fun
  | [d1, d2, d3] => { results := [.lit (.bool true)], args := [d1, d2, d3] }
  | _ => none }
def fnExactWordsOfRingRow : OpenClaim := { program := "ytacggnbaoegcfaa", sum := "f931d5634a3d0b2d1405c46dc1ce7667844ee2ba2b0e755897327ade7268dd7b", func := "loop.example/g01381/laws.FnExactWordsOfRing", spec := "fnExactWordsOfRing", unfollowed := true, recurses := true, apart := false }
def FnExactWordsOfRingSaid : Prop := fnExactWordsOfRingRow.holds Try.pinned (OpenSpec.ofChange fnExactWordsOfRingSpec)

/-- ITS FALSE NEIGHBOUR: 'it returns false'. Refute it at one input. -/
def fnExactWordsOfRingWrong : ChangeSpec := { name := "fnExactWordsOfRing", fn := fun _ => fun
  | [d1, d2, d3] => { results := [.lit (.bool false)], args := [d1, d2, d3] }
  | _ => none }
def FnExactWordsOfRingWrongFalsely : Prop := fnExactWordsOfRingRow.holds Try.pinned (OpenSpec.ofChange fnExactWordsOfRingWrong)

/-- 'laws.FnExactDrawRing': WHATEVER THE INPUT: true; the input reads as it did. -/
def fnExactDrawRingSpec : ChangeSpec := { name := "fnExactDrawRing", fn := fun _ => fun
  | [d1, d2, d3] => { results := [.lit (.bool true)], args := [d1, d2, d3] }
  | _ => none }
def fnExactDrawRingRow : OpenClaim := { program := "ytacggnbaoegcfaa", sum := "f931d5634a3d0b2d1405c46dc1ce7667844ee2ba2b0e755897327ade7268dd7b", func := "loop.example/g01381/laws.FnExactDrawRing", spec := "fnExactDrawRing", apart := false }
def FnExactDrawRingSaid : Prop := fnExactDrawRingRow.holds Try.pinned (OpenSpec.ofChange fnExactDrawRingSpec)

/-- ITS FALSE NEIGHBOUR: 'it returns false'. Refute it at one input. -/
def fnExactDrawRingWrong : ChangeSpec := { name := "fnExactDrawRing", fn := fun _ => fun
  | [d1, d2, d3] => { results := [.lit (.bool false)], args := [d1, d2, d3] }
  | _ => none }
def FnExactDrawRingWrongFalsely : Prop := fnExactDrawRingRow.holds Try.pinned (OpenSpec.ofChange fnExactDrawRingWrong)

/-- 'laws.FnExactRuleOfNumber': WHATEVER THE INPUT: true; the input reads as it did. -/
def fnExactRuleOfNumberSpec : ChangeSpec := { name := "fnExactRuleOfNumber", fn := fun _ => fun
  | [d] => { results := [.lit (.bool true)], args := [d] }
  | _ => none }
def fnExactRuleOfNumberRow : OpenClaim := { program := "ytacggnbaoegcfaa", sum := "f931d5634a3d0b2d1405c46dc1ce7667844ee2ba2b0e755897327ade7268dd7b", func := "loop.example/g01381/laws.FnExactRuleOfNumber", spec := "fnExactRuleOfNumber", unfollowed := true, recurses := true, apart := false }
def FnExactRuleOfNumberSaid : Prop := fnExactRuleOfNumberRow.holds Try.pinned (OpenSpec.ofChange fnExactRuleOfNumberSpec)

/-- ITS FALSE NEIGHBOUR: 'it returns false'. Refute it at one input. -/
def fnExactRuleOfNumberWrong : ChangeSpec := { name := "fnExactRuleOfNumber", fn := fun _ => fun
  | [d] => { results := [.lit (.bool false)], args := [d] }
  | _ => none }
def FnExactRuleOfNumberWrongFalsely : Prop := fnExactRuleOfNumberRow.holds Try.pinned (OpenSpec.ofChange fnExactRuleOfNumberWrong)

/- THE SECOND FORM. 'bulk': how many values and letters a reading holds, each counted each time it is reached (what is shared counts as often as it is met; a slice's spare places count too). A statement '..UptoSaid' is the law's where the arguments, and the package variables that the reading takes, are together of bulk at most 1048576: NARROWER than '..Said'. Prove '..Said' where nothing that the law and all that it calls make is longer than what came in: it says more and counts as full. Else prove '..UptoSaid'. A law counts once. -/
mutual
def uptoBulk {H : Type} : DataW H → Nat
  | .lit (.string bytes) => bytes.length + 1
  | .lit _ => 1
  | .nil => 1
  | .ptr d => uptoBulk d + 1
  | .slice elems spare => uptoBulkAll elems + uptoBulkAll spare + 1
  | .agg parts => uptoBulkAll parts + 1
  | .iface _ d => uptoBulk d + 1
  | .map entries => uptoBulkEntries entries + 1
  | .held _ => 1
def uptoBulkAll {H : Type} : List (DataW H) → Nat
  | [] => 0
  | d :: r => uptoBulk d + uptoBulkAll r
def uptoBulkEntries {H : Type} : List (Lit × DataW H) → Nat
  | [] => 0
  | x :: r => uptoBulkEntry x + uptoBulkEntries r
def uptoBulkEntry {H : Type} : Lit × DataW H → Nat
  | (.string bytes, d) => bytes.length + uptoBulk d + 1
  | (_, d) => uptoBulk d + 1
 end
def uptoSmall : (H : Type) → List (DataW H) → Bool := fun _ ds => decide (uptoBulkAll ds ≤ 1048576)
def OpenSpec.upto (s : _root_.Go.ChangeSpec) : _root_.Go.OpenSpec := { _root_.Go.OpenSpec.ofChange s with cond := some uptoSmall }

/-- 'laws.FnExactValidRule', WHERE WHAT IT READS IS OF BULK AT MOST 1048576: true; the input reads as it did. -/
def fnExactValidRuleUptoRow : OpenClaim := { program := "ytacggnbaoegcfaa", sum := "f931d5634a3d0b2d1405c46dc1ce7667844ee2ba2b0e755897327ade7268dd7b", func := "loop.example/g01381/laws.FnExactValidRule", spec := "fnExactValidRule", unfollowed := true, recurses := true, apart := false, narrowed := true }
def FnExactValidRuleUptoSaid : Prop := fnExactValidRuleUptoRow.holds Try.pinned (OpenSpec.upto fnExactValidRuleSpec)

/-- 'laws.FnExactSameRule', WHERE WHAT IT READS IS OF BULK AT MOST 1048576: true; the input reads as it did. -/
def fnExactSameRuleUptoRow : OpenClaim := { program := "ytacggnbaoegcfaa", sum := "f931d5634a3d0b2d1405c46dc1ce7667844ee2ba2b0e755897327ade7268dd7b", func := "loop.example/g01381/laws.FnExactSameRule", spec := "fnExactSameRule", apart := false, narrowed := true }
def FnExactSameRuleUptoSaid : Prop := fnExactSameRuleUptoRow.holds Try.pinned (OpenSpec.upto fnExactSameRuleSpec)

/-- 'laws.FnExactIsRing', WHERE WHAT IT READS IS OF BULK AT MOST 1048576: true; the input reads as it did. -/
def fnExactIsRingUptoRow : OpenClaim := { program := "ytacggnbaoegcfaa", sum := "f931d5634a3d0b2d1405c46dc1ce7667844ee2ba2b0e755897327ade7268dd7b", func := "loop.example/g01381/laws.FnExactIsRing", spec := "fnExactIsRing", unfollowed := true, recurses := true, apart := false, narrowed := true }
def FnExactIsRingUptoSaid : Prop := fnExactIsRingUptoRow.holds Try.pinned (OpenSpec.upto fnExactIsRingSpec)

/-- 'laws.FnExactNumberOfRule', WHERE WHAT IT READS IS OF BULK AT MOST 1048576: true; the input reads as it did. -/
def fnExactNumberOfRuleUptoRow : OpenClaim := { program := "ytacggnbaoegcfaa", sum := "f931d5634a3d0b2d1405c46dc1ce7667844ee2ba2b0e755897327ade7268dd7b", func := "loop.example/g01381/laws.FnExactNumberOfRule", spec := "fnExactNumberOfRule", unfollowed := true, recurses := true, apart := false, narrowed := true }
def FnExactNumberOfRuleUptoSaid : Prop := fnExactNumberOfRuleUptoRow.holds Try.pinned (OpenSpec.upto fnExactNumberOfRuleSpec)

/-- 'laws.FnExactStepRing', WHERE WHAT IT READS IS OF BULK AT MOST 1048576: true; the input reads as it did. -/
def fnExactStepRingUptoRow : OpenClaim := { program := "ytacggnbaoegcfaa", sum := "f931d5634a3d0b2d1405c46dc1ce7667844ee2ba2b0e755897327ade7268dd7b", func := "loop.example/g01381/laws.FnExactStepRing", spec := "fnExactStepRing", unfollowed := true, recurses := true, apart := false, narrowed := true }
def FnExactStepRingUptoSaid : Prop := fnExactStepRingUptoRow.holds Try.pinned (OpenSpec.upto fnExactStepRingSpec)

/-- 'laws.FnExactRunRing', WHERE WHAT IT READS IS OF BULK AT MOST 1048576: true; the input reads as it did. -/
def fnExactRunRingUptoRow : OpenClaim := { program := "ytacggnbaoegcfaa", sum := "f931d5634a3d0b2d1405c46dc1ce7667844ee2ba2b0e755897327ade7268dd7b", func := "loop.example/g01381/laws.FnExactRunRing", spec := "fnExactRunRing", unfollowed := true, recurses := true, apart := false, narrowed := true }
def FnExactRunRingUptoSaid : Prop := fnExactRunRingUptoRow.holds Try.pinned (OpenSpec.upto fnExactRunRingSpec)

/-- 'laws.FnExactSecondStep', WHERE WHAT IT READS IS OF BULK AT MOST 1048576: true; the input reads as it did. -/
def fnExactSecondStepUptoRow : OpenClaim := { program := "ytacggnbaoegcfaa", sum := "f931d5634a3d0b2d1405c46dc1ce7667844ee2ba2b0e755897327ade7268dd7b", func := "loop.example/g01381/laws.FnExactSecondStep", spec := "fnExactSecondStep", unfollowed := true, recurses := true, apart := false, narrowed := true }
def FnExactSecondStepUptoSaid : Prop := fnExactSecondStepUptoRow.holds Try.pinned (OpenSpec.upto fnExactSecondStepSpec)

/-- 'laws.FnExactAloneSteps', WHERE WHAT IT READS IS OF BULK AT MOST 1048576: true; the input reads as it did. -/
def fnExactAloneStepsUptoRow : OpenClaim := { program := "ytacggnbaoegcfaa", sum := "f931d5634a3d0b2d1405c46dc1ce7667844ee2ba2b0e755897327ade7268dd7b", func := "loop.example/g01381/laws.FnExactAloneSteps", spec := "fnExactAloneSteps", unfollowed := true, recurses := true, apart := false, narrowed := true }
def FnExactAloneStepsUptoSaid : Prop := fnExactAloneStepsUptoRow.holds Try.pinned (OpenSpec.upto fnExactAloneStepsSpec)

/-- 'laws.FnExactDamageOf', WHERE WHAT IT READS IS OF BULK AT MOST 1048576: true; the input reads as it did. -/
def fnExactDamageOfUptoRow : OpenClaim := { program := "ytacggnbaoegcfaa", sum := "f931d5634a3d0b2d1405c46dc1ce7667844ee2ba2b0e755897327ade7268dd7b", func := "loop.example/g01381/laws.FnExactDamageOf", spec := "fnExactDamageOf", unfollowed := true, recurses := true, apart := false, narrowed := true }
def FnExactDamageOfUptoSaid : Prop := fnExactDamageOfUptoRow.holds Try.pinned (OpenSpec.upto fnExactDamageOfSpec)

/-- 'laws.FnExactTurnRing', WHERE WHAT IT READS IS OF BULK AT MOST 1048576: true; the input reads as it did. -/
def fnExactTurnRingUptoRow : OpenClaim := { program := "ytacggnbaoegcfaa", sum := "f931d5634a3d0b2d1405c46dc1ce7667844ee2ba2b0e755897327ade7268dd7b", func := "loop.example/g01381/laws.FnExactTurnRing", spec := "fnExactTurnRing", unfollowed := true, recurses := true, apart := false, narrowed := true }
def FnExactTurnRingUptoSaid : Prop := fnExactTurnRingUptoRow.holds Try.pinned (OpenSpec.upto fnExactTurnRingSpec)

/-- 'laws.FnExactLeastTurn', WHERE WHAT IT READS IS OF BULK AT MOST 1048576: true; the input reads as it did. -/
def fnExactLeastTurnUptoRow : OpenClaim := { program := "ytacggnbaoegcfaa", sum := "f931d5634a3d0b2d1405c46dc1ce7667844ee2ba2b0e755897327ade7268dd7b", func := "loop.example/g01381/laws.FnExactLeastTurn", spec := "fnExactLeastTurn", unfollowed := true, recurses := true, apart := false, narrowed := true }
def FnExactLeastTurnUptoSaid : Prop := fnExactLeastTurnUptoRow.holds Try.pinned (OpenSpec.upto fnExactLeastTurnSpec)

/-- 'laws.FnExactWordsOfRing', WHERE WHAT IT READS IS OF BULK AT MOST 1048576: true; the input reads as it did. -/
def fnExactWordsOfRingUptoRow : OpenClaim := { program := "ytacggnbaoegcfaa", sum := "f931d5634a3d0b2d1405c46dc1ce7667844ee2ba2b0e755897327ade7268dd7b", func := "loop.example/g01381/laws.FnExactWordsOfRing", spec := "fnExactWordsOfRing", unfollowed := true, recurses := true, apart := false, narrowed := true }
def FnExactWordsOfRingUptoSaid : Prop := fnExactWordsOfRingUptoRow.holds Try.pinned (OpenSpec.upto fnExactWordsOfRingSpec)

/-- 'laws.FnExactDrawRing', WHERE WHAT IT READS IS OF BULK AT MOST 1048576: true; the input reads as it did. -/
def fnExactDrawRingUptoRow : OpenClaim := { program := "ytacggnbaoegcfaa", sum := "f931d5634a3d0b2d1405c46dc1ce7667844ee2ba2b0e755897327ade7268dd7b", func := "loop.example/g01381/laws.FnExactDrawRing", spec := "fnExactDrawRing", apart := false, narrowed := true }
def FnExactDrawRingUptoSaid : Prop := fnExactDrawRingUptoRow.holds Try.pinned (OpenSpec.upto fnExactDrawRingSpec)

/-- 'laws.FnExactRuleOfNumber', WHERE WHAT IT READS IS OF BULK AT MOST 1048576: true; the input reads as it did. -/
def fnExactRuleOfNumberUptoRow : OpenClaim := { program := "ytacggnbaoegcfaa", sum := "f931d5634a3d0b2d1405c46dc1ce7667844ee2ba2b0e755897327ade7268dd7b", func := "loop.example/g01381/laws.FnExactRuleOfNumber", spec := "fnExactRuleOfNumber", unfollowed := true, recurses := true, apart := false, narrowed := true }
def FnExactRuleOfNumberUptoSaid : Prop := fnExactRuleOfNumberUptoRow.holds Try.pinned (OpenSpec.upto fnExactRuleOfNumberSpec)

end Rows
end Go.Proofs.Ytacggnbaoegcfaa
