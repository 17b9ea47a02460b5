/-
  No cell of these rows narrows 'for every input' (looked for: loops, veiled, ifaces, maps, wideKeys, modest, calm, conditions, laid).
  DERIVED. THE GIVEN ROWS OF THIS SEAT. 6 by the template 'for every input the law returns true; each argument reads behind the call as it read before'; 0 by the template 'total and deterministic' (their statements: YtpehalecmgpbnaaTotals.lean).
  GIVEN WITH THE SEED: the statements are not yours to turn. If you find one false, say at which input.
  Laid BY PROGRAM, IN A SANDBOX (cutbox-rows.mjs): the forced cells as the released guide's own fill.sh prints them over the translation b08978de82ac8cb1… (all of the seat's roots in one cut). By AI agents, Wed Nov 11 2026. No macro, syntax, notation, axiom, sorry.
-/
import Derived.Test.YtpehalecmgpbnaaChecked
import GoSem.Claim
import GoSem.ClaimJoined
import GoSem.ClaimMapViews
import Derived.JoinedTies
import Derived.KernelRfl
namespace Go.Proofs.Ytpehalecmgpbnaa
/- THE CELL 'sum', in the pinned program and in every row, IS THE sha256 OF THE DUMP (.gsa) THAT YtpehalecmgpbnaaProg.lean LOADS. Nothing in Lean hashes anything: it is a label: what it is worth is what the hold of that sum in a sandbox is worth. -/
noncomputable def Try.pinned : Pinned := { name := "ytpehalecmgpbnaa", sum := "b08978de82ac8cb1d5dfa1ba3e804fe8a561c54b32d29aed9e8e5571f2567cdc", checked := Try.checked }
namespace Rows
def none {H : Type} : Left H := { results := [], args := [] }

/-- 'laws.FnExactStepRing': WHATEVER THE INPUT: true; the input reads as it did. -/
def fnExactStepRingSpec : ChangeSpec := { name := "fnExactStepRing", fn := fun _ => fun
  | [d1, d2] => { results := [.lit (.bool true)], args := [d1, d2] }
  | _ => none }
def fnExactStepRingRow : OpenClaim := { program := "ytpehalecmgpbnaa", sum := "b08978de82ac8cb1d5dfa1ba3e804fe8a561c54b32d29aed9e8e5571f2567cdc", func := "loop.example/g01381/laws.FnExactStepRing", spec := "fnExactStepRing", unfollowed := true, recurses := true, apart := false }
def FnExactStepRingSaid : Prop := fnExactStepRingRow.holds Try.pinned (OpenSpec.ofChange fnExactStepRingSpec)

/-- ITS FALSE NEIGHBOUR: 'it returns false'. Refute it at one input. -/
def fnExactStepRingWrong : ChangeSpec := { name := "fnExactStepRing", fn := fun _ => fun
  | [d1, d2] => { results := [.lit (.bool false)], args := [d1, d2] }
  | _ => none }
def FnExactStepRingWrongFalsely : Prop := fnExactStepRingRow.holds Try.pinned (OpenSpec.ofChange fnExactStepRingWrong)

/-- 'laws.FnExactRunRing': WHATEVER THE INPUT: true; the input reads as it did. -/
def fnExactRunRingSpec : ChangeSpec := { name := "fnExactRunRing", fn := fun _ => fun
  | [d1, d2, d3] => { results := [.lit (.bool true)], args := [d1, d2, d3] }
  | _ => none }
def fnExactRunRingRow : OpenClaim := { program := "ytpehalecmgpbnaa", sum := "b08978de82ac8cb1d5dfa1ba3e804fe8a561c54b32d29aed9e8e5571f2567cdc", func := "loop.example/g01381/laws.FnExactRunRing", spec := "fnExactRunRing", unfollowed := true, recurses := true, apart := false }
def FnExactRunRingSaid : Prop := fnExactRunRingRow.holds Try.pinned (OpenSpec.ofChange fnExactRunRingSpec)

/-- ITS FALSE NEIGHBOUR: 'it returns false'. Refute it at one input. -/
def fnExactRunRingWrong : ChangeSpec := { name := "fnExactRunRing", fn := fun _ => fun
  | [d1, d2, d3] => { results := [.lit (.bool false)], args := [d1, d2, d3] }
  | _ => none }
def FnExactRunRingWrongFalsely : Prop := fnExactRunRingRow.holds Try.pinned (OpenSpec.ofChange fnExactRunRingWrong)

/-- 'laws.FnExactSecondStep': WHATEVER THE INPUT: true; the input reads as it did. -/
def fnExactSecondStepSpec : ChangeSpec := { name := "fnExactSecondStep", fn := fun _ => fun
  | [d1, d2, d3] => { results := [.lit (.bool true)], args := [d1, d2, d3] }
  | _ => none }
def fnExactSecondStepRow : OpenClaim := { program := "ytpehalecmgpbnaa", sum := "b08978de82ac8cb1d5dfa1ba3e804fe8a561c54b32d29aed9e8e5571f2567cdc", func := "loop.example/g01381/laws.FnExactSecondStep", spec := "fnExactSecondStep", unfollowed := true, recurses := true, apart := false }
def FnExactSecondStepSaid : Prop := fnExactSecondStepRow.holds Try.pinned (OpenSpec.ofChange fnExactSecondStepSpec)

/-- ITS FALSE NEIGHBOUR: 'it returns false'. Refute it at one input. -/
def fnExactSecondStepWrong : ChangeSpec := { name := "fnExactSecondStep", fn := fun _ => fun
  | [d1, d2, d3] => { results := [.lit (.bool false)], args := [d1, d2, d3] }
  | _ => none }
def FnExactSecondStepWrongFalsely : Prop := fnExactSecondStepRow.holds Try.pinned (OpenSpec.ofChange fnExactSecondStepWrong)

/-- 'laws.FnExactAloneSteps': WHATEVER THE INPUT: true; the input reads as it did. -/
def fnExactAloneStepsSpec : ChangeSpec := { name := "fnExactAloneSteps", fn := fun _ => fun
  | [d1, d2, d3] => { results := [.lit (.bool true)], args := [d1, d2, d3] }
  | _ => none }
def fnExactAloneStepsRow : OpenClaim := { program := "ytpehalecmgpbnaa", sum := "b08978de82ac8cb1d5dfa1ba3e804fe8a561c54b32d29aed9e8e5571f2567cdc", func := "loop.example/g01381/laws.FnExactAloneSteps", spec := "fnExactAloneSteps", unfollowed := true, recurses := true, apart := false }
def FnExactAloneStepsSaid : Prop := fnExactAloneStepsRow.holds Try.pinned (OpenSpec.ofChange fnExactAloneStepsSpec)

/-- ITS FALSE NEIGHBOUR: 'it returns false'. Refute it at one input. -/
def fnExactAloneStepsWrong : ChangeSpec := { name := "fnExactAloneSteps", fn := fun _ => fun
  | [d1, d2, d3] => { results := [.lit (.bool false)], args := [d1, d2, d3] }
  | _ => none }
def FnExactAloneStepsWrongFalsely : Prop := fnExactAloneStepsRow.holds Try.pinned (OpenSpec.ofChange fnExactAloneStepsWrong)

/-- 'laws.FnExactDamageOf': WHATEVER THE INPUT: true; the input reads as it did. -/
def fnExactDamageOfSpec : ChangeSpec := { name := "fnExactDamageOf", fn := fun _ => fun
  | [d1, d2, d3, d4] => { results := [.lit (.bool true)], args := [d1, d2, d3, d4] }
  | _ => none }
def fnExactDamageOfRow : OpenClaim := { program := "ytpehalecmgpbnaa", sum := "b08978de82ac8cb1d5dfa1ba3e804fe8a561c54b32d29aed9e8e5571f2567cdc", func := "loop.example/g01381/laws.FnExactDamageOf", spec := "fnExactDamageOf", unfollowed := true, recurses := true, apart := false }
def FnExactDamageOfSaid : Prop := fnExactDamageOfRow.holds Try.pinned (OpenSpec.ofChange fnExactDamageOfSpec)

/-- ITS FALSE NEIGHBOUR: 'it returns false'. Refute it at one input. -/
def fnExactDamageOfWrong : ChangeSpec := { name := "fnExactDamageOf", fn := fun _ => fun
  | [d1, d2, d3, d4] => { results := [.lit (.bool false)], args := [d1, d2, d3, d4] }
  | _ => none }
def FnExactDamageOfWrongFalsely : Prop := fnExactDamageOfRow.holds Try.pinned (OpenSpec.ofChange fnExactDamageOfWrong)

/-- 'laws.FnExactWordsOfRing': WHATEVER THE INPUT: true; the input reads as it did. -/
def fnExactWordsOfRingSpec : ChangeSpec := { name := "fnExactWordsOfRing", fn := fun _ => fun
  | [d1, d2, d3] => { results := [.lit (.bool true)], args := [d1, d2, d3] }
  | _ => none }
def fnExactWordsOfRingRow : OpenClaim := { program := "ytpehalecmgpbnaa", sum := "b08978de82ac8cb1d5dfa1ba3e804fe8a561c54b32d29aed9e8e5571f2567cdc", func := "loop.example/g01381/laws.FnExactWordsOfRing", spec := "fnExactWordsOfRing", unfollowed := true, recurses := true, apart := false }
def FnExactWordsOfRingSaid : Prop := fnExactWordsOfRingRow.holds Try.pinned (OpenSpec.ofChange fnExactWordsOfRingSpec)

/-- ITS FALSE NEIGHBOUR: 'it returns false'. Refute it at one input. -/
def fnExactWordsOfRingWrong : ChangeSpec := { name := "fnExactWordsOfRing", fn := fun _ => fun
  | [d1, d2, d3] => { results := [.lit (.bool false)], args := [d1, d2, d3] }
  | _ => none }
def FnExactWordsOfRingWrongFalsely : Prop := fnExactWordsOfRingRow.holds Try.pinned (OpenSpec.ofChange fnExactWordsOfRingWrong)

/- THE SECOND FORM. 'bulk': how many values and letters a reading holds, each counted each time it is reached (what is shared counts as often as it is met; a slice's spare places count too). A statement '..UptoSaid' is the law's where the arguments, and the package variables that the reading takes, are together of bulk at most 1048576: NARROWER than '..Said'. Prove '..Said' where nothing that the law and all that it calls make is longer than what came in: it says more and counts as full. Else prove '..UptoSaid'. A law counts once. -/
mutual
def uptoBulk {H : Type} : DataW H → Nat
  | .lit (.string bytes) => bytes.length + 1
  | .lit _ => 1
  | .nil => 1
  | .ptr d => uptoBulk d + 1
  | .slice elems spare => uptoBulkAll elems + uptoBulkAll spare + 1
  | .agg parts => uptoBulkAll parts + 1
  | .iface _ d => uptoBulk d + 1
  | .map entries => uptoBulkEntries entries + 1
  | .held _ => 1
def uptoBulkAll {H : Type} : List (DataW H) → Nat
  | [] => 0
  | d :: r => uptoBulk d + uptoBulkAll r
def uptoBulkEntries {H : Type} : List (Lit × DataW H) → Nat
  | [] => 0
  | x :: r => uptoBulkEntry x + uptoBulkEntries r
def uptoBulkEntry {H : Type} : Lit × DataW H → Nat
  | (.string bytes, d) => bytes.length + uptoBulk d + 1
  | (_, d) => uptoBulk d + 1
 end
def uptoSmall : (H : Type) → List (DataW H) → Bool := fun _ ds => decide (uptoBulkAll ds ≤ 1048576)
def OpenSpec.upto (s : _root_.Go.ChangeSpec) : _root_.Go.OpenSpec := { _root_.Go.OpenSpec.ofChange s with cond := some uptoSmall }

/-- 'laws.FnExactStepRing', WHERE WHAT IT READS IS OF BULK AT MOST 1048576: true; the input reads as it did. -/
def fnExactStepRingUptoRow : OpenClaim := { program := "ytpehalecmgpbnaa", sum := "b08978de82ac8cb1d5dfa1ba3e804fe8a561c54b32d29aed9e8e5571f2567cdc", func := "loop.example/g01381/laws.FnExactStepRing", spec := "fnExactStepRing", unfollowed := true, recurses := true, apart := false, narrowed := true }
def FnExactStepRingUptoSaid : Prop := fnExactStepRingUptoRow.holds Try.pinned (OpenSpec.upto fnExactStepRingSpec)

/-- 'laws.FnExactRunRing', WHERE WHAT IT READS IS OF BULK AT MOST 1048576: true; the input reads as it did. -/
def fnExactRunRingUptoRow : OpenClaim := { program := "ytpehalecmgpbnaa", sum := "b08978de82ac8cb1d5dfa1ba3e804fe8a561c54b32d29aed9e8e5571f2567cdc", func := "loop.example/g01381/laws.FnExactRunRing", spec := "fnExactRunRing", unfollowed := true, recurses := true, apart := false, narrowed := true }
def FnExactRunRingUptoSaid : Prop := fnExactRunRingUptoRow.holds Try.pinned (OpenSpec.upto fnExactRunRingSpec)

/-- 'laws.FnExactSecondStep', WHERE WHAT IT READS IS OF BULK AT MOST 1048576: true; the input reads as it did. -/
def fnExactSecondStepUptoRow : OpenClaim := { program := "ytpehalecmgpbnaa", sum := "b08978de82ac8cb1d5dfa1ba3e804fe8a561c54b32d29aed9e8e5571f2567cdc", func := "loop.example/g01381/laws.FnExactSecondStep", spec := "fnExactSecondStep", unfollowed := true, recurses := true, apart := false, narrowed := true }
def FnExactSecondStepUptoSaid : Prop := fnExactSecondStepUptoRow.holds Try.pinned (OpenSpec.upto fnExactSecondStepSpec)

/-- 'laws.FnExactAloneSteps', WHERE WHAT IT READS IS OF BULK AT MOST 1048576: true; the input reads as it did. -/
def fnExactAloneStepsUptoRow : OpenClaim := { program := "ytpehalecmgpbnaa", sum := "b08978de82ac8cb1d5dfa1ba3e804fe8a561c54b32d29aed9e8e5571f2567cdc", func := "loop.example/g01381/laws.FnExactAloneSteps", spec := "fnExactAloneSteps", unfollowed := true, recurses := true, apart := false, narrowed := true }
def FnExactAloneStepsUptoSaid : Prop := fnExactAloneStepsUptoRow.holds Try.pinned (OpenSpec.upto fnExactAloneStepsSpec)

/-- 'laws.FnExactDamageOf', WHERE WHAT IT READS IS OF BULK AT MOST 1048576: true; the input reads as it did. -/
def fnExactDamageOfUptoRow : OpenClaim := { program := "ytpehalecmgpbnaa", sum := "b08978de82ac8cb1d5dfa1ba3e804fe8a561c54b32d29aed9e8e5571f2567cdc", func := "loop.example/g01381/laws.FnExactDamageOf", spec := "fnExactDamageOf", unfollowed := true, recurses := true, apart := false, narrowed := true }
def FnExactDamageOfUptoSaid : Prop := fnExactDamageOfUptoRow.holds Try.pinned (OpenSpec.upto fnExactDamageOfSpec)

/-- 'laws.FnExactWordsOfRing', WHERE WHAT IT READS IS OF BULK AT MOST 1048576: true; the input reads as it did. -/
def fnExactWordsOfRingUptoRow : OpenClaim := { program := "ytpehalecmgpbnaa", sum := "b08978de82ac8cb1d5dfa1ba3e804fe8a561c54b32d29aed9e8e5571f2567cdc", func := "loop.example/g01381/laws.FnExactWordsOfRing", spec := "fnExactWordsOfRing", unfollowed := true, recurses := true, apart := false, narrowed := true }
def FnExactWordsOfRingUptoSaid : Prop := fnExactWordsOfRingUptoRow.holds Try.pinned (OpenSpec.upto fnExactWordsOfRingSpec)

end Rows
end Go.Proofs.Ytpehalecmgpbnaa
