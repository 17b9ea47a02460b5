/-
  No cell of these rows narrows 'for every input' (looked for: loops, veiled, ifaces, maps, wideKeys, modest, calm, conditions, laid).
  DERIVED. THE GIVEN ROWS OF THIS SEAT. 7 by the template 'for every input the law returns true; each argument reads behind the call as it read before'; 0 by the template 'total and deterministic' (their statements: YtmhonhkiakjdjaaTotals.lean).
  GIVEN WITH THE SEED: the statements are not yours to turn. If you find one false, say at which input.
  Laid BY PROGRAM, IN A SANDBOX (cutbox-rows.mjs): the forced cells as the released guide's own fill.sh prints them over the translation b3f284db15540846… (all of the seat's roots in one cut). By AI agents, Wed Nov 11 2026. No macro, syntax, notation, axiom, sorry.
-/
import Derived.Test.YtmhonhkiakjdjaaChecked
import GoSem.Claim
import GoSem.ClaimJoined
import GoSem.ClaimMapViews
import Derived.JoinedTies
import Derived.KernelRfl
namespace Go.Proofs.Ytmhonhkiakjdjaa
/- THE CELL 'sum', in the pinned program and in every row, IS THE sha256 OF THE DUMP (.gsa) THAT YtmhonhkiakjdjaaProg.lean LOADS. Nothing in Lean hashes anything: it is a label: what it is worth is what the hold of that sum in a sandbox is worth. -/
noncomputable def Try.pinned : Pinned := { name := "ytmhonhkiakjdjaa", sum := "b3f284db15540846755096bf0a2dbe4b604ac581ab088d4f27abe4a104caf7f6", checked := Try.checked }
namespace Rows
def none {H : Type} : Left H := { results := [], args := [] }

/-- 'laws.FnExactPasteField': WHATEVER THE INPUT: true; the input reads as it did. -/
def fnExactPasteFieldSpec : ChangeSpec := { name := "fnExactPasteField", fn := fun _ => fun
  | [d1, d2, d3, d4] => { results := [.lit (.bool true)], args := [d1, d2, d3, d4] }
  | _ => none }
def fnExactPasteFieldRow : OpenClaim := { program := "ytmhonhkiakjdjaa", sum := "b3f284db15540846755096bf0a2dbe4b604ac581ab088d4f27abe4a104caf7f6", func := "loop.example/g01381/laws.FnExactPasteField", spec := "fnExactPasteField", unfollowed := true, recurses := true, apart := false }
def FnExactPasteFieldSaid : Prop := fnExactPasteFieldRow.holds Try.pinned (OpenSpec.ofChange fnExactPasteFieldSpec)

/-- ITS FALSE NEIGHBOUR: 'it returns false'. Refute it at one input. -/
def fnExactPasteFieldWrong : ChangeSpec := { name := "fnExactPasteField", fn := fun _ => fun
  | [d1, d2, d3, d4] => { results := [.lit (.bool false)], args := [d1, d2, d3, d4] }
  | _ => none }
def FnExactPasteFieldWrongFalsely : Prop := fnExactPasteFieldRow.holds Try.pinned (OpenSpec.ofChange fnExactPasteFieldWrong)

/-- 'laws.FnExactStepLife': WHATEVER THE INPUT: true; the input reads as it did. -/
def fnExactStepLifeSpec : ChangeSpec := { name := "fnExactStepLife", fn := fun _ => fun
  | [d1, d2, d3] => { results := [.lit (.bool true)], args := [d1, d2, d3] }
  | _ => none }
def fnExactStepLifeRow : OpenClaim := { program := "ytmhonhkiakjdjaa", sum := "b3f284db15540846755096bf0a2dbe4b604ac581ab088d4f27abe4a104caf7f6", func := "loop.example/g01381/laws.FnExactStepLife", spec := "fnExactStepLife", unfollowed := true, recurses := true, apart := false }
def FnExactStepLifeSaid : Prop := fnExactStepLifeRow.holds Try.pinned (OpenSpec.ofChange fnExactStepLifeSpec)

/-- ITS FALSE NEIGHBOUR: 'it returns false'. Refute it at one input. -/
def fnExactStepLifeWrong : ChangeSpec := { name := "fnExactStepLife", fn := fun _ => fun
  | [d1, d2, d3] => { results := [.lit (.bool false)], args := [d1, d2, d3] }
  | _ => none }
def FnExactStepLifeWrongFalsely : Prop := fnExactStepLifeRow.holds Try.pinned (OpenSpec.ofChange fnExactStepLifeWrong)

/-- 'laws.FnExactRunLife': WHATEVER THE INPUT: true; the input reads as it did. -/
def fnExactRunLifeSpec : ChangeSpec := { name := "fnExactRunLife", fn := fun _ => fun
  | [d1, d2, d3, d4] => { results := [.lit (.bool true)], args := [d1, d2, d3, d4] }
  | _ => none }
def fnExactRunLifeRow : OpenClaim := { program := "ytmhonhkiakjdjaa", sum := "b3f284db15540846755096bf0a2dbe4b604ac581ab088d4f27abe4a104caf7f6", func := "loop.example/g01381/laws.FnExactRunLife", spec := "fnExactRunLife", unfollowed := true, recurses := true, apart := false }
def FnExactRunLifeSaid : Prop := fnExactRunLifeRow.holds Try.pinned (OpenSpec.ofChange fnExactRunLifeSpec)

/-- ITS FALSE NEIGHBOUR: 'it returns false'. Refute it at one input. -/
def fnExactRunLifeWrong : ChangeSpec := { name := "fnExactRunLife", fn := fun _ => fun
  | [d1, d2, d3, d4] => { results := [.lit (.bool false)], args := [d1, d2, d3, d4] }
  | _ => none }
def FnExactRunLifeWrongFalsely : Prop := fnExactRunLifeRow.holds Try.pinned (OpenSpec.ofChange fnExactRunLifeWrong)

/-- 'laws.FnExactIsStill': WHATEVER THE INPUT: true; the input reads as it did. -/
def fnExactIsStillSpec : ChangeSpec := { name := "fnExactIsStill", fn := fun _ => fun
  | [d1, d2, d3] => { results := [.lit (.bool true)], args := [d1, d2, d3] }
  | _ => none }
def fnExactIsStillRow : OpenClaim := { program := "ytmhonhkiakjdjaa", sum := "b3f284db15540846755096bf0a2dbe4b604ac581ab088d4f27abe4a104caf7f6", func := "loop.example/g01381/laws.FnExactIsStill", spec := "fnExactIsStill", unfollowed := true, recurses := true, apart := false }
def FnExactIsStillSaid : Prop := fnExactIsStillRow.holds Try.pinned (OpenSpec.ofChange fnExactIsStillSpec)

/-- ITS FALSE NEIGHBOUR: 'it returns false'. Refute it at one input. -/
def fnExactIsStillWrong : ChangeSpec := { name := "fnExactIsStill", fn := fun _ => fun
  | [d1, d2, d3] => { results := [.lit (.bool false)], args := [d1, d2, d3] }
  | _ => none }
def FnExactIsStillWrongFalsely : Prop := fnExactIsStillRow.holds Try.pinned (OpenSpec.ofChange fnExactIsStillWrong)

/-- 'laws.FnExactIsTurnTable': WHATEVER THE INPUT: true; the input reads as it did. -/
def fnExactIsTurnTableSpec : ChangeSpec := { name := "fnExactIsTurnTable", fn := fun _ => fun
  | [d] => { results := [.lit (.bool true)], args := [d] }
  | _ => none }
def fnExactIsTurnTableRow : OpenClaim := { program := "ytmhonhkiakjdjaa", sum := "b3f284db15540846755096bf0a2dbe4b604ac581ab088d4f27abe4a104caf7f6", func := "loop.example/g01381/laws.FnExactIsTurnTable", spec := "fnExactIsTurnTable", unfollowed := true, recurses := true, apart := false }
def FnExactIsTurnTableSaid : Prop := fnExactIsTurnTableRow.holds Try.pinned (OpenSpec.ofChange fnExactIsTurnTableSpec)

/-- ITS FALSE NEIGHBOUR: 'it returns false'. Refute it at one input. -/
def fnExactIsTurnTableWrong : ChangeSpec := { name := "fnExactIsTurnTable", fn := fun _ => fun
  | [d] => { results := [.lit (.bool false)], args := [d] }
  | _ => none }
def FnExactIsTurnTableWrongFalsely : Prop := fnExactIsTurnTableRow.holds Try.pinned (OpenSpec.ofChange fnExactIsTurnTableWrong)

/-- 'laws.FnExactBackTable': WHATEVER THE INPUT: true; the input reads as it did. -/
def fnExactBackTableSpec : ChangeSpec := { name := "fnExactBackTable", fn := fun _ => fun
  | [d] => { results := [.lit (.bool true)], args := [d] }
  | _ => none }
def fnExactBackTableRow : OpenClaim := { program := "ytmhonhkiakjdjaa", sum := "b3f284db15540846755096bf0a2dbe4b604ac581ab088d4f27abe4a104caf7f6", func := "loop.example/g01381/laws.FnExactBackTable", spec := "fnExactBackTable", unfollowed := true, recurses := true, apart := false }
def FnExactBackTableSaid : Prop := fnExactBackTableRow.holds Try.pinned (OpenSpec.ofChange fnExactBackTableSpec)

/-- ITS FALSE NEIGHBOUR: 'it returns false'. Refute it at one input. -/
def fnExactBackTableWrong : ChangeSpec := { name := "fnExactBackTable", fn := fun _ => fun
  | [d] => { results := [.lit (.bool false)], args := [d] }
  | _ => none }
def FnExactBackTableWrongFalsely : Prop := fnExactBackTableRow.holds Try.pinned (OpenSpec.ofChange fnExactBackTableWrong)

/-- 'laws.FnExactBlockStep': WHATEVER THE INPUT: true; the input reads as it did. -/
def fnExactBlockStepSpec : ChangeSpec := { name := "fnExactBlockStep", fn := fun _ => fun
  | [d1, d2, d3] => { results := [.lit (.bool true)], args := [d1, d2, d3] }
  | _ => none }
def fnExactBlockStepRow : OpenClaim := { program := "ytmhonhkiakjdjaa", sum := "b3f284db15540846755096bf0a2dbe4b604ac581ab088d4f27abe4a104caf7f6", func := "loop.example/g01381/laws.FnExactBlockStep", spec := "fnExactBlockStep", unfollowed := true, recurses := true, apart := false }
def FnExactBlockStepSaid : Prop := fnExactBlockStepRow.holds Try.pinned (OpenSpec.ofChange fnExactBlockStepSpec)

/-- ITS FALSE NEIGHBOUR: 'it returns false'. Refute it at one input. -/
def fnExactBlockStepWrong : ChangeSpec := { name := "fnExactBlockStep", fn := fun _ => fun
  | [d1, d2, d3] => { results := [.lit (.bool false)], args := [d1, d2, d3] }
  | _ => none }
def FnExactBlockStepWrongFalsely : Prop := fnExactBlockStepRow.holds Try.pinned (OpenSpec.ofChange fnExactBlockStepWrong)

/- THE SECOND FORM. 'bulk': how many values and letters a reading holds, each counted each time it is reached (what is shared counts as often as it is met; a slice's spare places count too). A statement '..UptoSaid' is the law's where the arguments, and the package variables that the reading takes, are together of bulk at most 1048576: NARROWER than '..Said'. Prove '..Said' where nothing that the law and all that it calls make is longer than what came in: it says more and counts as full. Else prove '..UptoSaid'. A law counts once. -/
mutual
def uptoBulk {H : Type} : DataW H → Nat
  | .lit (.string bytes) => bytes.length + 1
  | .lit _ => 1
  | .nil => 1
  | .ptr d => uptoBulk d + 1
  | .slice elems spare => uptoBulkAll elems + uptoBulkAll spare + 1
  | .agg parts => uptoBulkAll parts + 1
  | .iface _ d => uptoBulk d + 1
  | .map entries => uptoBulkEntries entries + 1
  | .held _ => 1
def uptoBulkAll {H : Type} : List (DataW H) → Nat
  | [] => 0
  | d :: r => uptoBulk d + uptoBulkAll r
def uptoBulkEntries {H : Type} : List (Lit × DataW H) → Nat
  | [] => 0
  | x :: r => uptoBulkEntry x + uptoBulkEntries r
def uptoBulkEntry {H : Type} : Lit × DataW H → Nat
  | (.string bytes, d) => bytes.length + uptoBulk d + 1
  | (_, d) => uptoBulk d + 1
 end
def uptoSmall : (H : Type) → List (DataW H) → Bool := fun _ ds => decide (uptoBulkAll ds ≤ 1048576)
def OpenSpec.upto (s : _root_.Go.ChangeSpec) : _root_.Go.OpenSpec := { _root_.Go.OpenSpec.ofChange s with cond := some uptoSmall }

/-- 'laws.FnExactPasteField', WHERE WHAT IT READS IS OF BULK AT MOST 1048576: true; the input reads as it did. -/
def fnExactPasteFieldUptoRow : OpenClaim := { program := "ytmhonhkiakjdjaa", sum := "b3f284db15540846755096bf0a2dbe4b604ac581ab088d4f27abe4a104caf7f6", func := "loop.example/g01381/laws.FnExactPasteField", spec := "fnExactPasteField", unfollowed := true, recurses := true, apart := false, narrowed := true }
def FnExactPasteFieldUptoSaid : Prop := fnExactPasteFieldUptoRow.holds Try.pinned (OpenSpec.upto fnExactPasteFieldSpec)

/-- 'laws.FnExactStepLife', WHERE WHAT IT READS IS OF BULK AT MOST 1048576: true; the input reads as it did. -/
def fnExactStepLifeUptoRow : OpenClaim := { program := "ytmhonhkiakjdjaa", sum := "b3f284db15540846755096bf0a2dbe4b604ac581ab088d4f27abe4a104caf7f6", func := "loop.example/g01381/laws.FnExactStepLife", spec := "fnExactStepLife", unfollowed := true, recurses := true, apart := false, narrowed := true }
def FnExactStepLifeUptoSaid : Prop := fnExactStepLifeUptoRow.holds Try.pinned (OpenSpec.upto fnExactStepLifeSpec)

/-- 'laws.FnExactRunLife', WHERE WHAT IT READS IS OF BULK AT MOST 1048576: true; the input reads as it did. -/
def fnExactRunLifeUptoRow : OpenClaim := { program := "ytmhonhkiakjdjaa", sum := "b3f284db15540846755096bf0a2dbe4b604ac581ab088d4f27abe4a104caf7f6", func := "loop.example/g01381/laws.FnExactRunLife", spec := "fnExactRunLife", unfollowed := true, recurses := true, apart := false, narrowed := true }
def FnExactRunLifeUptoSaid : Prop := fnExactRunLifeUptoRow.holds Try.pinned (OpenSpec.upto fnExactRunLifeSpec)

/-- 'laws.FnExactIsStill', WHERE WHAT IT READS IS OF BULK AT MOST 1048576: true; the input reads as it did. -/
def fnExactIsStillUptoRow : OpenClaim := { program := "ytmhonhkiakjdjaa", sum := "b3f284db15540846755096bf0a2dbe4b604ac581ab088d4f27abe4a104caf7f6", func := "loop.example/g01381/laws.FnExactIsStill", spec := "fnExactIsStill", unfollowed := true, recurses := true, apart := false, narrowed := true }
def FnExactIsStillUptoSaid : Prop := fnExactIsStillUptoRow.holds Try.pinned (OpenSpec.upto fnExactIsStillSpec)

/-- 'laws.FnExactIsTurnTable', WHERE WHAT IT READS IS OF BULK AT MOST 1048576: true; the input reads as it did. -/
def fnExactIsTurnTableUptoRow : OpenClaim := { program := "ytmhonhkiakjdjaa", sum := "b3f284db15540846755096bf0a2dbe4b604ac581ab088d4f27abe4a104caf7f6", func := "loop.example/g01381/laws.FnExactIsTurnTable", spec := "fnExactIsTurnTable", unfollowed := true, recurses := true, apart := false, narrowed := true }
def FnExactIsTurnTableUptoSaid : Prop := fnExactIsTurnTableUptoRow.holds Try.pinned (OpenSpec.upto fnExactIsTurnTableSpec)

/-- 'laws.FnExactBackTable', WHERE WHAT IT READS IS OF BULK AT MOST 1048576: true; the input reads as it did. -/
def fnExactBackTableUptoRow : OpenClaim := { program := "ytmhonhkiakjdjaa", sum := "b3f284db15540846755096bf0a2dbe4b604ac581ab088d4f27abe4a104caf7f6", func := "loop.example/g01381/laws.FnExactBackTable", spec := "fnExactBackTable", unfollowed := true, recurses := true, apart := false, narrowed := true }
def FnExactBackTableUptoSaid : Prop := fnExactBackTableUptoRow.holds Try.pinned (OpenSpec.upto fnExactBackTableSpec)

/-- 'laws.FnExactBlockStep', WHERE WHAT IT READS IS OF BULK AT MOST 1048576: true; the input reads as it did. -/
def fnExactBlockStepUptoRow : OpenClaim := { program := "ytmhonhkiakjdjaa", sum := "b3f284db15540846755096bf0a2dbe4b604ac581ab088d4f27abe4a104caf7f6", func := "loop.example/g01381/laws.FnExactBlockStep", spec := "fnExactBlockStep", unfollowed := true, recurses := true, apart := false, narrowed := true }
def FnExactBlockStepUptoSaid : Prop := fnExactBlockStepUptoRow.holds Try.pinned (OpenSpec.upto fnExactBlockStepSpec)

end Rows
end Go.Proofs.Ytmhonhkiakjdjaa
