/-
  No cell of these rows narrows 'for every input' (looked for: loops, veiled, ifaces, maps, wideKeys, modest, calm, conditions, laid).
  DERIVED. THE GIVEN ROWS OF THIS SEAT. 8 by the template 'for every input the law returns true; each argument reads behind the call as it read before'; 0 by the template 'total and deterministic' (their statements: YtmbimekndhcgaaaTotals.lean).
  GIVEN WITH THE SEED: the statements are not yours to turn. If you find one false, say at which input.
  Laid BY PROGRAM, IN A SANDBOX (cutbox-rows.mjs): the forced cells as the released guide's own fill.sh prints them over the translation c67f134746074d88… (all of the seat's roots in one cut). By AI agents, Wed Nov 11 2026. No macro, syntax, notation, axiom, sorry.
-/
import Derived.Test.YtmbimekndhcgaaaChecked
import GoSem.Claim
import GoSem.ClaimJoined
import GoSem.ClaimMapViews
import Derived.JoinedTies
import Derived.KernelRfl
namespace Go.Proofs.Ytmbimekndhcgaaa
/- THE CELL 'sum', in the pinned program and in every row, IS THE sha256 OF THE DUMP (.gsa) THAT YtmbimekndhcgaaaProg.lean LOADS. Nothing in Lean hashes anything: it is a label: what it is worth is what the hold of that sum in a sandbox is worth. -/
noncomputable def Try.pinned : Pinned := { name := "ytmbimekndhcgaaa", sum := "c67f134746074d88e999471a63c46f1a46d3fed9a5f7f5064ba6663a59aa0b22", checked := Try.checked }
namespace Rows
def none {H : Type} : Left H := { results := [], args := [] }

/-- 'laws.FnExactTurnField': WHATEVER THE INPUT: true; the input reads as it did. -/
def fnExactTurnFieldSpec : ChangeSpec := { name := "fnExactTurnField", fn := fun _ => fun
  | [d] => { results := [.lit (.bool true)], args := [d] }
  | _ => none }
def fnExactTurnFieldRow : OpenClaim := { program := "ytmbimekndhcgaaa", sum := "c67f134746074d88e999471a63c46f1a46d3fed9a5f7f5064ba6663a59aa0b22", func := "loop.example/g01381/laws.FnExactTurnField", spec := "fnExactTurnField", unfollowed := true, recurses := true, apart := false }
def FnExactTurnFieldSaid : Prop := fnExactTurnFieldRow.holds Try.pinned (OpenSpec.ofChange fnExactTurnFieldSpec)

/-- ITS FALSE NEIGHBOUR: 'it returns false'. Refute it at one input. -/
def fnExactTurnFieldWrong : ChangeSpec := { name := "fnExactTurnField", fn := fun _ => fun
  | [d] => { results := [.lit (.bool false)], args := [d] }
  | _ => none }
def FnExactTurnFieldWrongFalsely : Prop := fnExactTurnFieldRow.holds Try.pinned (OpenSpec.ofChange fnExactTurnFieldWrong)

/-- 'laws.FnExactMirrorField': WHATEVER THE INPUT: true; the input reads as it did. -/
def fnExactMirrorFieldSpec : ChangeSpec := { name := "fnExactMirrorField", fn := fun _ => fun
  | [d] => { results := [.lit (.bool true)], args := [d] }
  | _ => none }
def fnExactMirrorFieldRow : OpenClaim := { program := "ytmbimekndhcgaaa", sum := "c67f134746074d88e999471a63c46f1a46d3fed9a5f7f5064ba6663a59aa0b22", func := "loop.example/g01381/laws.FnExactMirrorField", spec := "fnExactMirrorField", unfollowed := true, recurses := true, apart := false }
def FnExactMirrorFieldSaid : Prop := fnExactMirrorFieldRow.holds Try.pinned (OpenSpec.ofChange fnExactMirrorFieldSpec)

/-- ITS FALSE NEIGHBOUR: 'it returns false'. Refute it at one input. -/
def fnExactMirrorFieldWrong : ChangeSpec := { name := "fnExactMirrorField", fn := fun _ => fun
  | [d] => { results := [.lit (.bool false)], args := [d] }
  | _ => none }
def FnExactMirrorFieldWrongFalsely : Prop := fnExactMirrorFieldRow.holds Try.pinned (OpenSpec.ofChange fnExactMirrorFieldWrong)

/-- 'laws.FnExactGrowField': WHATEVER THE INPUT: true; the input reads as it did. -/
def fnExactGrowFieldSpec : ChangeSpec := { name := "fnExactGrowField", fn := fun _ => fun
  | [d1, d2] => { results := [.lit (.bool true)], args := [d1, d2] }
  | _ => none }
def fnExactGrowFieldRow : OpenClaim := { program := "ytmbimekndhcgaaa", sum := "c67f134746074d88e999471a63c46f1a46d3fed9a5f7f5064ba6663a59aa0b22", func := "loop.example/g01381/laws.FnExactGrowField", spec := "fnExactGrowField", unfollowed := true, recurses := true, apart := false }
def FnExactGrowFieldSaid : Prop := fnExactGrowFieldRow.holds Try.pinned (OpenSpec.ofChange fnExactGrowFieldSpec)

/-- ITS FALSE NEIGHBOUR: 'it returns false'. Refute it at one input. -/
def fnExactGrowFieldWrong : ChangeSpec := { name := "fnExactGrowField", fn := fun _ => fun
  | [d1, d2] => { results := [.lit (.bool false)], args := [d1, d2] }
  | _ => none }
def FnExactGrowFieldWrongFalsely : Prop := fnExactGrowFieldRow.holds Try.pinned (OpenSpec.ofChange fnExactGrowFieldWrong)

/-- 'laws.FnExactTrimField': WHATEVER THE INPUT: true; the input reads as it did. -/
def fnExactTrimFieldSpec : ChangeSpec := { name := "fnExactTrimField", fn := fun _ => fun
  | [d] => { results := [.lit (.bool true)], args := [d] }
  | _ => none }
def fnExactTrimFieldRow : OpenClaim := { program := "ytmbimekndhcgaaa", sum := "c67f134746074d88e999471a63c46f1a46d3fed9a5f7f5064ba6663a59aa0b22", func := "loop.example/g01381/laws.FnExactTrimField", spec := "fnExactTrimField", unfollowed := true, recurses := true, apart := false }
def FnExactTrimFieldSaid : Prop := fnExactTrimFieldRow.holds Try.pinned (OpenSpec.ofChange fnExactTrimFieldSpec)

/-- ITS FALSE NEIGHBOUR: 'it returns false'. Refute it at one input. -/
def fnExactTrimFieldWrong : ChangeSpec := { name := "fnExactTrimField", fn := fun _ => fun
  | [d] => { results := [.lit (.bool false)], args := [d] }
  | _ => none }
def FnExactTrimFieldWrongFalsely : Prop := fnExactTrimFieldRow.holds Try.pinned (OpenSpec.ofChange fnExactTrimFieldWrong)

/-- 'laws.FnExactMeetFields': WHATEVER THE INPUT: true; the input reads as it did. -/
def fnExactMeetFieldsSpec : ChangeSpec := { name := "fnExactMeetFields", fn := fun _ => fun
  | [d1, d2, d3, d4] => { results := [.lit (.bool true)], args := [d1, d2, d3, d4] }
  | _ => none }
def fnExactMeetFieldsRow : OpenClaim := { program := "ytmbimekndhcgaaa", sum := "c67f134746074d88e999471a63c46f1a46d3fed9a5f7f5064ba6663a59aa0b22", func := "loop.example/g01381/laws.FnExactMeetFields", spec := "fnExactMeetFields", unfollowed := true, recurses := true, apart := false }
def FnExactMeetFieldsSaid : Prop := fnExactMeetFieldsRow.holds Try.pinned (OpenSpec.ofChange fnExactMeetFieldsSpec)

/-- ITS FALSE NEIGHBOUR: 'it returns false'. Refute it at one input. -/
def fnExactMeetFieldsWrong : ChangeSpec := { name := "fnExactMeetFields", fn := fun _ => fun
  | [d1, d2, d3, d4] => { results := [.lit (.bool false)], args := [d1, d2, d3, d4] }
  | _ => none }
def FnExactMeetFieldsWrongFalsely : Prop := fnExactMeetFieldsRow.holds Try.pinned (OpenSpec.ofChange fnExactMeetFieldsWrong)

/-- 'laws.FnExactInnerStep': WHATEVER THE INPUT: true; the input reads as it did. -/
def fnExactInnerStepSpec : ChangeSpec := { name := "fnExactInnerStep", fn := fun _ => fun
  | [d1, d2] => { results := [.lit (.bool true)], args := [d1, d2] }
  | _ => none }
def fnExactInnerStepRow : OpenClaim := { program := "ytmbimekndhcgaaa", sum := "c67f134746074d88e999471a63c46f1a46d3fed9a5f7f5064ba6663a59aa0b22", func := "loop.example/g01381/laws.FnExactInnerStep", spec := "fnExactInnerStep", unfollowed := true, recurses := true, apart := false }
def FnExactInnerStepSaid : Prop := fnExactInnerStepRow.holds Try.pinned (OpenSpec.ofChange fnExactInnerStepSpec)

/-- ITS FALSE NEIGHBOUR: 'it returns false'. Refute it at one input. -/
def fnExactInnerStepWrong : ChangeSpec := { name := "fnExactInnerStep", fn := fun _ => fun
  | [d1, d2] => { results := [.lit (.bool false)], args := [d1, d2] }
  | _ => none }
def FnExactInnerStepWrongFalsely : Prop := fnExactInnerStepRow.holds Try.pinned (OpenSpec.ofChange fnExactInnerStepWrong)

/-- 'laws.FnExactCountsAhead': WHATEVER THE INPUT: true; the input reads as it did. -/
def fnExactCountsAheadSpec : ChangeSpec := { name := "fnExactCountsAhead", fn := fun _ => fun
  | [d1, d2, d3, d4] => { results := [.lit (.bool true)], args := [d1, d2, d3, d4] }
  | _ => none }
def fnExactCountsAheadRow : OpenClaim := { program := "ytmbimekndhcgaaa", sum := "c67f134746074d88e999471a63c46f1a46d3fed9a5f7f5064ba6663a59aa0b22", func := "loop.example/g01381/laws.FnExactCountsAhead", spec := "fnExactCountsAhead", unfollowed := true, recurses := true, apart := false }
def FnExactCountsAheadSaid : Prop := fnExactCountsAheadRow.holds Try.pinned (OpenSpec.ofChange fnExactCountsAheadSpec)

/-- ITS FALSE NEIGHBOUR: 'it returns false'. Refute it at one input. -/
def fnExactCountsAheadWrong : ChangeSpec := { name := "fnExactCountsAhead", fn := fun _ => fun
  | [d1, d2, d3, d4] => { results := [.lit (.bool false)], args := [d1, d2, d3, d4] }
  | _ => none }
def FnExactCountsAheadWrongFalsely : Prop := fnExactCountsAheadRow.holds Try.pinned (OpenSpec.ofChange fnExactCountsAheadWrong)

/-- 'laws.FnExactImagesOfField': WHATEVER THE INPUT: true; the input reads as it did. -/
def fnExactImagesOfFieldSpec : ChangeSpec := { name := "fnExactImagesOfField", fn := fun _ => fun
  | [d] => { results := [.lit (.bool true)], args := [d] }
  | _ => none }
def fnExactImagesOfFieldRow : OpenClaim := { program := "ytmbimekndhcgaaa", sum := "c67f134746074d88e999471a63c46f1a46d3fed9a5f7f5064ba6663a59aa0b22", func := "loop.example/g01381/laws.FnExactImagesOfField", spec := "fnExactImagesOfField", unfollowed := true, recurses := true, apart := false }
def FnExactImagesOfFieldSaid : Prop := fnExactImagesOfFieldRow.holds Try.pinned (OpenSpec.ofChange fnExactImagesOfFieldSpec)

/-- ITS FALSE NEIGHBOUR: 'it returns false'. Refute it at one input. -/
def fnExactImagesOfFieldWrong : ChangeSpec := { name := "fnExactImagesOfField", fn := fun _ => fun
  | [d] => { results := [.lit (.bool false)], args := [d] }
  | _ => none }
def FnExactImagesOfFieldWrongFalsely : Prop := fnExactImagesOfFieldRow.holds Try.pinned (OpenSpec.ofChange fnExactImagesOfFieldWrong)

/- THE SECOND FORM. 'bulk': how many values and letters a reading holds, each counted each time it is reached (what is shared counts as often as it is met; a slice's spare places count too). A statement '..UptoSaid' is the law's where the arguments, and the package variables that the reading takes, are together of bulk at most 1048576: NARROWER than '..Said'. Prove '..Said' where nothing that the law and all that it calls make is longer than what came in: it says more and counts as full. Else prove '..UptoSaid'. A law counts once. -/
mutual
def uptoBulk {H : Type} : DataW H → Nat
  | .lit (.string bytes) => bytes.length + 1
  | .lit _ => 1
  | .nil => 1
  | .ptr d => uptoBulk d + 1
  | .slice elems spare => uptoBulkAll elems + uptoBulkAll spare + 1
  | .agg parts => uptoBulkAll parts + 1
  | .iface _ d => uptoBulk d + 1
  | .map entries => uptoBulkEntries entries + 1
  | .held _ => 1
def uptoBulkAll {H : Type} : List (DataW H) → Nat
  | [] => 0
  | d :: r => uptoBulk d + uptoBulkAll r
def uptoBulkEntries {H : Type} : List (Lit × DataW H) → Nat
  | [] => 0
  | x :: r => uptoBulkEntry x + uptoBulkEntries r
def uptoBulkEntry {H : Type} : Lit × DataW H → Nat
  | (.string bytes, d) => bytes.length + uptoBulk d + 1
  | (_, d) => uptoBulk d + 1
 end
def uptoSmall : (H : Type) → List (DataW H) → Bool := fun _ ds => decide (uptoBulkAll ds ≤ 1048576)
def OpenSpec.upto (s : _root_.Go.ChangeSpec) : _root_.Go.OpenSpec := { _root_.Go.OpenSpec.ofChange s with cond := some uptoSmall }

/-- 'laws.FnExactTurnField', WHERE WHAT IT READS IS OF BULK AT MOST 1048576: true; the input reads as it did. -/
def fnExactTurnFieldUptoRow : OpenClaim := { program := "ytmbimekndhcgaaa", sum := "c67f134746074d88e999471a63c46f1a46d3fed9a5f7f5064ba6663a59aa0b22", func := "loop.example/g01381/laws.FnExactTurnField", spec := "fnExactTurnField", unfollowed := true, recurses := true, apart := false, narrowed := true }
def FnExactTurnFieldUptoSaid : Prop := fnExactTurnFieldUptoRow.holds Try.pinned (OpenSpec.upto fnExactTurnFieldSpec)

/-- 'laws.FnExactMirrorField', WHERE WHAT IT READS IS OF BULK AT MOST 1048576: true; the input reads as it did. -/
def fnExactMirrorFieldUptoRow : OpenClaim := { program := "ytmbimekndhcgaaa", sum := "c67f134746074d88e999471a63c46f1a46d3fed9a5f7f5064ba6663a59aa0b22", func := "loop.example/g01381/laws.FnExactMirrorField", spec := "fnExactMirrorField", unfollowed := true, recurses := true, apart := false, narrowed := true }
def FnExactMirrorFieldUptoSaid : Prop := fnExactMirrorFieldUptoRow.holds Try.pinned (OpenSpec.upto fnExactMirrorFieldSpec)

/-- 'laws.FnExactGrowField', WHERE WHAT IT READS IS OF BULK AT MOST 1048576: true; the input reads as it did. -/
def fnExactGrowFieldUptoRow : OpenClaim := { program := "ytmbimekndhcgaaa", sum := "c67f134746074d88e999471a63c46f1a46d3fed9a5f7f5064ba6663a59aa0b22", func := "loop.example/g01381/laws.FnExactGrowField", spec := "fnExactGrowField", unfollowed := true, recurses := true, apart := false, narrowed := true }
def FnExactGrowFieldUptoSaid : Prop := fnExactGrowFieldUptoRow.holds Try.pinned (OpenSpec.upto fnExactGrowFieldSpec)

/-- 'laws.FnExactTrimField', WHERE WHAT IT READS IS OF BULK AT MOST 1048576: true; the input reads as it did. -/
def fnExactTrimFieldUptoRow : OpenClaim := { program := "ytmbimekndhcgaaa", sum := "c67f134746074d88e999471a63c46f1a46d3fed9a5f7f5064ba6663a59aa0b22", func := "loop.example/g01381/laws.FnExactTrimField", spec := "fnExactTrimField", unfollowed := true, recurses := true, apart := false, narrowed := true }
def FnExactTrimFieldUptoSaid : Prop := fnExactTrimFieldUptoRow.holds Try.pinned (OpenSpec.upto fnExactTrimFieldSpec)

/-- 'laws.FnExactMeetFields', WHERE WHAT IT READS IS OF BULK AT MOST 1048576: true; the input reads as it did. -/
def fnExactMeetFieldsUptoRow : OpenClaim := { program := "ytmbimekndhcgaaa", sum := "c67f134746074d88e999471a63c46f1a46d3fed9a5f7f5064ba6663a59aa0b22", func := "loop.example/g01381/laws.FnExactMeetFields", spec := "fnExactMeetFields", unfollowed := true, recurses := true, apart := false, narrowed := true }
def FnExactMeetFieldsUptoSaid : Prop := fnExactMeetFieldsUptoRow.holds Try.pinned (OpenSpec.upto fnExactMeetFieldsSpec)

/-- 'laws.FnExactInnerStep', WHERE WHAT IT READS IS OF BULK AT MOST 1048576: true; the input reads as it did. -/
def fnExactInnerStepUptoRow : OpenClaim := { program := "ytmbimekndhcgaaa", sum := "c67f134746074d88e999471a63c46f1a46d3fed9a5f7f5064ba6663a59aa0b22", func := "loop.example/g01381/laws.FnExactInnerStep", spec := "fnExactInnerStep", unfollowed := true, recurses := true, apart := false, narrowed := true }
def FnExactInnerStepUptoSaid : Prop := fnExactInnerStepUptoRow.holds Try.pinned (OpenSpec.upto fnExactInnerStepSpec)

/-- 'laws.FnExactCountsAhead', WHERE WHAT IT READS IS OF BULK AT MOST 1048576: true; the input reads as it did. -/
def fnExactCountsAheadUptoRow : OpenClaim := { program := "ytmbimekndhcgaaa", sum := "c67f134746074d88e999471a63c46f1a46d3fed9a5f7f5064ba6663a59aa0b22", func := "loop.example/g01381/laws.FnExactCountsAhead", spec := "fnExactCountsAhead", unfollowed := true, recurses := true, apart := false, narrowed := true }
def FnExactCountsAheadUptoSaid : Prop := fnExactCountsAheadUptoRow.holds Try.pinned (OpenSpec.upto fnExactCountsAheadSpec)

/-- 'laws.FnExactImagesOfField', WHERE WHAT IT READS IS OF BULK AT MOST 1048576: true; the input reads as it did. -/
def fnExactImagesOfFieldUptoRow : OpenClaim := { program := "ytmbimekndhcgaaa", sum := "c67f134746074d88e999471a63c46f1a46d3fed9a5f7f5064ba6663a59aa0b22", func := "loop.example/g01381/laws.FnExactImagesOfField", spec := "fnExactImagesOfField", unfollowed := true, recurses := true, apart := false, narrowed := true }
def FnExactImagesOfFieldUptoSaid : Prop := fnExactImagesOfFieldUptoRow.holds Try.pinned (OpenSpec.upto fnExactImagesOfFieldSpec)

end Rows
end Go.Proofs.Ytmbimekndhcgaaa
