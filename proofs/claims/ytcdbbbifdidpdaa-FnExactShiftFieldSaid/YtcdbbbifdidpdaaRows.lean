/-
  No cell of these rows narrows 'for every input' (looked for: loops, veiled, ifaces, maps, wideKeys, modest, calm, conditions, laid).
  DERIVED. THE GIVEN ROWS OF THIS SEAT. 12 by the template 'for every input the law returns true; each argument reads behind the call as it read before'; 0 by the template 'total and deterministic' (their statements: YtcdbbbifdidpdaaTotals.lean).
  GIVEN WITH THE SEED: the statements are not yours to turn. If you find one false, say at which input.
  Laid BY PROGRAM, IN A SANDBOX (cutbox-rows.mjs): the forced cells as the released guide's own fill.sh prints them over the translation f445b470e54503bc… (all of the seat's roots in one cut). By AI agents, Wed Nov 11 2026. No macro, syntax, notation, axiom, sorry.
-/
import Derived.Test.YtcdbbbifdidpdaaChecked
import GoSem.Claim
import GoSem.ClaimJoined
import GoSem.ClaimMapViews
import Derived.JoinedTies
import Derived.KernelRfl
namespace Go.Proofs.Ytcdbbbifdidpdaa
/- THE CELL 'sum', in the pinned program and in every row, IS THE sha256 OF THE DUMP (.gsa) THAT YtcdbbbifdidpdaaProg.lean LOADS. Nothing in Lean hashes anything: it is a label: what it is worth is what the hold of that sum in a sandbox is worth. -/
noncomputable def Try.pinned : Pinned := { name := "ytcdbbbifdidpdaa", sum := "f445b470e54503bc2f2e7e4668507f7d670818d5100621f127e4c9785a24a025", checked := Try.checked }
namespace Rows
def none {H : Type} : Left H := { results := [], args := [] }

/-- 'laws.FnExactValidField': WHATEVER THE INPUT: true; the input reads as it did. -/
def fnExactValidFieldSpec : ChangeSpec := { name := "fnExactValidField", fn := fun _ => fun
  | [d] => { results := [.lit (.bool true)], args := [d] }
  | _ => none }
def fnExactValidFieldRow : OpenClaim := { program := "ytcdbbbifdidpdaa", sum := "f445b470e54503bc2f2e7e4668507f7d670818d5100621f127e4c9785a24a025", func := "loop.example/g01381/laws.FnExactValidField", spec := "fnExactValidField", unfollowed := true, recurses := true, apart := false }
def FnExactValidFieldSaid : Prop := fnExactValidFieldRow.holds Try.pinned (OpenSpec.ofChange fnExactValidFieldSpec)

/-- ITS FALSE NEIGHBOUR: 'it returns false'. Refute it at one input. -/
def fnExactValidFieldWrong : ChangeSpec := { name := "fnExactValidField", fn := fun _ => fun
  | [d] => { results := [.lit (.bool false)], args := [d] }
  | _ => none }
def FnExactValidFieldWrongFalsely : Prop := fnExactValidFieldRow.holds Try.pinned (OpenSpec.ofChange fnExactValidFieldWrong)

/-- 'laws.FnExactSameField': WHATEVER THE INPUT: true; the input reads as it did. -/
def fnExactSameFieldSpec : ChangeSpec := { name := "fnExactSameField", fn := fun _ => fun
  | [d1, d2] => { results := [.lit (.bool true)], args := [d1, d2] }
  | _ => none }
def fnExactSameFieldRow : OpenClaim := { program := "ytcdbbbifdidpdaa", sum := "f445b470e54503bc2f2e7e4668507f7d670818d5100621f127e4c9785a24a025", func := "loop.example/g01381/laws.FnExactSameField", spec := "fnExactSameField", apart := false }
def FnExactSameFieldSaid : Prop := fnExactSameFieldRow.holds Try.pinned (OpenSpec.ofChange fnExactSameFieldSpec)

/-- ITS FALSE NEIGHBOUR: 'it returns false'. Refute it at one input. -/
def fnExactSameFieldWrong : ChangeSpec := { name := "fnExactSameField", fn := fun _ => fun
  | [d1, d2] => { results := [.lit (.bool false)], args := [d1, d2] }
  | _ => none }
def FnExactSameFieldWrongFalsely : Prop := fnExactSameFieldRow.holds Try.pinned (OpenSpec.ofChange fnExactSameFieldWrong)

/-- 'laws.FnExactNewField': WHATEVER THE INPUT: true; the input reads as it did. -/
def fnExactNewFieldSpec : ChangeSpec := { name := "fnExactNewField", fn := fun _ => fun
  | [d1, d2] => { results := [.lit (.bool true)], args := [d1, d2] }
  | _ => none }
def fnExactNewFieldRow : OpenClaim := { program := "ytcdbbbifdidpdaa", sum := "f445b470e54503bc2f2e7e4668507f7d670818d5100621f127e4c9785a24a025", func := "loop.example/g01381/laws.FnExactNewField", spec := "fnExactNewField", apart := false }
def FnExactNewFieldSaid : Prop := fnExactNewFieldRow.holds Try.pinned (OpenSpec.ofChange fnExactNewFieldSpec)

/-- ITS FALSE NEIGHBOUR: 'it returns false'. Refute it at one input. -/
def fnExactNewFieldWrong : ChangeSpec := { name := "fnExactNewField", fn := fun _ => fun
  | [d1, d2] => { results := [.lit (.bool false)], args := [d1, d2] }
  | _ => none }
def FnExactNewFieldWrongFalsely : Prop := fnExactNewFieldRow.holds Try.pinned (OpenSpec.ofChange fnExactNewFieldWrong)

/-- 'laws.FnExactCountCells': WHATEVER THE INPUT: true; the input reads as it did. -/
def fnExactCountCellsSpec : ChangeSpec := { name := "fnExactCountCells", fn := fun _ => fun
  | [d1, d2] => { results := [.lit (.bool true)], args := [d1, d2] }
  | _ => none }
def fnExactCountCellsRow : OpenClaim := { program := "ytcdbbbifdidpdaa", sum := "f445b470e54503bc2f2e7e4668507f7d670818d5100621f127e4c9785a24a025", func := "loop.example/g01381/laws.FnExactCountCells", spec := "fnExactCountCells", unfollowed := true, recurses := true, apart := false }
def FnExactCountCellsSaid : Prop := fnExactCountCellsRow.holds Try.pinned (OpenSpec.ofChange fnExactCountCellsSpec)

/-- ITS FALSE NEIGHBOUR: 'it returns false'. Refute it at one input. -/
def fnExactCountCellsWrong : ChangeSpec := { name := "fnExactCountCells", fn := fun _ => fun
  | [d1, d2] => { results := [.lit (.bool false)], args := [d1, d2] }
  | _ => none }
def FnExactCountCellsWrongFalsely : Prop := fnExactCountCellsRow.holds Try.pinned (OpenSpec.ofChange fnExactCountCellsWrong)

/-- 'laws.FnExactCellsApart': WHATEVER THE INPUT: true; the input reads as it did. -/
def fnExactCellsApartSpec : ChangeSpec := { name := "fnExactCellsApart", fn := fun _ => fun
  | [d1, d2] => { results := [.lit (.bool true)], args := [d1, d2] }
  | _ => none }
def fnExactCellsApartRow : OpenClaim := { program := "ytcdbbbifdidpdaa", sum := "f445b470e54503bc2f2e7e4668507f7d670818d5100621f127e4c9785a24a025", func := "loop.example/g01381/laws.FnExactCellsApart", spec := "fnExactCellsApart", unfollowed := true, recurses := true, apart := false }
def FnExactCellsApartSaid : Prop := fnExactCellsApartRow.holds Try.pinned (OpenSpec.ofChange fnExactCellsApartSpec)

/-- ITS FALSE NEIGHBOUR: 'it returns false'. Refute it at one input. -/
def fnExactCellsApartWrong : ChangeSpec := { name := "fnExactCellsApart", fn := fun _ => fun
  | [d1, d2] => { results := [.lit (.bool false)], args := [d1, d2] }
  | _ => none }
def FnExactCellsApartWrongFalsely : Prop := fnExactCellsApartRow.holds Try.pinned (OpenSpec.ofChange fnExactCellsApartWrong)

/-- 'laws.FnExactValidLife': WHATEVER THE INPUT: true; the input reads as it did. -/
def fnExactValidLifeSpec : ChangeSpec := { name := "fnExactValidLife", fn := fun _ => fun
  | [d] => { results := [.lit (.bool true)], args := [d] }
  | _ => none }
def fnExactValidLifeRow : OpenClaim := { program := "ytcdbbbifdidpdaa", sum := "f445b470e54503bc2f2e7e4668507f7d670818d5100621f127e4c9785a24a025", func := "loop.example/g01381/laws.FnExactValidLife", spec := "fnExactValidLife", apart := false }
def FnExactValidLifeSaid : Prop := fnExactValidLifeRow.holds Try.pinned (OpenSpec.ofChange fnExactValidLifeSpec)

/-- ITS FALSE NEIGHBOUR: 'it returns false'. Refute it at one input. -/
def fnExactValidLifeWrong : ChangeSpec := { name := "fnExactValidLife", fn := fun _ => fun
  | [d] => { results := [.lit (.bool false)], args := [d] }
  | _ => none }
def FnExactValidLifeWrongFalsely : Prop := fnExactValidLifeRow.holds Try.pinned (OpenSpec.ofChange fnExactValidLifeWrong)

/-- 'laws.FnExactSameLife': WHATEVER THE INPUT: true; the input reads as it did. -/
def fnExactSameLifeSpec : ChangeSpec := { name := "fnExactSameLife", fn := fun _ => fun
  | [d1, d2] => { results := [.lit (.bool true)], args := [d1, d2] }
  | _ => none }
def fnExactSameLifeRow : OpenClaim := { program := "ytcdbbbifdidpdaa", sum := "f445b470e54503bc2f2e7e4668507f7d670818d5100621f127e4c9785a24a025", func := "loop.example/g01381/laws.FnExactSameLife", spec := "fnExactSameLife", apart := false }
def FnExactSameLifeSaid : Prop := fnExactSameLifeRow.holds Try.pinned (OpenSpec.ofChange fnExactSameLifeSpec)

/-- ITS FALSE NEIGHBOUR: 'it returns false'. Refute it at one input. -/
def fnExactSameLifeWrong : ChangeSpec := { name := "fnExactSameLife", fn := fun _ => fun
  | [d1, d2] => { results := [.lit (.bool false)], args := [d1, d2] }
  | _ => none }
def FnExactSameLifeWrongFalsely : Prop := fnExactSameLifeRow.holds Try.pinned (OpenSpec.ofChange fnExactSameLifeWrong)

/-- 'laws.FnExactTurnField': WHATEVER THE INPUT: true; the input reads as it did. -/
def fnExactTurnFieldSpec : ChangeSpec := { name := "fnExactTurnField", fn := fun _ => fun
  | [d] => { results := [.lit (.bool true)], args := [d] }
  | _ => none }
def fnExactTurnFieldRow : OpenClaim := { program := "ytcdbbbifdidpdaa", sum := "f445b470e54503bc2f2e7e4668507f7d670818d5100621f127e4c9785a24a025", func := "loop.example/g01381/laws.FnExactTurnField", spec := "fnExactTurnField", unfollowed := true, recurses := true, apart := false }
def FnExactTurnFieldSaid : Prop := fnExactTurnFieldRow.holds Try.pinned (OpenSpec.ofChange fnExactTurnFieldSpec)

/-- ITS FALSE NEIGHBOUR: 'it returns false'. Refute it at one input. -/
def fnExactTurnFieldWrong : ChangeSpec := { name := "fnExactTurnField", fn := fun _ => fun
  | [d] => { results := [.lit (.bool false)], args := [d] }
  | _ => none }
def FnExactTurnFieldWrongFalsely : Prop := fnExactTurnFieldRow.holds Try.pinned (OpenSpec.ofChange fnExactTurnFieldWrong)

/-- 'laws.FnExactMirrorField': WHATEVER THE INPUT: true; the input reads as it did. -/
def fnExactMirrorFieldSpec : ChangeSpec := { name := "fnExactMirrorField", fn := fun _ => fun
  | [d] => { results := [.lit (.bool true)], args := [d] }
  | _ => none }
def fnExactMirrorFieldRow : OpenClaim := { program := "ytcdbbbifdidpdaa", sum := "f445b470e54503bc2f2e7e4668507f7d670818d5100621f127e4c9785a24a025", func := "loop.example/g01381/laws.FnExactMirrorField", spec := "fnExactMirrorField", unfollowed := true, recurses := true, apart := false }
def FnExactMirrorFieldSaid : Prop := fnExactMirrorFieldRow.holds Try.pinned (OpenSpec.ofChange fnExactMirrorFieldSpec)

/-- ITS FALSE NEIGHBOUR: 'it returns false'. Refute it at one input. -/
def fnExactMirrorFieldWrong : ChangeSpec := { name := "fnExactMirrorField", fn := fun _ => fun
  | [d] => { results := [.lit (.bool false)], args := [d] }
  | _ => none }
def FnExactMirrorFieldWrongFalsely : Prop := fnExactMirrorFieldRow.holds Try.pinned (OpenSpec.ofChange fnExactMirrorFieldWrong)

/-- 'laws.FnExactCutField': WHATEVER THE INPUT: true; the input reads as it did. -/
def fnExactCutFieldSpec : ChangeSpec := { name := "fnExactCutField", fn := fun _ => fun
  | [d1, d2, d3, d4, d5] => { results := [.lit (.bool true)], args := [d1, d2, d3, d4, d5] }
  | _ => none }
def fnExactCutFieldRow : OpenClaim := { program := "ytcdbbbifdidpdaa", sum := "f445b470e54503bc2f2e7e4668507f7d670818d5100621f127e4c9785a24a025", func := "loop.example/g01381/laws.FnExactCutField", spec := "fnExactCutField", unfollowed := true, recurses := true, apart := false }
def FnExactCutFieldSaid : Prop := fnExactCutFieldRow.holds Try.pinned (OpenSpec.ofChange fnExactCutFieldSpec)

/-- ITS FALSE NEIGHBOUR: 'it returns false'. Refute it at one input. -/
def fnExactCutFieldWrong : ChangeSpec := { name := "fnExactCutField", fn := fun _ => fun
  | [d1, d2, d3, d4, d5] => { results := [.lit (.bool false)], args := [d1, d2, d3, d4, d5] }
  | _ => none }
def FnExactCutFieldWrongFalsely : Prop := fnExactCutFieldRow.holds Try.pinned (OpenSpec.ofChange fnExactCutFieldWrong)

/-- 'laws.FnExactPasteField': WHATEVER THE INPUT: true; the input reads as it did. -/
def fnExactPasteFieldSpec : ChangeSpec := { name := "fnExactPasteField", fn := fun _ => fun
  | [d1, d2, d3, d4] => { results := [.lit (.bool true)], args := [d1, d2, d3, d4] }
  | _ => none }
def fnExactPasteFieldRow : OpenClaim := { program := "ytcdbbbifdidpdaa", sum := "f445b470e54503bc2f2e7e4668507f7d670818d5100621f127e4c9785a24a025", func := "loop.example/g01381/laws.FnExactPasteField", spec := "fnExactPasteField", unfollowed := true, recurses := true, apart := false }
def FnExactPasteFieldSaid : Prop := fnExactPasteFieldRow.holds Try.pinned (OpenSpec.ofChange fnExactPasteFieldSpec)

/-- ITS FALSE NEIGHBOUR: 'it returns false'. Refute it at one input. -/
def fnExactPasteFieldWrong : ChangeSpec := { name := "fnExactPasteField", fn := fun _ => fun
  | [d1, d2, d3, d4] => { results := [.lit (.bool false)], args := [d1, d2, d3, d4] }
  | _ => none }
def FnExactPasteFieldWrongFalsely : Prop := fnExactPasteFieldRow.holds Try.pinned (OpenSpec.ofChange fnExactPasteFieldWrong)

/-- 'laws.FnExactShiftField': WHATEVER THE INPUT: true; the input reads as it did. -/
def fnExactShiftFieldSpec : ChangeSpec := { name := "fnExactShiftField", fn := fun _ => fun
  | [d1, d2, d3] => { results := [.lit (.bool true)], args := [d1, d2, d3] }
  | _ => none }
def fnExactShiftFieldRow : OpenClaim := { program := "ytcdbbbifdidpdaa", sum := "f445b470e54503bc2f2e7e4668507f7d670818d5100621f127e4c9785a24a025", func := "loop.example/g01381/laws.FnExactShiftField", spec := "fnExactShiftField", unfollowed := true, recurses := true, apart := false }
def FnExactShiftFieldSaid : Prop := fnExactShiftFieldRow.holds Try.pinned (OpenSpec.ofChange fnExactShiftFieldSpec)

/-- ITS FALSE NEIGHBOUR: 'it returns false'. Refute it at one input. -/
def fnExactShiftFieldWrong : ChangeSpec := { name := "fnExactShiftField", fn := fun _ => fun
  | [d1, d2, d3] => { results := [.lit (.bool false)], args := [d1, d2, d3] }
  | _ => none }
def FnExactShiftFieldWrongFalsely : Prop := fnExactShiftFieldRow.holds Try.pinned (OpenSpec.ofChange fnExactShiftFieldWrong)

/- THE SECOND FORM. 'bulk': how many values and letters a reading holds, each counted each time it is reached (what is shared counts as often as it is met; a slice's spare places count too). A statement '..UptoSaid' is the law's where the arguments, and the package variables that the reading takes, are together of bulk at most 1048576: NARROWER than '..Said'. Prove '..Said' where nothing that the law and all that it calls make is longer than what came in: it says more and counts as full. Else prove '..UptoSaid'. A law counts once. -/
mutual
def uptoBulk {H : Type} : DataW H → Nat
  | .lit (.string bytes) => bytes.length + 1
  | .lit _ => 1
  | .nil => 1
  | .ptr d => uptoBulk d + 1
  | .slice elems spare => uptoBulkAll elems + uptoBulkAll spare + 1
  | .agg parts => uptoBulkAll parts + 1
  | .iface _ d => uptoBulk d + 1
  | .map entries => uptoBulkEntries entries + 1
  | .held _ => 1
def uptoBulkAll {H : Type} : List (DataW H) → Nat
  | [] => 0
  | d :: r => uptoBulk d + uptoBulkAll r
def uptoBulkEntries {H : Type} : List (Lit × DataW H) → Nat
  | [] => 0
  | x :: r => uptoBulkEntry x + uptoBulkEntries r
def uptoBulkEntry {H : Type} : Lit × DataW H → Nat
  | (.string bytes, d) => bytes.length + uptoBulk d + 1
  | (_, d) => uptoBulk d + 1
 end
def uptoSmall : (H : Type) → List (DataW H) → Bool := fun _ ds => decide (uptoBulkAll ds ≤ 1048576)
def OpenSpec.upto (s : _root_.Go.ChangeSpec) : _root_.Go.OpenSpec := { _root_.Go.OpenSpec.ofChange s with cond := some uptoSmall }

/-- 'laws.FnExactValidField', WHERE WHAT IT READS IS OF BULK AT MOST 1048576: true; the input reads as it did. -/
def fnExactValidFieldUptoRow : OpenClaim := { program := "ytcdbbbifdidpdaa", sum := "f445b470e54503bc2f2e7e4668507f7d670818d5100621f127e4c9785a24a025", func := "loop.example/g01381/laws.FnExactValidField", spec := "fnExactValidField", unfollowed := true, recurses := true, apart := false, narrowed := true }
def FnExactValidFieldUptoSaid : Prop := fnExactValidFieldUptoRow.holds Try.pinned (OpenSpec.upto fnExactValidFieldSpec)

/-- 'laws.FnExactSameField', WHERE WHAT IT READS IS OF BULK AT MOST 1048576: true; the input reads as it did. -/
def fnExactSameFieldUptoRow : OpenClaim := { program := "ytcdbbbifdidpdaa", sum := "f445b470e54503bc2f2e7e4668507f7d670818d5100621f127e4c9785a24a025", func := "loop.example/g01381/laws.FnExactSameField", spec := "fnExactSameField", apart := false, narrowed := true }
def FnExactSameFieldUptoSaid : Prop := fnExactSameFieldUptoRow.holds Try.pinned (OpenSpec.upto fnExactSameFieldSpec)

/-- 'laws.FnExactNewField', WHERE WHAT IT READS IS OF BULK AT MOST 1048576: true; the input reads as it did. -/
def fnExactNewFieldUptoRow : OpenClaim := { program := "ytcdbbbifdidpdaa", sum := "f445b470e54503bc2f2e7e4668507f7d670818d5100621f127e4c9785a24a025", func := "loop.example/g01381/laws.FnExactNewField", spec := "fnExactNewField", apart := false, narrowed := true }
def FnExactNewFieldUptoSaid : Prop := fnExactNewFieldUptoRow.holds Try.pinned (OpenSpec.upto fnExactNewFieldSpec)

/-- 'laws.FnExactCountCells', WHERE WHAT IT READS IS OF BULK AT MOST 1048576: true; the input reads as it did. -/
def fnExactCountCellsUptoRow : OpenClaim := { program := "ytcdbbbifdidpdaa", sum := "f445b470e54503bc2f2e7e4668507f7d670818d5100621f127e4c9785a24a025", func := "loop.example/g01381/laws.FnExactCountCells", spec := "fnExactCountCells", unfollowed := true, recurses := true, apart := false, narrowed := true }
def FnExactCountCellsUptoSaid : Prop := fnExactCountCellsUptoRow.holds Try.pinned (OpenSpec.upto fnExactCountCellsSpec)

/-- 'laws.FnExactCellsApart', WHERE WHAT IT READS IS OF BULK AT MOST 1048576: true; the input reads as it did. -/
def fnExactCellsApartUptoRow : OpenClaim := { program := "ytcdbbbifdidpdaa", sum := "f445b470e54503bc2f2e7e4668507f7d670818d5100621f127e4c9785a24a025", func := "loop.example/g01381/laws.FnExactCellsApart", spec := "fnExactCellsApart", unfollowed := true, recurses := true, apart := false, narrowed := true }
def FnExactCellsApartUptoSaid : Prop := fnExactCellsApartUptoRow.holds Try.pinned (OpenSpec.upto fnExactCellsApartSpec)

/-- 'laws.FnExactValidLife', WHERE WHAT IT READS IS OF BULK AT MOST 1048576: true; the input reads as it did. -/
def fnExactValidLifeUptoRow : OpenClaim := { program := "ytcdbbbifdidpdaa", sum := "f445b470e54503bc2f2e7e4668507f7d670818d5100621f127e4c9785a24a025", func := "loop.example/g01381/laws.FnExactValidLife", spec := "fnExactValidLife", apart := false, narrowed := true }
def FnExactValidLifeUptoSaid : Prop := fnExactValidLifeUptoRow.holds Try.pinned (OpenSpec.upto fnExactValidLifeSpec)

/-- 'laws.FnExactSameLife', WHERE WHAT IT READS IS OF BULK AT MOST 1048576: true; the input reads as it did. -/
def fnExactSameLifeUptoRow : OpenClaim := { program := "ytcdbbbifdidpdaa", sum := "f445b470e54503bc2f2e7e4668507f7d670818d5100621f127e4c9785a24a025", func := "loop.example/g01381/laws.FnExactSameLife", spec := "fnExactSameLife", apart := false, narrowed := true }
def FnExactSameLifeUptoSaid : Prop := fnExactSameLifeUptoRow.holds Try.pinned (OpenSpec.upto fnExactSameLifeSpec)

/-- 'laws.FnExactTurnField', WHERE WHAT IT READS IS OF BULK AT MOST 1048576: true; the input reads as it did. -/
def fnExactTurnFieldUptoRow : OpenClaim := { program := "ytcdbbbifdidpdaa", sum := "f445b470e54503bc2f2e7e4668507f7d670818d5100621f127e4c9785a24a025", func := "loop.example/g01381/laws.FnExactTurnField", spec := "fnExactTurnField", unfollowed := true, recurses := true, apart := false, narrowed := true }
def FnExactTurnFieldUptoSaid : Prop := fnExactTurnFieldUptoRow.holds Try.pinned (OpenSpec.upto fnExactTurnFieldSpec)

/-- 'laws.FnExactMirrorField', WHERE WHAT IT READS IS OF BULK AT MOST 1048576: true; the input reads as it did. -/
def fnExactMirrorFieldUptoRow : OpenClaim := { program := "ytcdbbbifdidpdaa", sum := "f445b470e54503bc2f2e7e4668507f7d670818d5100621f127e4c9785a24a025", func := "loop.example/g01381/laws.FnExactMirrorField", spec := "fnExactMirrorField", unfollowed := true, recurses := true, apart := false, narrowed := true }
def FnExactMirrorFieldUptoSaid : Prop := fnExactMirrorFieldUptoRow.holds Try.pinned (OpenSpec.upto fnExactMirrorFieldSpec)

/-- 'laws.FnExactCutField', WHERE WHAT IT READS IS OF BULK AT MOST 1048576: true; the input reads as it did. -/
def fnExactCutFieldUptoRow : OpenClaim := { program := "ytcdbbbifdidpdaa", sum := "f445b470e54503bc2f2e7e4668507f7d670818d5100621f127e4c9785a24a025", func := "loop.example/g01381/laws.FnExactCutField", spec := "fnExactCutField", unfollowed := true, recurses := true, apart := false, narrowed := true }
def FnExactCutFieldUptoSaid : Prop := fnExactCutFieldUptoRow.holds Try.pinned (OpenSpec.upto fnExactCutFieldSpec)

/-- 'laws.FnExactPasteField', WHERE WHAT IT READS IS OF BULK AT MOST 1048576: true; the input reads as it did. -/
def fnExactPasteFieldUptoRow : OpenClaim := { program := "ytcdbbbifdidpdaa", sum := "f445b470e54503bc2f2e7e4668507f7d670818d5100621f127e4c9785a24a025", func := "loop.example/g01381/laws.FnExactPasteField", spec := "fnExactPasteField", unfollowed := true, recurses := true, apart := false, narrowed := true }
def FnExactPasteFieldUptoSaid : Prop := fnExactPasteFieldUptoRow.holds Try.pinned (OpenSpec.upto fnExactPasteFieldSpec)

/-- 'laws.FnExactShiftField', WHERE WHAT IT READS IS OF BULK AT MOST 1048576: true; the input reads as it did. -/
def fnExactShiftFieldUptoRow : OpenClaim := { program := "ytcdbbbifdidpdaa", sum := "f445b470e54503bc2f2e7e4668507f7d670818d5100621f127e4c9785a24a025", func := "loop.example/g01381/laws.FnExactShiftField", spec := "fnExactShiftField", unfollowed := true, recurses := true, apart := false, narrowed := true }
def FnExactShiftFieldUptoSaid : Prop := fnExactShiftFieldUptoRow.holds Try.pinned (OpenSpec.upto fnExactShiftFieldSpec)

end Rows
end Go.Proofs.Ytcdbbbifdidpdaa
