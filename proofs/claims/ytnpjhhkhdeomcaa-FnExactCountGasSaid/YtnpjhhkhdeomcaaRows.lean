/-
  No cell of these rows narrows 'for every input' (looked for: loops, veiled, ifaces, maps, wideKeys, modest, calm, conditions, laid).
  DERIVED. THE GIVEN ROWS OF THIS SEAT. 7 by the template 'for every input the law returns true; each argument reads behind the call as it read before'; 0 by the template 'total and deterministic' (their statements: YtnpjhhkhdeomcaaTotals.lean).
  GIVEN WITH THE SEED: the statements are not yours to turn. If you find one false, say at which input.
  Laid BY PROGRAM, IN A SANDBOX (cutbox-rows.mjs): the forced cells as the released guide's own fill.sh prints them over the translation 0ae2f967f5aa36af… (all of the seat's roots in one cut). By AI agents, Wed Nov 11 2026. No macro, syntax, notation, axiom, sorry.
-/
import Derived.Test.YtnpjhhkhdeomcaaChecked
import GoSem.Claim
import GoSem.ClaimJoined
import GoSem.ClaimMapViews
import Derived.JoinedTies
import Derived.KernelRfl
namespace Go.Proofs.Ytnpjhhkhdeomcaa
/- THE CELL 'sum', in the pinned program and in every row, IS THE sha256 OF THE DUMP (.gsa) THAT YtnpjhhkhdeomcaaProg.lean LOADS. Nothing in Lean hashes anything: it is a label: what it is worth is what the hold of that sum in a sandbox is worth. -/
noncomputable def Try.pinned : Pinned := { name := "ytnpjhhkhdeomcaa", sum := "0ae2f967f5aa36afb2c9939bf1646eb3e0cdb4753eebf75de83e9881a4d153e0", checked := Try.checked }
namespace Rows
def none {H : Type} : Left H := { results := [], args := [] }

/-- 'laws.FnExactIsLane': WHATEVER THE INPUT: true; the input reads as it did. -/
def fnExactIsLaneSpec : ChangeSpec := { name := "fnExactIsLane", fn := fun _ => fun
  | [d] => { results := [.lit (.bool true)], args := [d] }
  | _ => none }
def fnExactIsLaneRow : OpenClaim := { program := "ytnpjhhkhdeomcaa", sum := "0ae2f967f5aa36afb2c9939bf1646eb3e0cdb4753eebf75de83e9881a4d153e0", func := "loop.example/g01381/laws.FnExactIsLane", spec := "fnExactIsLane", unfollowed := true, recurses := true, apart := false }
def FnExactIsLaneSaid : Prop := fnExactIsLaneRow.holds Try.pinned (OpenSpec.ofChange fnExactIsLaneSpec)

/-- ITS FALSE NEIGHBOUR: 'it returns false'. Refute it at one input. -/
def fnExactIsLaneWrong : ChangeSpec := { name := "fnExactIsLane", fn := fun _ => fun
  | [d] => { results := [.lit (.bool false)], args := [d] }
  | _ => none }
def FnExactIsLaneWrongFalsely : Prop := fnExactIsLaneRow.holds Try.pinned (OpenSpec.ofChange fnExactIsLaneWrong)

/-- 'laws.FnExactValidGas': WHATEVER THE INPUT: true; the input reads as it did. -/
def fnExactValidGasSpec : ChangeSpec := { name := "fnExactValidGas", fn := fun _ => fun
  | [d] => { results := [.lit (.bool true)], args := [d] }
  | _ => none }
def fnExactValidGasRow : OpenClaim := { program := "ytnpjhhkhdeomcaa", sum := "0ae2f967f5aa36afb2c9939bf1646eb3e0cdb4753eebf75de83e9881a4d153e0", func := "loop.example/g01381/laws.FnExactValidGas", spec := "fnExactValidGas", inPlace := ["math.Float64bits", "math.Float64frombits"], unfollowed := true, recurses := true, apart := false }
def FnExactValidGasSaid : Prop := fnExactValidGasRow.holds Try.pinned (OpenSpec.ofChange fnExactValidGasSpec)

/-- ITS FALSE NEIGHBOUR: 'it returns false'. Refute it at one input. -/
def fnExactValidGasWrong : ChangeSpec := { name := "fnExactValidGas", fn := fun _ => fun
  | [d] => { results := [.lit (.bool false)], args := [d] }
  | _ => none }
def FnExactValidGasWrongFalsely : Prop := fnExactValidGasRow.holds Try.pinned (OpenSpec.ofChange fnExactValidGasWrong)

/-- 'laws.FnExactSameGas': WHATEVER THE INPUT: true; the input reads as it did. -/
def fnExactSameGasSpec : ChangeSpec := { name := "fnExactSameGas", fn := fun _ => fun
  | [d1, d2] => { results := [.lit (.bool true)], args := [d1, d2] }
  | _ => none }
def fnExactSameGasRow : OpenClaim := { program := "ytnpjhhkhdeomcaa", sum := "0ae2f967f5aa36afb2c9939bf1646eb3e0cdb4753eebf75de83e9881a4d153e0", func := "loop.example/g01381/laws.FnExactSameGas", spec := "fnExactSameGas", apart := false }
def FnExactSameGasSaid : Prop := fnExactSameGasRow.holds Try.pinned (OpenSpec.ofChange fnExactSameGasSpec)

/-- ITS FALSE NEIGHBOUR: 'it returns false'. Refute it at one input. -/
def fnExactSameGasWrong : ChangeSpec := { name := "fnExactSameGas", fn := fun _ => fun
  | [d1, d2] => { results := [.lit (.bool false)], args := [d1, d2] }
  | _ => none }
def FnExactSameGasWrongFalsely : Prop := fnExactSameGasRow.holds Try.pinned (OpenSpec.ofChange fnExactSameGasWrong)

/-- 'laws.FnExactCountGas': WHATEVER THE INPUT: true; the input reads as it did. -/
def fnExactCountGasSpec : ChangeSpec := { name := "fnExactCountGas", fn := fun _ => fun
  | [d] => { results := [.lit (.bool true)], args := [d] }
  | _ => none }
def fnExactCountGasRow : OpenClaim := { program := "ytnpjhhkhdeomcaa", sum := "0ae2f967f5aa36afb2c9939bf1646eb3e0cdb4753eebf75de83e9881a4d153e0", func := "loop.example/g01381/laws.FnExactCountGas", spec := "fnExactCountGas", inPlace := ["math.Float64bits", "math.Float64frombits"], unfollowed := true, recurses := true, apart := false }
def FnExactCountGasSaid : Prop := fnExactCountGasRow.holds Try.pinned (OpenSpec.ofChange fnExactCountGasSpec)

/-- ITS FALSE NEIGHBOUR: 'it returns false'. Refute it at one input. -/
def fnExactCountGasWrong : ChangeSpec := { name := "fnExactCountGas", fn := fun _ => fun
  | [d] => { results := [.lit (.bool false)], args := [d] }
  | _ => none }
def FnExactCountGasWrongFalsely : Prop := fnExactCountGasRow.holds Try.pinned (OpenSpec.ofChange fnExactCountGasWrong)

/-- 'laws.FnExactReverseGas': WHATEVER THE INPUT: true; the input reads as it did. -/
def fnExactReverseGasSpec : ChangeSpec := { name := "fnExactReverseGas", fn := fun _ => fun
  | [d] => { results := [.lit (.bool true)], args := [d] }
  | _ => none }
def fnExactReverseGasRow : OpenClaim := { program := "ytnpjhhkhdeomcaa", sum := "0ae2f967f5aa36afb2c9939bf1646eb3e0cdb4753eebf75de83e9881a4d153e0", func := "loop.example/g01381/laws.FnExactReverseGas", spec := "fnExactReverseGas", inPlace := ["math.Float64bits", "math.Float64frombits"], unfollowed := true, recurses := true, apart := false }
def FnExactReverseGasSaid : Prop := fnExactReverseGasRow.holds Try.pinned (OpenSpec.ofChange fnExactReverseGasSpec)

/-- ITS FALSE NEIGHBOUR: 'it returns false'. Refute it at one input. -/
def fnExactReverseGasWrong : ChangeSpec := { name := "fnExactReverseGas", fn := fun _ => fun
  | [d] => { results := [.lit (.bool false)], args := [d] }
  | _ => none }
def FnExactReverseGasWrongFalsely : Prop := fnExactReverseGasRow.holds Try.pinned (OpenSpec.ofChange fnExactReverseGasWrong)

/-- 'laws.FnExactCollideGas': WHATEVER THE INPUT: true; the input reads as it did. -/
def fnExactCollideGasSpec : ChangeSpec := { name := "fnExactCollideGas", fn := fun _ => fun
  | [d1, d2] => { results := [.lit (.bool true)], args := [d1, d2] }
  | _ => none }
def fnExactCollideGasRow : OpenClaim := { program := "ytnpjhhkhdeomcaa", sum := "0ae2f967f5aa36afb2c9939bf1646eb3e0cdb4753eebf75de83e9881a4d153e0", func := "loop.example/g01381/laws.FnExactCollideGas", spec := "fnExactCollideGas", inPlace := ["math.Float64bits", "math.Float64frombits"], unfollowed := true, recurses := true, apart := false }
def FnExactCollideGasSaid : Prop := fnExactCollideGasRow.holds Try.pinned (OpenSpec.ofChange fnExactCollideGasSpec)

/-- ITS FALSE NEIGHBOUR: 'it returns false'. Refute it at one input. -/
def fnExactCollideGasWrong : ChangeSpec := { name := "fnExactCollideGas", fn := fun _ => fun
  | [d1, d2] => { results := [.lit (.bool false)], args := [d1, d2] }
  | _ => none }
def FnExactCollideGasWrongFalsely : Prop := fnExactCollideGasRow.holds Try.pinned (OpenSpec.ofChange fnExactCollideGasWrong)

/-- 'laws.FnExactDenseBlocks': WHATEVER THE INPUT: true; the input reads as it did. -/
def fnExactDenseBlocksSpec : ChangeSpec := { name := "fnExactDenseBlocks", fn := fun _ => fun
  | [d1, d2, d3] => { results := [.lit (.bool true)], args := [d1, d2, d3] }
  | _ => none }
def fnExactDenseBlocksRow : OpenClaim := { program := "ytnpjhhkhdeomcaa", sum := "0ae2f967f5aa36afb2c9939bf1646eb3e0cdb4753eebf75de83e9881a4d153e0", func := "loop.example/g01381/laws.FnExactDenseBlocks", spec := "fnExactDenseBlocks", inPlace := ["math.Float64bits", "math.Float64frombits"], unfollowed := true, recurses := true, apart := false }
def FnExactDenseBlocksSaid : Prop := fnExactDenseBlocksRow.holds Try.pinned (OpenSpec.ofChange fnExactDenseBlocksSpec)

/-- ITS FALSE NEIGHBOUR: 'it returns false'. Refute it at one input. -/
def fnExactDenseBlocksWrong : ChangeSpec := { name := "fnExactDenseBlocks", fn := fun _ => fun
  | [d1, d2, d3] => { results := [.lit (.bool false)], args := [d1, d2, d3] }
  | _ => none }
def FnExactDenseBlocksWrongFalsely : Prop := fnExactDenseBlocksRow.holds Try.pinned (OpenSpec.ofChange fnExactDenseBlocksWrong)

/- THE SECOND FORM. 'bulk': how many values and letters a reading holds, each counted each time it is reached (what is shared counts as often as it is met; a slice's spare places count too). A statement '..UptoSaid' is the law's where the arguments, and the package variables that the reading takes, are together of bulk at most 1048576: NARROWER than '..Said'. Prove '..Said' where nothing that the law and all that it calls make is longer than what came in: it says more and counts as full. Else prove '..UptoSaid'. A law counts once. -/
mutual
def uptoBulk {H : Type} : DataW H → Nat
  | .lit (.string bytes) => bytes.length + 1
  | .lit _ => 1
  | .nil => 1
  | .ptr d => uptoBulk d + 1
  | .slice elems spare => uptoBulkAll elems + uptoBulkAll spare + 1
  | .agg parts => uptoBulkAll parts + 1
  | .iface _ d => uptoBulk d + 1
  | .map entries => uptoBulkEntries entries + 1
  | .held _ => 1
def uptoBulkAll {H : Type} : List (DataW H) → Nat
  | [] => 0
  | d :: r => uptoBulk d + uptoBulkAll r
def uptoBulkEntries {H : Type} : List (Lit × DataW H) → Nat
  | [] => 0
  | x :: r => uptoBulkEntry x + uptoBulkEntries r
def uptoBulkEntry {H : Type} : Lit × DataW H → Nat
  | (.string bytes, d) => bytes.length + uptoBulk d + 1
  | (_, d) => uptoBulk d + 1
 end
def uptoSmall : (H : Type) → List (DataW H) → Bool := fun _ ds => decide (uptoBulkAll ds ≤ 1048576)
def OpenSpec.upto (s : _root_.Go.ChangeSpec) : _root_.Go.OpenSpec := { _root_.Go.OpenSpec.ofChange s with cond := some uptoSmall }

/-- 'laws.FnExactIsLane', WHERE WHAT IT READS IS OF BULK AT MOST 1048576: true; the input reads as it did. -/
def fnExactIsLaneUptoRow : OpenClaim := { program := "ytnpjhhkhdeomcaa", sum := "0ae2f967f5aa36afb2c9939bf1646eb3e0cdb4753eebf75de83e9881a4d153e0", func := "loop.example/g01381/laws.FnExactIsLane", spec := "fnExactIsLane", unfollowed := true, recurses := true, apart := false, narrowed := true }
def FnExactIsLaneUptoSaid : Prop := fnExactIsLaneUptoRow.holds Try.pinned (OpenSpec.upto fnExactIsLaneSpec)

/-- 'laws.FnExactValidGas', WHERE WHAT IT READS IS OF BULK AT MOST 1048576: true; the input reads as it did. -/
def fnExactValidGasUptoRow : OpenClaim := { program := "ytnpjhhkhdeomcaa", sum := "0ae2f967f5aa36afb2c9939bf1646eb3e0cdb4753eebf75de83e9881a4d153e0", func := "loop.example/g01381/laws.FnExactValidGas", spec := "fnExactValidGas", inPlace := ["math.Float64bits", "math.Float64frombits"], unfollowed := true, recurses := true, apart := false, narrowed := true }
def FnExactValidGasUptoSaid : Prop := fnExactValidGasUptoRow.holds Try.pinned (OpenSpec.upto fnExactValidGasSpec)

/-- 'laws.FnExactSameGas', WHERE WHAT IT READS IS OF BULK AT MOST 1048576: true; the input reads as it did. -/
def fnExactSameGasUptoRow : OpenClaim := { program := "ytnpjhhkhdeomcaa", sum := "0ae2f967f5aa36afb2c9939bf1646eb3e0cdb4753eebf75de83e9881a4d153e0", func := "loop.example/g01381/laws.FnExactSameGas", spec := "fnExactSameGas", apart := false, narrowed := true }
def FnExactSameGasUptoSaid : Prop := fnExactSameGasUptoRow.holds Try.pinned (OpenSpec.upto fnExactSameGasSpec)

/-- 'laws.FnExactCountGas', WHERE WHAT IT READS IS OF BULK AT MOST 1048576: true; the input reads as it did. -/
def fnExactCountGasUptoRow : OpenClaim := { program := "ytnpjhhkhdeomcaa", sum := "0ae2f967f5aa36afb2c9939bf1646eb3e0cdb4753eebf75de83e9881a4d153e0", func := "loop.example/g01381/laws.FnExactCountGas", spec := "fnExactCountGas", inPlace := ["math.Float64bits", "math.Float64frombits"], unfollowed := true, recurses := true, apart := false, narrowed := true }
def FnExactCountGasUptoSaid : Prop := fnExactCountGasUptoRow.holds Try.pinned (OpenSpec.upto fnExactCountGasSpec)

/-- 'laws.FnExactReverseGas', WHERE WHAT IT READS IS OF BULK AT MOST 1048576: true; the input reads as it did. -/
def fnExactReverseGasUptoRow : OpenClaim := { program := "ytnpjhhkhdeomcaa", sum := "0ae2f967f5aa36afb2c9939bf1646eb3e0cdb4753eebf75de83e9881a4d153e0", func := "loop.example/g01381/laws.FnExactReverseGas", spec := "fnExactReverseGas", inPlace := ["math.Float64bits", "math.Float64frombits"], unfollowed := true, recurses := true, apart := false, narrowed := true }
def FnExactReverseGasUptoSaid : Prop := fnExactReverseGasUptoRow.holds Try.pinned (OpenSpec.upto fnExactReverseGasSpec)

/-- 'laws.FnExactCollideGas', WHERE WHAT IT READS IS OF BULK AT MOST 1048576: true; the input reads as it did. -/
def fnExactCollideGasUptoRow : OpenClaim := { program := "ytnpjhhkhdeomcaa", sum := "0ae2f967f5aa36afb2c9939bf1646eb3e0cdb4753eebf75de83e9881a4d153e0", func := "loop.example/g01381/laws.FnExactCollideGas", spec := "fnExactCollideGas", inPlace := ["math.Float64bits", "math.Float64frombits"], unfollowed := true, recurses := true, apart := false, narrowed := true }
def FnExactCollideGasUptoSaid : Prop := fnExactCollideGasUptoRow.holds Try.pinned (OpenSpec.upto fnExactCollideGasSpec)

/-- 'laws.FnExactDenseBlocks', WHERE WHAT IT READS IS OF BULK AT MOST 1048576: true; the input reads as it did. -/
def fnExactDenseBlocksUptoRow : OpenClaim := { program := "ytnpjhhkhdeomcaa", sum := "0ae2f967f5aa36afb2c9939bf1646eb3e0cdb4753eebf75de83e9881a4d153e0", func := "loop.example/g01381/laws.FnExactDenseBlocks", spec := "fnExactDenseBlocks", inPlace := ["math.Float64bits", "math.Float64frombits"], unfollowed := true, recurses := true, apart := false, narrowed := true }
def FnExactDenseBlocksUptoSaid : Prop := fnExactDenseBlocksUptoRow.holds Try.pinned (OpenSpec.upto fnExactDenseBlocksSpec)

end Rows
end Go.Proofs.Ytnpjhhkhdeomcaa
