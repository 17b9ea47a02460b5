/-
  NARROWER THAN 'FOR EVERY INPUT', by the rows' own cells (each row's printed sentence says how): FnExactEnergyOf: laid · FnExactWayOfGas: laid · FnExactStreamGas: laid · FnExactRunGas: laid.
  DERIVED. THE GIVEN ROWS OF THIS SEAT. 4 by the template 'for every input the law returns true; each argument reads behind the call as it read before'; 0 by the template 'total and deterministic' (their statements: YtnpjhhkhdeomcaaDoorTotals.lean).
  GIVEN WITH THE SEED: the statements are not yours to turn. If you find one false, say at which input.
  Laid BY PROGRAM, IN A SANDBOX (cutbox-rows.mjs): the forced cells as the released guide's own fill.sh prints them over the translation f2fb0a8ffea28917… (all of the seat's roots in one cut). By AI agents, Wed Nov 11 2026. No macro, syntax, notation, axiom, sorry.
-/
import Derived.Test.YtnpjhhkhdeomcaaDoorChecked
import GoSem.Claim
import GoSem.ClaimJoined
import GoSem.ClaimMapViews
import Derived.JoinedTies
import Derived.KernelRfl
namespace Go.Proofs.YtnpjhhkhdeomcaaDoor
/- THE CELL 'sum', in the pinned program and in every row, IS THE sha256 OF THE DUMP (.gsa) THAT YtnpjhhkhdeomcaaDoorProg.lean LOADS. Nothing in Lean hashes anything: it is a label: what it is worth is what the hold of that sum in a sandbox is worth. -/
noncomputable def Tryd.pinned : Pinned := { name := "ytnpjhhkhdeomcaadoor", sum := "f2fb0a8ffea28917821d16b74048ef02bfb2c1cd23cfe428b8833d873b207d61", checked := Tryd.checked }
namespace Rows
def none {H : Type} : Left H := { results := [], args := [] }

/- WHAT THE LISTED PACKAGE-LEVEL VARIABLES READ AS WHEN THE CALL BEGINS. Each datum BY PROGRAM (the guide's laid-datum.mjs) off the statement by which the dump's own 'gosem.cut.vars' lays the variable. In a bare row this is a premise. The card (YtnpjhhkhdeomcaaDoorCards.lean) ties it to the program's text. -/
def laid_loop_example_g01381_impl_fourWays {H : Type} : DataW H := .agg [.agg [.lit (.int .i64 (-1)), .lit (.int .i64 0)], .agg [.lit (.int .i64 0), .lit (.int .i64 1)], .agg [.lit (.int .i64 1), .lit (.int .i64 0)], .agg [.lit (.int .i64 0), .lit (.int .i64 (-1))]]
def laid_loop_example_g01381_impl_sixWays {H : Type} : DataW H := .agg [.agg [.lit (.int .i64 0), .lit (.int .i64 1)], .agg [.lit (.int .i64 (-1)), .lit (.int .i64 1)], .agg [.lit (.int .i64 (-1)), .lit (.int .i64 0)], .agg [.lit (.int .i64 0), .lit (.int .i64 (-1))], .agg [.lit (.int .i64 1), .lit (.int .i64 (-1))], .agg [.lit (.int .i64 1), .lit (.int .i64 0)]]

/-- 'laws.FnExactEnergyOf': WHATEVER THE INPUT: true; the input reads as it did. -/
def fnExactEnergyOfSpec : ChangeSpec := { name := "fnExactEnergyOf", vars := ["loop.example/g01381/impl.fourWays"], fn := fun _ => fun
  | [d, g1] => { results := [.lit (.bool true)], args := [d], vars := [g1] }
  | _ => none }
def fnExactEnergyOfRow : OpenClaim := { program := "ytnpjhhkhdeomcaadoor", sum := "f2fb0a8ffea28917821d16b74048ef02bfb2c1cd23cfe428b8833d873b207d61", func := "loop.example/g01381/laws.FnExactEnergyOf", spec := "fnExactEnergyOf", unfollowed := true, recurses := true, named := ["loop.example/g01381/impl.fourWays"], apart := false, laid := [("loop.example/g01381/impl.fourWays", laid_loop_example_g01381_impl_fourWays)] }
def FnExactEnergyOfSaid : Prop := fnExactEnergyOfRow.holds Tryd.pinned (OpenSpec.ofChange fnExactEnergyOfSpec)

/-- ITS FALSE NEIGHBOUR: 'it returns false'. Refute it at one input. -/
def fnExactEnergyOfWrong : ChangeSpec := { name := "fnExactEnergyOf", vars := ["loop.example/g01381/impl.fourWays"], fn := fun _ => fun
  | [d, g1] => { results := [.lit (.bool false)], args := [d], vars := [g1] }
  | _ => none }
def FnExactEnergyOfWrongFalsely : Prop := fnExactEnergyOfRow.holds Tryd.pinned (OpenSpec.ofChange fnExactEnergyOfWrong)

/-- 'laws.FnExactWayOfGas': WHATEVER THE INPUT: true; the input reads as it did. -/
def fnExactWayOfGasSpec : ChangeSpec := { name := "fnExactWayOfGas", vars := ["loop.example/g01381/impl.fourWays", "loop.example/g01381/impl.sixWays"], fn := fun _ => fun
  | [d, g1, g2] => { results := [.lit (.bool true)], args := [d], vars := [g1, g2] }
  | _ => none }
def fnExactWayOfGasRow : OpenClaim := { program := "ytnpjhhkhdeomcaadoor", sum := "f2fb0a8ffea28917821d16b74048ef02bfb2c1cd23cfe428b8833d873b207d61", func := "loop.example/g01381/laws.FnExactWayOfGas", spec := "fnExactWayOfGas", inPlace := ["math.Float64bits", "math.Float64frombits"], unfollowed := true, recurses := true, named := ["loop.example/g01381/impl.fourWays", "loop.example/g01381/impl.sixWays"], apart := false, laid := [("loop.example/g01381/impl.fourWays", laid_loop_example_g01381_impl_fourWays), ("loop.example/g01381/impl.sixWays", laid_loop_example_g01381_impl_sixWays)] }
def FnExactWayOfGasSaid : Prop := fnExactWayOfGasRow.holds Tryd.pinned (OpenSpec.ofChange fnExactWayOfGasSpec)

/-- ITS FALSE NEIGHBOUR: 'it returns false'. Refute it at one input. -/
def fnExactWayOfGasWrong : ChangeSpec := { name := "fnExactWayOfGas", vars := ["loop.example/g01381/impl.fourWays", "loop.example/g01381/impl.sixWays"], fn := fun _ => fun
  | [d, g1, g2] => { results := [.lit (.bool false)], args := [d], vars := [g1, g2] }
  | _ => none }
def FnExactWayOfGasWrongFalsely : Prop := fnExactWayOfGasRow.holds Tryd.pinned (OpenSpec.ofChange fnExactWayOfGasWrong)

/-- 'laws.FnExactStreamGas': WHATEVER THE INPUT: true; the input reads as it did. -/
def fnExactStreamGasSpec : ChangeSpec := { name := "fnExactStreamGas", vars := ["loop.example/g01381/impl.fourWays", "loop.example/g01381/impl.sixWays"], fn := fun _ => fun
  | [d, g1, g2] => { results := [.lit (.bool true)], args := [d], vars := [g1, g2] }
  | _ => none }
def fnExactStreamGasRow : OpenClaim := { program := "ytnpjhhkhdeomcaadoor", sum := "f2fb0a8ffea28917821d16b74048ef02bfb2c1cd23cfe428b8833d873b207d61", func := "loop.example/g01381/laws.FnExactStreamGas", spec := "fnExactStreamGas", inPlace := ["math.Float64bits", "math.Float64frombits"], unfollowed := true, recurses := true, named := ["loop.example/g01381/impl.fourWays", "loop.example/g01381/impl.sixWays"], apart := false, laid := [("loop.example/g01381/impl.fourWays", laid_loop_example_g01381_impl_fourWays), ("loop.example/g01381/impl.sixWays", laid_loop_example_g01381_impl_sixWays)] }
def FnExactStreamGasSaid : Prop := fnExactStreamGasRow.holds Tryd.pinned (OpenSpec.ofChange fnExactStreamGasSpec)

/-- ITS FALSE NEIGHBOUR: 'it returns false'. Refute it at one input. -/
def fnExactStreamGasWrong : ChangeSpec := { name := "fnExactStreamGas", vars := ["loop.example/g01381/impl.fourWays", "loop.example/g01381/impl.sixWays"], fn := fun _ => fun
  | [d, g1, g2] => { results := [.lit (.bool false)], args := [d], vars := [g1, g2] }
  | _ => none }
def FnExactStreamGasWrongFalsely : Prop := fnExactStreamGasRow.holds Tryd.pinned (OpenSpec.ofChange fnExactStreamGasWrong)

/-- 'laws.FnExactRunGas': WHATEVER THE INPUT: true; the input reads as it did. -/
def fnExactRunGasSpec : ChangeSpec := { name := "fnExactRunGas", vars := ["loop.example/g01381/impl.fourWays", "loop.example/g01381/impl.sixWays"], fn := fun _ => fun
  | [d1, d2, g1, g2] => { results := [.lit (.bool true)], args := [d1, d2], vars := [g1, g2] }
  | _ => none }
def fnExactRunGasRow : OpenClaim := { program := "ytnpjhhkhdeomcaadoor", sum := "f2fb0a8ffea28917821d16b74048ef02bfb2c1cd23cfe428b8833d873b207d61", func := "loop.example/g01381/laws.FnExactRunGas", spec := "fnExactRunGas", inPlace := ["math.Float64bits", "math.Float64frombits"], unfollowed := true, recurses := true, named := ["loop.example/g01381/impl.fourWays", "loop.example/g01381/impl.sixWays"], apart := false, laid := [("loop.example/g01381/impl.fourWays", laid_loop_example_g01381_impl_fourWays), ("loop.example/g01381/impl.sixWays", laid_loop_example_g01381_impl_sixWays)] }
def FnExactRunGasSaid : Prop := fnExactRunGasRow.holds Tryd.pinned (OpenSpec.ofChange fnExactRunGasSpec)

/-- ITS FALSE NEIGHBOUR: 'it returns false'. Refute it at one input. -/
def fnExactRunGasWrong : ChangeSpec := { name := "fnExactRunGas", vars := ["loop.example/g01381/impl.fourWays", "loop.example/g01381/impl.sixWays"], fn := fun _ => fun
  | [d1, d2, g1, g2] => { results := [.lit (.bool false)], args := [d1, d2], vars := [g1, g2] }
  | _ => none }
def FnExactRunGasWrongFalsely : Prop := fnExactRunGasRow.holds Tryd.pinned (OpenSpec.ofChange fnExactRunGasWrong)

/- THE SECOND FORM. 'bulk': how many values and letters a reading holds, each counted each time it is reached (what is shared counts as often as it is met; a slice's spare places count too). A statement '..UptoSaid' is the law's where the arguments, and the package variables that the reading takes, are together of bulk at most 1048576: NARROWER than '..Said'. Prove '..Said' where nothing that the law and all that it calls make is longer than what came in: it says more and counts as full. Else prove '..UptoSaid'. A law counts once. -/
mutual
def uptoBulk {H : Type} : DataW H → Nat
  | .lit (.string bytes) => bytes.length + 1
  | .lit _ => 1
  | .nil => 1
  | .ptr d => uptoBulk d + 1
  | .slice elems spare => uptoBulkAll elems + uptoBulkAll spare + 1
  | .agg parts => uptoBulkAll parts + 1
  | .iface _ d => uptoBulk d + 1
  | .map entries => uptoBulkEntries entries + 1
  | .held _ => 1
def uptoBulkAll {H : Type} : List (DataW H) → Nat
  | [] => 0
  | d :: r => uptoBulk d + uptoBulkAll r
def uptoBulkEntries {H : Type} : List (Lit × DataW H) → Nat
  | [] => 0
  | x :: r => uptoBulkEntry x + uptoBulkEntries r
def uptoBulkEntry {H : Type} : Lit × DataW H → Nat
  | (.string bytes, d) => bytes.length + uptoBulk d + 1
  | (_, d) => uptoBulk d + 1
 end
def uptoSmall : (H : Type) → List (DataW H) → Bool := fun _ ds => decide (uptoBulkAll ds ≤ 1048576)
def OpenSpec.upto (s : _root_.Go.ChangeSpec) : _root_.Go.OpenSpec := { _root_.Go.OpenSpec.ofChange s with cond := some uptoSmall }

/-- 'laws.FnExactEnergyOf', WHERE WHAT IT READS IS OF BULK AT MOST 1048576: true; the input reads as it did. -/
def fnExactEnergyOfUptoRow : OpenClaim := { program := "ytnpjhhkhdeomcaadoor", sum := "f2fb0a8ffea28917821d16b74048ef02bfb2c1cd23cfe428b8833d873b207d61", func := "loop.example/g01381/laws.FnExactEnergyOf", spec := "fnExactEnergyOf", unfollowed := true, recurses := true, named := ["loop.example/g01381/impl.fourWays"], apart := false, laid := [("loop.example/g01381/impl.fourWays", laid_loop_example_g01381_impl_fourWays)], narrowed := true }
def FnExactEnergyOfUptoSaid : Prop := fnExactEnergyOfUptoRow.holds Tryd.pinned (OpenSpec.upto fnExactEnergyOfSpec)

/-- 'laws.FnExactWayOfGas', WHERE WHAT IT READS IS OF BULK AT MOST 1048576: true; the input reads as it did. -/
def fnExactWayOfGasUptoRow : OpenClaim := { program := "ytnpjhhkhdeomcaadoor", sum := "f2fb0a8ffea28917821d16b74048ef02bfb2c1cd23cfe428b8833d873b207d61", func := "loop.example/g01381/laws.FnExactWayOfGas", spec := "fnExactWayOfGas", inPlace := ["math.Float64bits", "math.Float64frombits"], unfollowed := true, recurses := true, named := ["loop.example/g01381/impl.fourWays", "loop.example/g01381/impl.sixWays"], apart := false, laid := [("loop.example/g01381/impl.fourWays", laid_loop_example_g01381_impl_fourWays), ("loop.example/g01381/impl.sixWays", laid_loop_example_g01381_impl_sixWays)], narrowed := true }
def FnExactWayOfGasUptoSaid : Prop := fnExactWayOfGasUptoRow.holds Tryd.pinned (OpenSpec.upto fnExactWayOfGasSpec)

/-- 'laws.FnExactStreamGas', WHERE WHAT IT READS IS OF BULK AT MOST 1048576: true; the input reads as it did. -/
def fnExactStreamGasUptoRow : OpenClaim := { program := "ytnpjhhkhdeomcaadoor", sum := "f2fb0a8ffea28917821d16b74048ef02bfb2c1cd23cfe428b8833d873b207d61", func := "loop.example/g01381/laws.FnExactStreamGas", spec := "fnExactStreamGas", inPlace := ["math.Float64bits", "math.Float64frombits"], unfollowed := true, recurses := true, named := ["loop.example/g01381/impl.fourWays", "loop.example/g01381/impl.sixWays"], apart := false, laid := [("loop.example/g01381/impl.fourWays", laid_loop_example_g01381_impl_fourWays), ("loop.example/g01381/impl.sixWays", laid_loop_example_g01381_impl_sixWays)], narrowed := true }
def FnExactStreamGasUptoSaid : Prop := fnExactStreamGasUptoRow.holds Tryd.pinned (OpenSpec.upto fnExactStreamGasSpec)

/-- 'laws.FnExactRunGas', WHERE WHAT IT READS IS OF BULK AT MOST 1048576: true; the input reads as it did. -/
def fnExactRunGasUptoRow : OpenClaim := { program := "ytnpjhhkhdeomcaadoor", sum := "f2fb0a8ffea28917821d16b74048ef02bfb2c1cd23cfe428b8833d873b207d61", func := "loop.example/g01381/laws.FnExactRunGas", spec := "fnExactRunGas", inPlace := ["math.Float64bits", "math.Float64frombits"], unfollowed := true, recurses := true, named := ["loop.example/g01381/impl.fourWays", "loop.example/g01381/impl.sixWays"], apart := false, laid := [("loop.example/g01381/impl.fourWays", laid_loop_example_g01381_impl_fourWays), ("loop.example/g01381/impl.sixWays", laid_loop_example_g01381_impl_sixWays)], narrowed := true }
def FnExactRunGasUptoSaid : Prop := fnExactRunGasUptoRow.holds Tryd.pinned (OpenSpec.upto fnExactRunGasSpec)

end Rows
end Go.Proofs.YtnpjhhkhdeomcaaDoor
