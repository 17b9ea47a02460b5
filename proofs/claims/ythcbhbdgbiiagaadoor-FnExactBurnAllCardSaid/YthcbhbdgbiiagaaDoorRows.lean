/-
  NARROWER THAN 'FOR EVERY INPUT', by the rows' own cells (each row's printed sentence says how): FnExactExciteStep: laid · FnExactExciteRun: laid · FnExactFireStep: laid · FnExactBurnAll: laid.
  DERIVED. THE GIVEN ROWS OF THIS SEAT. 4 by the template 'for every input the law returns true; each argument reads behind the call as it read before'; 0 by the template 'total and deterministic' (their statements: YthcbhbdgbiiagaaDoorTotals.lean).
  GIVEN WITH THE SEED: the statements are not yours to turn. If you find one false, say at which input.
  Laid BY PROGRAM, IN A SANDBOX (cutbox-rows.mjs): the forced cells as the released guide's own fill.sh prints them over the translation d2563bec9211a8d2… (all of the seat's roots in one cut). By AI agents, Wed Nov 11 2026. No macro, syntax, notation, axiom, sorry.
-/
import Derived.Test.YthcbhbdgbiiagaaDoorChecked
import GoSem.Claim
import GoSem.ClaimJoined
import GoSem.ClaimMapViews
import Derived.JoinedTies
import Derived.KernelRfl
namespace Go.Proofs.YthcbhbdgbiiagaaDoor
/- THE CELL 'sum', in the pinned program and in every row, IS THE sha256 OF THE DUMP (.gsa) THAT YthcbhbdgbiiagaaDoorProg.lean LOADS. Nothing in Lean hashes anything: it is a label: what it is worth is what the hold of that sum in a sandbox is worth. -/
noncomputable def Tryd.pinned : Pinned := { name := "ythcbhbdgbiiagaadoor", sum := "d2563bec9211a8d24753274e199e56f58aa86c7b758f482c42e13f05490fb895", checked := Tryd.checked }
namespace Rows
def none {H : Type} : Left H := { results := [], args := [] }

/- WHAT THE LISTED PACKAGE-LEVEL VARIABLES READ AS WHEN THE CALL BEGINS. Each datum BY PROGRAM (the guide's laid-datum.mjs) off the statement by which the dump's own 'gosem.cut.vars' lays the variable. In a bare row this is a premise. The card (YthcbhbdgbiiagaaDoorCards.lean) ties it to the program's text. -/
def laid_loop_example_g01381_impl_fourWays {H : Type} : DataW H := .agg [.agg [.lit (.int .i64 (-1)), .lit (.int .i64 0)], .agg [.lit (.int .i64 0), .lit (.int .i64 1)], .agg [.lit (.int .i64 1), .lit (.int .i64 0)], .agg [.lit (.int .i64 0), .lit (.int .i64 (-1))]]

/-- 'laws.FnExactExciteStep': WHATEVER THE INPUT: true; the input reads as it did. -/
def fnExactExciteStepSpec : ChangeSpec := { name := "fnExactExciteStep", vars := ["loop.example/g01381/impl.fourWays"], fn := fun _ => fun
  | [d1, d2, d3, d4, g1] => { results := [.lit (.bool true)], args := [d1, d2, d3, d4], vars := [g1] }
  | _ => none }
def fnExactExciteStepRow : OpenClaim := { program := "ythcbhbdgbiiagaadoor", sum := "d2563bec9211a8d24753274e199e56f58aa86c7b758f482c42e13f05490fb895", func := "loop.example/g01381/laws.FnExactExciteStep", spec := "fnExactExciteStep", unfollowed := true, recurses := true, named := ["loop.example/g01381/impl.fourWays"], apart := false, laid := [("loop.example/g01381/impl.fourWays", laid_loop_example_g01381_impl_fourWays)] }
def FnExactExciteStepSaid : Prop := fnExactExciteStepRow.holds Tryd.pinned (OpenSpec.ofChange fnExactExciteStepSpec)

/-- ITS FALSE NEIGHBOUR: 'it returns false'. Refute it at one input. -/
def fnExactExciteStepWrong : ChangeSpec := { name := "fnExactExciteStep", vars := ["loop.example/g01381/impl.fourWays"], fn := fun _ => fun
  | [d1, d2, d3, d4, g1] => { results := [.lit (.bool false)], args := [d1, d2, d3, d4], vars := [g1] }
  | _ => none }
def FnExactExciteStepWrongFalsely : Prop := fnExactExciteStepRow.holds Tryd.pinned (OpenSpec.ofChange fnExactExciteStepWrong)

/-- 'laws.FnExactExciteRun': WHATEVER THE INPUT: true; the input reads as it did. -/
def fnExactExciteRunSpec : ChangeSpec := { name := "fnExactExciteRun", vars := ["loop.example/g01381/impl.fourWays"], fn := fun _ => fun
  | [d1, d2, d3, d4, d5, g1] => { results := [.lit (.bool true)], args := [d1, d2, d3, d4, d5], vars := [g1] }
  | _ => none }
def fnExactExciteRunRow : OpenClaim := { program := "ythcbhbdgbiiagaadoor", sum := "d2563bec9211a8d24753274e199e56f58aa86c7b758f482c42e13f05490fb895", func := "loop.example/g01381/laws.FnExactExciteRun", spec := "fnExactExciteRun", unfollowed := true, recurses := true, named := ["loop.example/g01381/impl.fourWays"], apart := false, laid := [("loop.example/g01381/impl.fourWays", laid_loop_example_g01381_impl_fourWays)] }
def FnExactExciteRunSaid : Prop := fnExactExciteRunRow.holds Tryd.pinned (OpenSpec.ofChange fnExactExciteRunSpec)

/-- ITS FALSE NEIGHBOUR: 'it returns false'. Refute it at one input. -/
def fnExactExciteRunWrong : ChangeSpec := { name := "fnExactExciteRun", vars := ["loop.example/g01381/impl.fourWays"], fn := fun _ => fun
  | [d1, d2, d3, d4, d5, g1] => { results := [.lit (.bool false)], args := [d1, d2, d3, d4, d5], vars := [g1] }
  | _ => none }
def FnExactExciteRunWrongFalsely : Prop := fnExactExciteRunRow.holds Tryd.pinned (OpenSpec.ofChange fnExactExciteRunWrong)

/-- 'laws.FnExactFireStep': WHATEVER THE INPUT: true; the input reads as it did. -/
def fnExactFireStepSpec : ChangeSpec := { name := "fnExactFireStep", vars := ["loop.example/g01381/impl.fourWays"], fn := fun _ => fun
  | [d, g1] => { results := [.lit (.bool true)], args := [d], vars := [g1] }
  | _ => none }
def fnExactFireStepRow : OpenClaim := { program := "ythcbhbdgbiiagaadoor", sum := "d2563bec9211a8d24753274e199e56f58aa86c7b758f482c42e13f05490fb895", func := "loop.example/g01381/laws.FnExactFireStep", spec := "fnExactFireStep", unfollowed := true, recurses := true, named := ["loop.example/g01381/impl.fourWays"], apart := false, laid := [("loop.example/g01381/impl.fourWays", laid_loop_example_g01381_impl_fourWays)] }
def FnExactFireStepSaid : Prop := fnExactFireStepRow.holds Tryd.pinned (OpenSpec.ofChange fnExactFireStepSpec)

/-- ITS FALSE NEIGHBOUR: 'it returns false'. Refute it at one input. -/
def fnExactFireStepWrong : ChangeSpec := { name := "fnExactFireStep", vars := ["loop.example/g01381/impl.fourWays"], fn := fun _ => fun
  | [d, g1] => { results := [.lit (.bool false)], args := [d], vars := [g1] }
  | _ => none }
def FnExactFireStepWrongFalsely : Prop := fnExactFireStepRow.holds Tryd.pinned (OpenSpec.ofChange fnExactFireStepWrong)

/-- 'laws.FnExactBurnAll': WHATEVER THE INPUT: true; the input reads as it did. -/
def fnExactBurnAllSpec : ChangeSpec := { name := "fnExactBurnAll", vars := ["loop.example/g01381/impl.fourWays"], fn := fun _ => fun
  | [d, g1] => { results := [.lit (.bool true)], args := [d], vars := [g1] }
  | _ => none }
def fnExactBurnAllRow : OpenClaim := { program := "ythcbhbdgbiiagaadoor", sum := "d2563bec9211a8d24753274e199e56f58aa86c7b758f482c42e13f05490fb895", func := "loop.example/g01381/laws.FnExactBurnAll", spec := "fnExactBurnAll", unfollowed := true, recurses := true, named := ["loop.example/g01381/impl.fourWays"], apart := false, laid := [("loop.example/g01381/impl.fourWays", laid_loop_example_g01381_impl_fourWays)] }
def FnExactBurnAllSaid : Prop := fnExactBurnAllRow.holds Tryd.pinned (OpenSpec.ofChange fnExactBurnAllSpec)

/-- ITS FALSE NEIGHBOUR: 'it returns false'. Refute it at one input. -/
def fnExactBurnAllWrong : ChangeSpec := { name := "fnExactBurnAll", vars := ["loop.example/g01381/impl.fourWays"], fn := fun _ => fun
  | [d, g1] => { results := [.lit (.bool false)], args := [d], vars := [g1] }
  | _ => none }
def FnExactBurnAllWrongFalsely : Prop := fnExactBurnAllRow.holds Tryd.pinned (OpenSpec.ofChange fnExactBurnAllWrong)

/- THE SECOND FORM. 'bulk': how many values and letters a reading holds, each counted each time it is reached (what is shared counts as often as it is met; a slice's spare places count too). A statement '..UptoSaid' is the law's where the arguments, and the package variables that the reading takes, are together of bulk at most 1048576: NARROWER than '..Said'. Prove '..Said' where nothing that the law and all that it calls make is longer than what came in: it says more and counts as full. Else prove '..UptoSaid'. A law counts once. -/
mutual
def uptoBulk {H : Type} : DataW H → Nat
  | .lit (.string bytes) => bytes.length + 1
  | .lit _ => 1
  | .nil => 1
  | .ptr d => uptoBulk d + 1
  | .slice elems spare => uptoBulkAll elems + uptoBulkAll spare + 1
  | .agg parts => uptoBulkAll parts + 1
  | .iface _ d => uptoBulk d + 1
  | .map entries => uptoBulkEntries entries + 1
  | .held _ => 1
def uptoBulkAll {H : Type} : List (DataW H) → Nat
  | [] => 0
  | d :: r => uptoBulk d + uptoBulkAll r
def uptoBulkEntries {H : Type} : List (Lit × DataW H) → Nat
  | [] => 0
  | x :: r => uptoBulkEntry x + uptoBulkEntries r
def uptoBulkEntry {H : Type} : Lit × DataW H → Nat
  | (.string bytes, d) => bytes.length + uptoBulk d + 1
  | (_, d) => uptoBulk d + 1
 end
def uptoSmall : (H : Type) → List (DataW H) → Bool := fun _ ds => decide (uptoBulkAll ds ≤ 1048576)
def OpenSpec.upto (s : _root_.Go.ChangeSpec) : _root_.Go.OpenSpec := { _root_.Go.OpenSpec.ofChange s with cond := some uptoSmall }

/-- 'laws.FnExactExciteStep', WHERE WHAT IT READS IS OF BULK AT MOST 1048576: true; the input reads as it did. -/
def fnExactExciteStepUptoRow : OpenClaim := { program := "ythcbhbdgbiiagaadoor", sum := "d2563bec9211a8d24753274e199e56f58aa86c7b758f482c42e13f05490fb895", func := "loop.example/g01381/laws.FnExactExciteStep", spec := "fnExactExciteStep", unfollowed := true, recurses := true, named := ["loop.example/g01381/impl.fourWays"], apart := false, laid := [("loop.example/g01381/impl.fourWays", laid_loop_example_g01381_impl_fourWays)], narrowed := true }
def FnExactExciteStepUptoSaid : Prop := fnExactExciteStepUptoRow.holds Tryd.pinned (OpenSpec.upto fnExactExciteStepSpec)

/-- 'laws.FnExactExciteRun', WHERE WHAT IT READS IS OF BULK AT MOST 1048576: true; the input reads as it did. -/
def fnExactExciteRunUptoRow : OpenClaim := { program := "ythcbhbdgbiiagaadoor", sum := "d2563bec9211a8d24753274e199e56f58aa86c7b758f482c42e13f05490fb895", func := "loop.example/g01381/laws.FnExactExciteRun", spec := "fnExactExciteRun", unfollowed := true, recurses := true, named := ["loop.example/g01381/impl.fourWays"], apart := false, laid := [("loop.example/g01381/impl.fourWays", laid_loop_example_g01381_impl_fourWays)], narrowed := true }
def FnExactExciteRunUptoSaid : Prop := fnExactExciteRunUptoRow.holds Tryd.pinned (OpenSpec.upto fnExactExciteRunSpec)

/-- 'laws.FnExactFireStep', WHERE WHAT IT READS IS OF BULK AT MOST 1048576: true; the input reads as it did. -/
def fnExactFireStepUptoRow : OpenClaim := { program := "ythcbhbdgbiiagaadoor", sum := "d2563bec9211a8d24753274e199e56f58aa86c7b758f482c42e13f05490fb895", func := "loop.example/g01381/laws.FnExactFireStep", spec := "fnExactFireStep", unfollowed := true, recurses := true, named := ["loop.example/g01381/impl.fourWays"], apart := false, laid := [("loop.example/g01381/impl.fourWays", laid_loop_example_g01381_impl_fourWays)], narrowed := true }
def FnExactFireStepUptoSaid : Prop := fnExactFireStepUptoRow.holds Tryd.pinned (OpenSpec.upto fnExactFireStepSpec)

/-- 'laws.FnExactBurnAll', WHERE WHAT IT READS IS OF BULK AT MOST 1048576: true; the input reads as it did. -/
def fnExactBurnAllUptoRow : OpenClaim := { program := "ythcbhbdgbiiagaadoor", sum := "d2563bec9211a8d24753274e199e56f58aa86c7b758f482c42e13f05490fb895", func := "loop.example/g01381/laws.FnExactBurnAll", spec := "fnExactBurnAll", unfollowed := true, recurses := true, named := ["loop.example/g01381/impl.fourWays"], apart := false, laid := [("loop.example/g01381/impl.fourWays", laid_loop_example_g01381_impl_fourWays)], narrowed := true }
def FnExactBurnAllUptoSaid : Prop := fnExactBurnAllUptoRow.holds Tryd.pinned (OpenSpec.upto fnExactBurnAllSpec)

end Rows
end Go.Proofs.YthcbhbdgbiiagaaDoor
