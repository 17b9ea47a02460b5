/-
  DERIVED. GIVEN WITH THE SEED: THE PROGRAM's TIES (one call each: nine closed facts by the kernel) AND EACH ROW's TIE, after the 31st guide's Derived/Test/Toyas{Tie, Card}.lean. No idea stands in it: it is a product of the set-up. Laid BY PROGRAM, IN A SANDBOX (cutbox-door.mjs). By AI agents, Wed Nov 11 2026. No macro, syntax, notation, axiom, sorry.
-/
import Derived.Test.YtnpjhhkhdeomcaaDoorRows
import Derived.LaidByTextLater
import Derived.SevenTiedAt
import Derived.LaidSub
import Derived.LaidOnce
namespace Go.Proofs.YtnpjhhkhdeomcaaDoor
open Go
set_option maxRecDepth 100000
theorem seatTie1 : Tryd.prog.laidByTextLater [("loop.example/g01381/impl.fourWays", Rows.laid_loop_example_g01381_impl_fourWays), ("loop.example/g01381/impl.sixWays", Rows.laid_loop_example_g01381_impl_sixWays)] [.data, .data] true :=
  Program.laidByTextLater_by_one 29 8 13 (by kernel_rfl) (by kernel_rfl) (by kernel_rfl) (by kernel_rfl) (by kernel_rfl) (by kernel_rfl) (fun _ _ => by kernel_rfl)
theorem noOwnUnsafe : Tryd.pinned.checked.prog.headLifts.contains "ownunsafe" = false := by kernel_rfl
theorem tie : Tryd.prog.laidByTextLater [("loop.example/g01381/impl.fourWays", Rows.laid_loop_example_g01381_impl_fourWays)] [.data] true :=
  Program.laidByTextLater.sub seatTie1 ["loop.example/g01381/impl.fourWays"] (by kernel_rfl) (by kernel_rfl)
theorem fnExactEnergyOf_row_tie : Rows.fnExactEnergyOfRow.laidByTextAt .later Tryd.pinned [.data] true :=
  OpenClaim.laidByTextAt_later rfl rfl tie noOwnUnsafe
theorem tie2 : Tryd.prog.laidByTextLater [("loop.example/g01381/impl.fourWays", Rows.laid_loop_example_g01381_impl_fourWays), ("loop.example/g01381/impl.sixWays", Rows.laid_loop_example_g01381_impl_sixWays)] [.data, .data] true :=
  Program.laidByTextLater.sub seatTie1 ["loop.example/g01381/impl.fourWays", "loop.example/g01381/impl.sixWays"] (by kernel_rfl) (by kernel_rfl)
theorem fnExactWayOfGas_row_tie : Rows.fnExactWayOfGasRow.laidByTextAt .later Tryd.pinned [.data, .data] true :=
  OpenClaim.laidByTextAt_later rfl rfl tie2 noOwnUnsafe
theorem fnExactStreamGas_row_tie : Rows.fnExactStreamGasRow.laidByTextAt .later Tryd.pinned [.data, .data] true :=
  OpenClaim.laidByTextAt_later rfl rfl tie2 noOwnUnsafe
theorem fnExactRunGas_row_tie : Rows.fnExactRunGasRow.laidByTextAt .later Tryd.pinned [.data, .data] true :=
  OpenClaim.laidByTextAt_later rfl rfl tie2 noOwnUnsafe
theorem fnExactEnergyOfUpto_row_tie : Rows.fnExactEnergyOfUptoRow.laidByTextAt .later Tryd.pinned [.data] true :=
  OpenClaim.laidByTextAt_later rfl rfl tie noOwnUnsafe
theorem fnExactWayOfGasUpto_row_tie : Rows.fnExactWayOfGasUptoRow.laidByTextAt .later Tryd.pinned [.data, .data] true :=
  OpenClaim.laidByTextAt_later rfl rfl tie2 noOwnUnsafe
theorem fnExactStreamGasUpto_row_tie : Rows.fnExactStreamGasUptoRow.laidByTextAt .later Tryd.pinned [.data, .data] true :=
  OpenClaim.laidByTextAt_later rfl rfl tie2 noOwnUnsafe
theorem fnExactRunGasUpto_row_tie : Rows.fnExactRunGasUptoRow.laidByTextAt .later Tryd.pinned [.data, .data] true :=
  OpenClaim.laidByTextAt_later rfl rfl tie2 noOwnUnsafe
end Go.Proofs.YtnpjhhkhdeomcaaDoor
