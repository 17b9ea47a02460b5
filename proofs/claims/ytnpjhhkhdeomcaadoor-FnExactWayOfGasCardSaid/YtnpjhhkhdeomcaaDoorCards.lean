/-
  DERIVED. GIVEN WITH THE SEED: THE CARDS: each row of YtnpjhhkhdeomcaaDoorRows.lean that lists a variable, with what it lists TIED to the program's text (the seventh form; the later family's looks); each row that meets fmt, with fmt's text TOLD by the authors' own Lean function (tested against real Go, not proved from fmt's source: count such statements apart). THE CARD IS WHAT COUNTS. Prove the row's statement (the work); the ties are given (YtnpjhhkhdeomcaaDoorTie.lean); close each card by the builder's one call (the guide's Derived/Test/ToyasCard.lean, 'card_holds'). Laid BY PROGRAM, IN A SANDBOX (cutbox-door.mjs). By AI agents, Wed Nov 11 2026. No macro, syntax, notation, axiom, sorry.
-/
import Derived.Test.YtnpjhhkhdeomcaaDoorRows
import GoSem.ClaimSeven
namespace Go.Proofs.YtnpjhhkhdeomcaaDoor
namespace Rows

/-- THE TIED CARD OF 'laws.FnExactEnergyOf'. -/
def fnExactEnergyOfCard : Claim7 := { stood := { row := fnExactEnergyOfRow, standIns := [], harness := (true, "51c199b62997dfb89718e3f91b7dad2a95198123c9a72d266c23a7a1c388752a"), looks := true }, kinds := [], alts := [], laidByText := true, laidKinds := [.data], laidTests := true, laidLooks := .later }
def FnExactEnergyOfCardSaid : Prop := Claim7.holds Tryd.pinned (.plain (OpenSpec.ofChange fnExactEnergyOfSpec)) fnExactEnergyOfCard

/-- THE TIED CARD OF 'laws.FnExactWayOfGas'. -/
def fnExactWayOfGasCard : Claim7 := { stood := { row := fnExactWayOfGasRow, standIns := [], harness := (true, "51c199b62997dfb89718e3f91b7dad2a95198123c9a72d266c23a7a1c388752a"), looks := true }, kinds := [], alts := [], laidByText := true, laidKinds := [.data, .data], laidTests := true, laidLooks := .later }
def FnExactWayOfGasCardSaid : Prop := Claim7.holds Tryd.pinned (.plain (OpenSpec.ofChange fnExactWayOfGasSpec)) fnExactWayOfGasCard

/-- THE TIED CARD OF 'laws.FnExactStreamGas'. -/
def fnExactStreamGasCard : Claim7 := { stood := { row := fnExactStreamGasRow, standIns := [], harness := (true, "51c199b62997dfb89718e3f91b7dad2a95198123c9a72d266c23a7a1c388752a"), looks := true }, kinds := [], alts := [], laidByText := true, laidKinds := [.data, .data], laidTests := true, laidLooks := .later }
def FnExactStreamGasCardSaid : Prop := Claim7.holds Tryd.pinned (.plain (OpenSpec.ofChange fnExactStreamGasSpec)) fnExactStreamGasCard

/-- THE TIED CARD OF 'laws.FnExactRunGas'. -/
def fnExactRunGasCard : Claim7 := { stood := { row := fnExactRunGasRow, standIns := [], harness := (true, "51c199b62997dfb89718e3f91b7dad2a95198123c9a72d266c23a7a1c388752a"), looks := true }, kinds := [], alts := [], laidByText := true, laidKinds := [.data, .data], laidTests := true, laidLooks := .later }
def FnExactRunGasCardSaid : Prop := Claim7.holds Tryd.pinned (.plain (OpenSpec.ofChange fnExactRunGasSpec)) fnExactRunGasCard

/-- THE SECOND FORM's CARD OF 'laws.FnExactEnergyOf'. -/
def fnExactEnergyOfUptoCard : Claim7 := { stood := { row := fnExactEnergyOfUptoRow, standIns := [], harness := (true, "51c199b62997dfb89718e3f91b7dad2a95198123c9a72d266c23a7a1c388752a"), looks := true }, kinds := [], alts := [], laidByText := true, laidKinds := [.data], laidTests := true, laidLooks := .later }
def FnExactEnergyOfUptoCardSaid : Prop := Claim7.holds Tryd.pinned (.plain (OpenSpec.upto fnExactEnergyOfSpec)) fnExactEnergyOfUptoCard

/-- THE SECOND FORM's CARD OF 'laws.FnExactWayOfGas'. -/
def fnExactWayOfGasUptoCard : Claim7 := { stood := { row := fnExactWayOfGasUptoRow, standIns := [], harness := (true, "51c199b62997dfb89718e3f91b7dad2a95198123c9a72d266c23a7a1c388752a"), looks := true }, kinds := [], alts := [], laidByText := true, laidKinds := [.data, .data], laidTests := true, laidLooks := .later }
def FnExactWayOfGasUptoCardSaid : Prop := Claim7.holds Tryd.pinned (.plain (OpenSpec.upto fnExactWayOfGasSpec)) fnExactWayOfGasUptoCard

/-- THE SECOND FORM's CARD OF 'laws.FnExactStreamGas'. -/
def fnExactStreamGasUptoCard : Claim7 := { stood := { row := fnExactStreamGasUptoRow, standIns := [], harness := (true, "51c199b62997dfb89718e3f91b7dad2a95198123c9a72d266c23a7a1c388752a"), looks := true }, kinds := [], alts := [], laidByText := true, laidKinds := [.data, .data], laidTests := true, laidLooks := .later }
def FnExactStreamGasUptoCardSaid : Prop := Claim7.holds Tryd.pinned (.plain (OpenSpec.upto fnExactStreamGasSpec)) fnExactStreamGasUptoCard

/-- THE SECOND FORM's CARD OF 'laws.FnExactRunGas'. -/
def fnExactRunGasUptoCard : Claim7 := { stood := { row := fnExactRunGasUptoRow, standIns := [], harness := (true, "51c199b62997dfb89718e3f91b7dad2a95198123c9a72d266c23a7a1c388752a"), looks := true }, kinds := [], alts := [], laidByText := true, laidKinds := [.data, .data], laidTests := true, laidLooks := .later }
def FnExactRunGasUptoCardSaid : Prop := Claim7.holds Tryd.pinned (.plain (OpenSpec.upto fnExactRunGasSpec)) fnExactRunGasUptoCard
end Rows
end Go.Proofs.YtnpjhhkhdeomcaaDoor
