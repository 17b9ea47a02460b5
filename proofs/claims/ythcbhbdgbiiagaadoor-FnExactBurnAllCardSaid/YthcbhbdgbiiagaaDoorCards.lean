/-
  DERIVED. GIVEN WITH THE SEED: THE CARDS: each row of YthcbhbdgbiiagaaDoorRows.lean that lists a variable, with what it lists TIED to the program's text (the seventh form; the later family's looks); each row that meets fmt, with fmt's text TOLD by the authors' own Lean function (tested against real Go, not proved from fmt's source: count such statements apart). THE CARD IS WHAT COUNTS. Prove the row's statement (the work); the ties are given (YthcbhbdgbiiagaaDoorTie.lean); close each card by the builder's one call (the guide's Derived/Test/ToyasCard.lean, 'card_holds'). Laid BY PROGRAM, IN A SANDBOX (cutbox-door.mjs). By AI agents, Wed Nov 11 2026. No macro, syntax, notation, axiom, sorry.
-/
import Derived.Test.YthcbhbdgbiiagaaDoorRows
import GoSem.ClaimSeven
namespace Go.Proofs.YthcbhbdgbiiagaaDoor
namespace Rows

/-- THE TIED CARD OF 'laws.FnExactExciteStep'. -/
def fnExactExciteStepCard : Claim7 := { stood := { row := fnExactExciteStepRow, standIns := [], harness := (true, "2c9de440e56edeab93e9f3278cfefd0afc7c4a044d34e65c4d12cc95e0d408c3"), looks := false }, kinds := [], alts := [], laidByText := true, laidKinds := [.data], laidTests := true, laidLooks := .later }
def FnExactExciteStepCardSaid : Prop := Claim7.holds Tryd.pinned (.plain (OpenSpec.ofChange fnExactExciteStepSpec)) fnExactExciteStepCard

/-- THE TIED CARD OF 'laws.FnExactExciteRun'. -/
def fnExactExciteRunCard : Claim7 := { stood := { row := fnExactExciteRunRow, standIns := [], harness := (true, "2c9de440e56edeab93e9f3278cfefd0afc7c4a044d34e65c4d12cc95e0d408c3"), looks := false }, kinds := [], alts := [], laidByText := true, laidKinds := [.data], laidTests := true, laidLooks := .later }
def FnExactExciteRunCardSaid : Prop := Claim7.holds Tryd.pinned (.plain (OpenSpec.ofChange fnExactExciteRunSpec)) fnExactExciteRunCard

/-- THE TIED CARD OF 'laws.FnExactFireStep'. -/
def fnExactFireStepCard : Claim7 := { stood := { row := fnExactFireStepRow, standIns := [], harness := (true, "2c9de440e56edeab93e9f3278cfefd0afc7c4a044d34e65c4d12cc95e0d408c3"), looks := false }, kinds := [], alts := [], laidByText := true, laidKinds := [.data], laidTests := true, laidLooks := .later }
def FnExactFireStepCardSaid : Prop := Claim7.holds Tryd.pinned (.plain (OpenSpec.ofChange fnExactFireStepSpec)) fnExactFireStepCard

/-- THE TIED CARD OF 'laws.FnExactBurnAll'. -/
def fnExactBurnAllCard : Claim7 := { stood := { row := fnExactBurnAllRow, standIns := [], harness := (true, "2c9de440e56edeab93e9f3278cfefd0afc7c4a044d34e65c4d12cc95e0d408c3"), looks := false }, kinds := [], alts := [], laidByText := true, laidKinds := [.data], laidTests := true, laidLooks := .later }
def FnExactBurnAllCardSaid : Prop := Claim7.holds Tryd.pinned (.plain (OpenSpec.ofChange fnExactBurnAllSpec)) fnExactBurnAllCard

/-- THE SECOND FORM's CARD OF 'laws.FnExactExciteStep'. -/
def fnExactExciteStepUptoCard : Claim7 := { stood := { row := fnExactExciteStepUptoRow, standIns := [], harness := (true, "2c9de440e56edeab93e9f3278cfefd0afc7c4a044d34e65c4d12cc95e0d408c3"), looks := false }, kinds := [], alts := [], laidByText := true, laidKinds := [.data], laidTests := true, laidLooks := .later }
def FnExactExciteStepUptoCardSaid : Prop := Claim7.holds Tryd.pinned (.plain (OpenSpec.upto fnExactExciteStepSpec)) fnExactExciteStepUptoCard

/-- THE SECOND FORM's CARD OF 'laws.FnExactExciteRun'. -/
def fnExactExciteRunUptoCard : Claim7 := { stood := { row := fnExactExciteRunUptoRow, standIns := [], harness := (true, "2c9de440e56edeab93e9f3278cfefd0afc7c4a044d34e65c4d12cc95e0d408c3"), looks := false }, kinds := [], alts := [], laidByText := true, laidKinds := [.data], laidTests := true, laidLooks := .later }
def FnExactExciteRunUptoCardSaid : Prop := Claim7.holds Tryd.pinned (.plain (OpenSpec.upto fnExactExciteRunSpec)) fnExactExciteRunUptoCard

/-- THE SECOND FORM's CARD OF 'laws.FnExactFireStep'. -/
def fnExactFireStepUptoCard : Claim7 := { stood := { row := fnExactFireStepUptoRow, standIns := [], harness := (true, "2c9de440e56edeab93e9f3278cfefd0afc7c4a044d34e65c4d12cc95e0d408c3"), looks := false }, kinds := [], alts := [], laidByText := true, laidKinds := [.data], laidTests := true, laidLooks := .later }
def FnExactFireStepUptoCardSaid : Prop := Claim7.holds Tryd.pinned (.plain (OpenSpec.upto fnExactFireStepSpec)) fnExactFireStepUptoCard

/-- THE SECOND FORM's CARD OF 'laws.FnExactBurnAll'. -/
def fnExactBurnAllUptoCard : Claim7 := { stood := { row := fnExactBurnAllUptoRow, standIns := [], harness := (true, "2c9de440e56edeab93e9f3278cfefd0afc7c4a044d34e65c4d12cc95e0d408c3"), looks := false }, kinds := [], alts := [], laidByText := true, laidKinds := [.data], laidTests := true, laidLooks := .later }
def FnExactBurnAllUptoCardSaid : Prop := Claim7.holds Tryd.pinned (.plain (OpenSpec.upto fnExactBurnAllSpec)) fnExactBurnAllUptoCard
end Rows
end Go.Proofs.YthcbhbdgbiiagaaDoor
