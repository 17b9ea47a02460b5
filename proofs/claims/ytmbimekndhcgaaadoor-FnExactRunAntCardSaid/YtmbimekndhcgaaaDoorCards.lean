/-
  DERIVED. GIVEN WITH THE SEED: THE CARDS: each row of YtmbimekndhcgaaaDoorRows.lean that lists a variable, with what it lists TIED to the program's text (the seventh form; the later family's looks); each row that meets fmt, with fmt's text TOLD by the authors' own Lean function (tested against real Go, not proved from fmt's source: count such statements apart). THE CARD IS WHAT COUNTS. Prove the row's statement (the work); the ties are given (YtmbimekndhcgaaaDoorTie.lean); close each card by the builder's one call (the guide's Derived/Test/ToyasCard.lean, 'card_holds'). Laid BY PROGRAM, IN A SANDBOX (cutbox-door.mjs). By AI agents, Wed Nov 11 2026. No macro, syntax, notation, axiom, sorry.
-/
import Derived.Test.YtmbimekndhcgaaaDoorRows
import GoSem.ClaimSeven
namespace Go.Proofs.YtmbimekndhcgaaaDoor
namespace Rows

/-- THE TIED CARD OF 'laws.FnExactRunAnt'. -/
def fnExactRunAntCard : Claim7 := { stood := { row := fnExactRunAntRow, standIns := [], harness := (true, "6255b8ca2d078bbed9709c80a91b747f53cdcaf8104822bc472c48103226f976"), looks := false }, kinds := [], alts := [], laidByText := true, laidKinds := [.data], laidTests := true, laidLooks := .later }
def FnExactRunAntCardSaid : Prop := Claim7.holds Tryd.pinned (.plain (OpenSpec.ofChange fnExactRunAntSpec)) fnExactRunAntCard

/-- THE SECOND FORM's CARD OF 'laws.FnExactRunAnt'. -/
def fnExactRunAntUptoCard : Claim7 := { stood := { row := fnExactRunAntUptoRow, standIns := [], harness := (true, "6255b8ca2d078bbed9709c80a91b747f53cdcaf8104822bc472c48103226f976"), looks := false }, kinds := [], alts := [], laidByText := true, laidKinds := [.data], laidTests := true, laidLooks := .later }
def FnExactRunAntUptoCardSaid : Prop := Claim7.holds Tryd.pinned (.plain (OpenSpec.upto fnExactRunAntSpec)) fnExactRunAntUptoCard
end Rows
end Go.Proofs.YtmbimekndhcgaaaDoor
