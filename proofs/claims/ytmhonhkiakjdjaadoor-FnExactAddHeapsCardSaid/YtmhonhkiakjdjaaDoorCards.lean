/-
  DERIVED. GIVEN WITH THE SEED: THE CARDS: each row of YtmhonhkiakjdjaaDoorRows.lean that lists a variable, with what it lists TIED to the program's text (the seventh form; the later family's looks); each row that meets fmt, with fmt's text TOLD by the authors' own Lean function (tested against real Go, not proved from fmt's source: count such statements apart). THE CARD IS WHAT COUNTS. Prove the row's statement (the work); the ties are given (YtmhonhkiakjdjaaDoorTie.lean); close each card by the builder's one call (the guide's Derived/Test/ToyasCard.lean, 'card_holds'). Laid BY PROGRAM, IN A SANDBOX (cutbox-door.mjs). By AI agents, Wed Nov 11 2026. No macro, syntax, notation, axiom, sorry.
-/
import Derived.Test.YtmhonhkiakjdjaaDoorRows
import GoSem.ClaimSeven
namespace Go.Proofs.YtmhonhkiakjdjaaDoor
namespace Rows

/-- THE TIED CARD OF 'laws.FnExactRunAnt'. -/
def fnExactRunAntCard : Claim7 := { stood := { row := fnExactRunAntRow, standIns := [], harness := (true, "75d5d34cd001b5c58eb8907b6af35467fbef8e4df2630b126a0c84e9a1378be6"), looks := false }, kinds := [], alts := [], laidByText := true, laidKinds := [.data], laidTests := true, laidLooks := .later }
def FnExactRunAntCardSaid : Prop := Claim7.holds Tryd.pinned (.plain (OpenSpec.ofChange fnExactRunAntSpec)) fnExactRunAntCard

/-- THE TIED CARD OF 'laws.FnExactSettleHeap'. -/
def fnExactSettleHeapCard : Claim7 := { stood := { row := fnExactSettleHeapRow, standIns := [], harness := (true, "75d5d34cd001b5c58eb8907b6af35467fbef8e4df2630b126a0c84e9a1378be6"), looks := false }, kinds := [], alts := [], laidByText := true, laidKinds := [.data], laidTests := true, laidLooks := .later }
def FnExactSettleHeapCardSaid : Prop := Claim7.holds Tryd.pinned (.plain (OpenSpec.ofChange fnExactSettleHeapSpec)) fnExactSettleHeapCard

/-- THE TIED CARD OF 'laws.FnExactAddHeaps'. -/
def fnExactAddHeapsCard : Claim7 := { stood := { row := fnExactAddHeapsRow, standIns := [], harness := (true, "75d5d34cd001b5c58eb8907b6af35467fbef8e4df2630b126a0c84e9a1378be6"), looks := false }, kinds := [], alts := [], laidByText := true, laidKinds := [.data], laidTests := true, laidLooks := .later }
def FnExactAddHeapsCardSaid : Prop := Claim7.holds Tryd.pinned (.plain (OpenSpec.ofChange fnExactAddHeapsSpec)) fnExactAddHeapsCard

/-- THE TIED CARD OF 'laws.FnExactFireStep'. -/
def fnExactFireStepCard : Claim7 := { stood := { row := fnExactFireStepRow, standIns := [], harness := (true, "75d5d34cd001b5c58eb8907b6af35467fbef8e4df2630b126a0c84e9a1378be6"), looks := false }, kinds := [], alts := [], laidByText := true, laidKinds := [.data], laidTests := true, laidLooks := .later }
def FnExactFireStepCardSaid : Prop := Claim7.holds Tryd.pinned (.plain (OpenSpec.ofChange fnExactFireStepSpec)) fnExactFireStepCard

/-- THE TIED CARD OF 'laws.FnExactBurnAll'. -/
def fnExactBurnAllCard : Claim7 := { stood := { row := fnExactBurnAllRow, standIns := [], harness := (true, "75d5d34cd001b5c58eb8907b6af35467fbef8e4df2630b126a0c84e9a1378be6"), looks := false }, kinds := [], alts := [], laidByText := true, laidKinds := [.data], laidTests := true, laidLooks := .later }
def FnExactBurnAllCardSaid : Prop := Claim7.holds Tryd.pinned (.plain (OpenSpec.ofChange fnExactBurnAllSpec)) fnExactBurnAllCard

/-- THE SECOND FORM's CARD OF 'laws.FnExactRunAnt'. -/
def fnExactRunAntUptoCard : Claim7 := { stood := { row := fnExactRunAntUptoRow, standIns := [], harness := (true, "75d5d34cd001b5c58eb8907b6af35467fbef8e4df2630b126a0c84e9a1378be6"), looks := false }, kinds := [], alts := [], laidByText := true, laidKinds := [.data], laidTests := true, laidLooks := .later }
def FnExactRunAntUptoCardSaid : Prop := Claim7.holds Tryd.pinned (.plain (OpenSpec.upto fnExactRunAntSpec)) fnExactRunAntUptoCard

/-- THE SECOND FORM's CARD OF 'laws.FnExactSettleHeap'. -/
def fnExactSettleHeapUptoCard : Claim7 := { stood := { row := fnExactSettleHeapUptoRow, standIns := [], harness := (true, "75d5d34cd001b5c58eb8907b6af35467fbef8e4df2630b126a0c84e9a1378be6"), looks := false }, kinds := [], alts := [], laidByText := true, laidKinds := [.data], laidTests := true, laidLooks := .later }
def FnExactSettleHeapUptoCardSaid : Prop := Claim7.holds Tryd.pinned (.plain (OpenSpec.upto fnExactSettleHeapSpec)) fnExactSettleHeapUptoCard

/-- THE SECOND FORM's CARD OF 'laws.FnExactAddHeaps'. -/
def fnExactAddHeapsUptoCard : Claim7 := { stood := { row := fnExactAddHeapsUptoRow, standIns := [], harness := (true, "75d5d34cd001b5c58eb8907b6af35467fbef8e4df2630b126a0c84e9a1378be6"), looks := false }, kinds := [], alts := [], laidByText := true, laidKinds := [.data], laidTests := true, laidLooks := .later }
def FnExactAddHeapsUptoCardSaid : Prop := Claim7.holds Tryd.pinned (.plain (OpenSpec.upto fnExactAddHeapsSpec)) fnExactAddHeapsUptoCard

/-- THE SECOND FORM's CARD OF 'laws.FnExactFireStep'. -/
def fnExactFireStepUptoCard : Claim7 := { stood := { row := fnExactFireStepUptoRow, standIns := [], harness := (true, "75d5d34cd001b5c58eb8907b6af35467fbef8e4df2630b126a0c84e9a1378be6"), looks := false }, kinds := [], alts := [], laidByText := true, laidKinds := [.data], laidTests := true, laidLooks := .later }
def FnExactFireStepUptoCardSaid : Prop := Claim7.holds Tryd.pinned (.plain (OpenSpec.upto fnExactFireStepSpec)) fnExactFireStepUptoCard

/-- THE SECOND FORM's CARD OF 'laws.FnExactBurnAll'. -/
def fnExactBurnAllUptoCard : Claim7 := { stood := { row := fnExactBurnAllUptoRow, standIns := [], harness := (true, "75d5d34cd001b5c58eb8907b6af35467fbef8e4df2630b126a0c84e9a1378be6"), looks := false }, kinds := [], alts := [], laidByText := true, laidKinds := [.data], laidTests := true, laidLooks := .later }
def FnExactBurnAllUptoCardSaid : Prop := Claim7.holds Tryd.pinned (.plain (OpenSpec.upto fnExactBurnAllSpec)) fnExactBurnAllUptoCard
end Rows
end Go.Proofs.YtmhonhkiakjdjaaDoor
