/-
  DERIVED. GIVEN WITH THE SEED: THE CARDS: each row of YtiipdhmfdgbmiaaDoorRows.lean that lists a variable, with what it lists TIED to the program's text (the seventh form; the later family's looks); each row that meets fmt, with fmt's text TOLD by the authors' own Lean function (tested against real Go, not proved from fmt's source: count such statements apart). THE CARD IS WHAT COUNTS. Prove the row's statement (the work); the ties are given (YtiipdhmfdgbmiaaDoorTie.lean); close each card by the builder's one call (the guide's Derived/Test/ToyasCard.lean, 'card_holds'). Laid BY PROGRAM, IN A SANDBOX (cutbox-door.mjs). By AI agents, Wed Nov 11 2026. No macro, syntax, notation, axiom, sorry.
-/
import Derived.Test.YtiipdhmfdgbmiaaDoorRows
import GoSem.ClaimSeven
namespace Go.Proofs.YtiipdhmfdgbmiaaDoor
namespace Rows

/-- THE TIED CARD OF 'wattlelaw10.SlotsTurns'. -/
def slotsTurnsCard : Claim7 := { stood := { row := slotsTurnsRow, standIns := [], harness := (true, "11b601c93d9114610e3488ecf8a7b64564bca8f192a0d3b580286aa762d793c9"), looks := false }, kinds := [], alts := [], laidByText := true, laidKinds := [.data], laidTests := true, laidLooks := .later }
def SlotsTurnsCardSaid : Prop := Claim7.holds Tryd.pinned (.plain (OpenSpec.ofChange slotsTurnsSpec)) slotsTurnsCard

/-- THE TIED CARD OF 'wattlelaw10.SlotsErrors'. -/
def slotsErrorsCard : Claim7 := { stood := { row := slotsErrorsRow, standIns := [], harness := (true, "11b601c93d9114610e3488ecf8a7b64564bca8f192a0d3b580286aa762d793c9"), looks := false }, kinds := [], alts := [], laidByText := true, laidKinds := [.data], laidTests := true, laidLooks := .later }
def SlotsErrorsCardSaid : Prop := Claim7.holds Tryd.pinned (.plain (OpenSpec.ofChange slotsErrorsSpec)) slotsErrorsCard

/-- THE TIED CARD OF 'wattlelaw10.SlotsBest'. -/
def slotsBestCard : Claim7 := { stood := { row := slotsBestRow, standIns := [], harness := (true, "11b601c93d9114610e3488ecf8a7b64564bca8f192a0d3b580286aa762d793c9"), looks := false }, kinds := [], alts := [], laidByText := true, laidKinds := [.data], laidTests := true, laidLooks := .later }
def SlotsBestCardSaid : Prop := Claim7.holds Tryd.pinned (.plain (OpenSpec.ofChange slotsBestSpec)) slotsBestCard

/-- THE TIED CARD OF 'wattlelaw10.SlotsOnly'. -/
def slotsOnlyCard : Claim7 := { stood := { row := slotsOnlyRow, standIns := [], harness := (true, "11b601c93d9114610e3488ecf8a7b64564bca8f192a0d3b580286aa762d793c9"), looks := false }, kinds := [], alts := [], laidByText := true, laidKinds := [.data], laidTests := true, laidLooks := .later }
def SlotsOnlyCardSaid : Prop := Claim7.holds Tryd.pinned (.plain (OpenSpec.ofChange slotsOnlySpec)) slotsOnlyCard

/-- THE SECOND FORM's CARD OF 'wattlelaw10.SlotsTurns'. -/
def slotsTurnsUptoCard : Claim7 := { stood := { row := slotsTurnsUptoRow, standIns := [], harness := (true, "11b601c93d9114610e3488ecf8a7b64564bca8f192a0d3b580286aa762d793c9"), looks := false }, kinds := [], alts := [], laidByText := true, laidKinds := [.data], laidTests := true, laidLooks := .later }
def SlotsTurnsUptoCardSaid : Prop := Claim7.holds Tryd.pinned (.plain (OpenSpec.upto slotsTurnsSpec)) slotsTurnsUptoCard

/-- THE SECOND FORM's CARD OF 'wattlelaw10.SlotsErrors'. -/
def slotsErrorsUptoCard : Claim7 := { stood := { row := slotsErrorsUptoRow, standIns := [], harness := (true, "11b601c93d9114610e3488ecf8a7b64564bca8f192a0d3b580286aa762d793c9"), looks := false }, kinds := [], alts := [], laidByText := true, laidKinds := [.data], laidTests := true, laidLooks := .later }
def SlotsErrorsUptoCardSaid : Prop := Claim7.holds Tryd.pinned (.plain (OpenSpec.upto slotsErrorsSpec)) slotsErrorsUptoCard

/-- THE SECOND FORM's CARD OF 'wattlelaw10.SlotsBest'. -/
def slotsBestUptoCard : Claim7 := { stood := { row := slotsBestUptoRow, standIns := [], harness := (true, "11b601c93d9114610e3488ecf8a7b64564bca8f192a0d3b580286aa762d793c9"), looks := false }, kinds := [], alts := [], laidByText := true, laidKinds := [.data], laidTests := true, laidLooks := .later }
def SlotsBestUptoCardSaid : Prop := Claim7.holds Tryd.pinned (.plain (OpenSpec.upto slotsBestSpec)) slotsBestUptoCard

/-- THE SECOND FORM's CARD OF 'wattlelaw10.SlotsOnly'. -/
def slotsOnlyUptoCard : Claim7 := { stood := { row := slotsOnlyUptoRow, standIns := [], harness := (true, "11b601c93d9114610e3488ecf8a7b64564bca8f192a0d3b580286aa762d793c9"), looks := false }, kinds := [], alts := [], laidByText := true, laidKinds := [.data], laidTests := true, laidLooks := .later }
def SlotsOnlyUptoCardSaid : Prop := Claim7.holds Tryd.pinned (.plain (OpenSpec.upto slotsOnlySpec)) slotsOnlyUptoCard
end Rows
end Go.Proofs.YtiipdhmfdgbmiaaDoor
