/-
  DERIVED. GIVEN WITH THE SEED: THE CARDS: each row of YtenkkdnepmoihaaGreatDoorRows.lean that lists a variable, with what it lists TIED to the program's text (the seventh form; the later family's looks); each row that meets fmt, with fmt's text TOLD by the authors' own Lean function (tested against real Go, not proved from fmt's source: count such statements apart). THE CARD IS WHAT COUNTS. Prove the row's statement (the work); the ties are given (YtenkkdnepmoihaaGreatDoorTie.lean); close each card by the builder's one call (the guide's Derived/Test/ToyasCard.lean, 'card_holds'). Laid BY PROGRAM, IN A SANDBOX (cutbox-door.mjs). By AI agents, Wed Nov 11 2026. No macro, syntax, notation, axiom, sorry.
-/
import Derived.Test.YtenkkdnepmoihaaGreatDoorRows
import GoSem.ClaimSeven
namespace Go.Proofs.YtenkkdnepmoihaaGreatDoor
namespace Rows

/-- THE TIED CARD OF 'wattlelaw15.UpdateDoes'. -/
def updateDoesCard : Claim7 := { stood := { row := updateDoesRow, standIns := [], harness := (true, "5c799a92d4bf1a84878e35cae045b377ec54ecf7863e1daad1bf0ed04d2aac21"), looks := false }, kinds := [], alts := [], laidByText := true, laidKinds := [.data], laidTests := true, laidLooks := .later }
def UpdateDoesCardSaid : Prop := Claim7.holds Tryz.pinned (.plain (OpenSpec.ofChange updateDoesSpec)) updateDoesCard

/-- THE TIED CARD OF 'wattlelaw15.UpdateErrors'. -/
def updateErrorsCard : Claim7 := { stood := { row := updateErrorsRow, standIns := [], harness := (true, "5c799a92d4bf1a84878e35cae045b377ec54ecf7863e1daad1bf0ed04d2aac21"), looks := false }, kinds := [], alts := [], laidByText := true, laidKinds := [.data], laidTests := true, laidLooks := .later }
def UpdateErrorsCardSaid : Prop := Claim7.holds Tryz.pinned (.plain (OpenSpec.ofChange updateErrorsSpec)) updateErrorsCard

/-- THE TIED CARD OF 'wattlelaw15.UpdateCrash'. -/
def updateCrashCard : Claim7 := { stood := { row := updateCrashRow, standIns := [], harness := (true, "5c799a92d4bf1a84878e35cae045b377ec54ecf7863e1daad1bf0ed04d2aac21"), looks := false }, kinds := [], alts := [], laidByText := true, laidKinds := [.data], laidTests := true, laidLooks := .later }
def UpdateCrashCardSaid : Prop := Claim7.holds Tryz.pinned (.plain (OpenSpec.ofChange updateCrashSpec)) updateCrashCard

/-- THE TIED CARD OF 'wattlelaw15.UpdateRows'. -/
def updateRowsCard : Claim7 := { stood := { row := updateRowsRow, standIns := [], harness := (true, "5c799a92d4bf1a84878e35cae045b377ec54ecf7863e1daad1bf0ed04d2aac21"), looks := false }, kinds := [], alts := [], laidByText := true, laidKinds := [.data], laidTests := true, laidLooks := .later }
def UpdateRowsCardSaid : Prop := Claim7.holds Tryz.pinned (.plain (OpenSpec.ofChange updateRowsSpec)) updateRowsCard

/-- THE SECOND FORM's CARD OF 'wattlelaw15.UpdateDoes'. -/
def updateDoesUptoCard : Claim7 := { stood := { row := updateDoesUptoRow, standIns := [], harness := (true, "5c799a92d4bf1a84878e35cae045b377ec54ecf7863e1daad1bf0ed04d2aac21"), looks := false }, kinds := [], alts := [], laidByText := true, laidKinds := [.data], laidTests := true, laidLooks := .later }
def UpdateDoesUptoCardSaid : Prop := Claim7.holds Tryz.pinned (.plain (OpenSpec.upto updateDoesSpec)) updateDoesUptoCard

/-- THE SECOND FORM's CARD OF 'wattlelaw15.UpdateErrors'. -/
def updateErrorsUptoCard : Claim7 := { stood := { row := updateErrorsUptoRow, standIns := [], harness := (true, "5c799a92d4bf1a84878e35cae045b377ec54ecf7863e1daad1bf0ed04d2aac21"), looks := false }, kinds := [], alts := [], laidByText := true, laidKinds := [.data], laidTests := true, laidLooks := .later }
def UpdateErrorsUptoCardSaid : Prop := Claim7.holds Tryz.pinned (.plain (OpenSpec.upto updateErrorsSpec)) updateErrorsUptoCard

/-- THE SECOND FORM's CARD OF 'wattlelaw15.UpdateCrash'. -/
def updateCrashUptoCard : Claim7 := { stood := { row := updateCrashUptoRow, standIns := [], harness := (true, "5c799a92d4bf1a84878e35cae045b377ec54ecf7863e1daad1bf0ed04d2aac21"), looks := false }, kinds := [], alts := [], laidByText := true, laidKinds := [.data], laidTests := true, laidLooks := .later }
def UpdateCrashUptoCardSaid : Prop := Claim7.holds Tryz.pinned (.plain (OpenSpec.upto updateCrashSpec)) updateCrashUptoCard

/-- THE SECOND FORM's CARD OF 'wattlelaw15.UpdateRows'. -/
def updateRowsUptoCard : Claim7 := { stood := { row := updateRowsUptoRow, standIns := [], harness := (true, "5c799a92d4bf1a84878e35cae045b377ec54ecf7863e1daad1bf0ed04d2aac21"), looks := false }, kinds := [], alts := [], laidByText := true, laidKinds := [.data], laidTests := true, laidLooks := .later }
def UpdateRowsUptoCardSaid : Prop := Claim7.holds Tryz.pinned (.plain (OpenSpec.upto updateRowsSpec)) updateRowsUptoCard
end Rows
end Go.Proofs.YtenkkdnepmoihaaGreatDoor
