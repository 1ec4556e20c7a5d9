/-
  DERIVED. GIVEN WITH THE SEED: THE CARDS: each row of YtkbhnbkjpnigkaaDoorRows.lean that lists a variable, with what it lists TIED to the program's text (the seventh form; the later family's looks); each row that meets fmt, with fmt's text TOLD by the authors' own Lean function (tested against real Go, not proved from fmt's source: count such statements apart). THE CARD IS WHAT COUNTS. Prove the row's statement (the work); the ties are given (YtkbhnbkjpnigkaaDoorTie.lean); close each card by the builder's one call (the guide's Derived/Test/ToyasCard.lean, 'card_holds'). Laid BY PROGRAM, IN A SANDBOX (cutbox-door.mjs). By AI agents, Wed Nov 11 2026. No macro, syntax, notation, axiom, sorry.
-/
import Derived.Test.YtkbhnbkjpnigkaaDoorRows
import GoSem.ClaimSeven
namespace Go.Proofs.YtkbhnbkjpnigkaaDoor
namespace Rows

/-- THE TIED CARD OF 'wattlelaw12.LogOne'. -/
def logOneCard : Claim7 := { stood := { row := logOneRow, standIns := [], harness := (true, "f453b2b4397cec6fed4b77ed87f52644c5c0244a9c3ed9b219ee37dac45cdf88"), looks := false }, kinds := [], alts := [], laidByText := true, laidKinds := [.data], laidTests := true, laidLooks := .later }
def LogOneCardSaid : Prop := Claim7.holds Tryd.pinned (.plain (OpenSpec.ofChange logOneSpec)) logOneCard

/-- THE TIED CARD OF 'wattlelaw12.LogQuiet'. -/
def logQuietCard : Claim7 := { stood := { row := logQuietRow, standIns := [], harness := (true, "f453b2b4397cec6fed4b77ed87f52644c5c0244a9c3ed9b219ee37dac45cdf88"), looks := false }, kinds := [], alts := [], laidByText := true, laidKinds := [.data], laidTests := true, laidLooks := .later }
def LogQuietCardSaid : Prop := Claim7.holds Tryd.pinned (.plain (OpenSpec.ofChange logQuietSpec)) logQuietCard

/-- THE TIED CARD OF 'wattlelaw12.LogPlays'. -/
def logPlaysCard : Claim7 := { stood := { row := logPlaysRow, standIns := [], harness := (true, "f453b2b4397cec6fed4b77ed87f52644c5c0244a9c3ed9b219ee37dac45cdf88"), looks := false }, kinds := [], alts := [], laidByText := true, laidKinds := [.data], laidTests := true, laidLooks := .later }
def LogPlaysCardSaid : Prop := Claim7.holds Tryd.pinned (.plain (OpenSpec.ofChange logPlaysSpec)) logPlaysCard

/-- THE TIED CARD OF 'wattlelaw12.LogGreatest'. -/
def logGreatestCard : Claim7 := { stood := { row := logGreatestRow, standIns := [], harness := (true, "f453b2b4397cec6fed4b77ed87f52644c5c0244a9c3ed9b219ee37dac45cdf88"), looks := false }, kinds := [], alts := [], laidByText := true, laidKinds := [.data], laidTests := true, laidLooks := .later }
def LogGreatestCardSaid : Prop := Claim7.holds Tryd.pinned (.plain (OpenSpec.ofChange logGreatestSpec)) logGreatestCard

/-- THE SECOND FORM's CARD OF 'wattlelaw12.LogOne'. -/
def logOneUptoCard : Claim7 := { stood := { row := logOneUptoRow, standIns := [], harness := (true, "f453b2b4397cec6fed4b77ed87f52644c5c0244a9c3ed9b219ee37dac45cdf88"), looks := false }, kinds := [], alts := [], laidByText := true, laidKinds := [.data], laidTests := true, laidLooks := .later }
def LogOneUptoCardSaid : Prop := Claim7.holds Tryd.pinned (.plain (OpenSpec.upto logOneSpec)) logOneUptoCard

/-- THE SECOND FORM's CARD OF 'wattlelaw12.LogQuiet'. -/
def logQuietUptoCard : Claim7 := { stood := { row := logQuietUptoRow, standIns := [], harness := (true, "f453b2b4397cec6fed4b77ed87f52644c5c0244a9c3ed9b219ee37dac45cdf88"), looks := false }, kinds := [], alts := [], laidByText := true, laidKinds := [.data], laidTests := true, laidLooks := .later }
def LogQuietUptoCardSaid : Prop := Claim7.holds Tryd.pinned (.plain (OpenSpec.upto logQuietSpec)) logQuietUptoCard

/-- THE SECOND FORM's CARD OF 'wattlelaw12.LogPlays'. -/
def logPlaysUptoCard : Claim7 := { stood := { row := logPlaysUptoRow, standIns := [], harness := (true, "f453b2b4397cec6fed4b77ed87f52644c5c0244a9c3ed9b219ee37dac45cdf88"), looks := false }, kinds := [], alts := [], laidByText := true, laidKinds := [.data], laidTests := true, laidLooks := .later }
def LogPlaysUptoCardSaid : Prop := Claim7.holds Tryd.pinned (.plain (OpenSpec.upto logPlaysSpec)) logPlaysUptoCard

/-- THE SECOND FORM's CARD OF 'wattlelaw12.LogGreatest'. -/
def logGreatestUptoCard : Claim7 := { stood := { row := logGreatestUptoRow, standIns := [], harness := (true, "f453b2b4397cec6fed4b77ed87f52644c5c0244a9c3ed9b219ee37dac45cdf88"), looks := false }, kinds := [], alts := [], laidByText := true, laidKinds := [.data], laidTests := true, laidLooks := .later }
def LogGreatestUptoCardSaid : Prop := Claim7.holds Tryd.pinned (.plain (OpenSpec.upto logGreatestSpec)) logGreatestUptoCard
end Rows
end Go.Proofs.YtkbhnbkjpnigkaaDoor
