/-
  DERIVED. GIVEN WITH THE SEED: THE CARDS: each row of YtdecpkcdljpnaaaDoorRows.lean that lists a variable, with what it lists TIED to the program's text (the seventh form; the later family's looks); each row that meets fmt, with fmt's text TOLD by the authors' own Lean function (tested against real Go, not proved from fmt's source: count such statements apart). THE CARD IS WHAT COUNTS. Prove the row's statement (the work); the ties are given (YtdecpkcdljpnaaaDoorTie.lean); close each card by the builder's one call (the guide's Derived/Test/ToyasCard.lean, 'card_holds'). Laid BY PROGRAM, IN A SANDBOX (cutbox-door.mjs). By AI agents, Wed Nov 11 2026. No macro, syntax, notation, axiom, sorry.
-/
import Derived.Test.YtdecpkcdljpnaaaDoorRows
import GoSem.ClaimSeven
namespace Go.Proofs.YtdecpkcdljpnaaaDoor
namespace Rows

/-- THE TIED CARD OF 'wattlelaw09.SuperForms'. -/
def superFormsCard : Claim7 := { stood := { row := superFormsRow, standIns := [], harness := (true, "3e55506073834a2ee7fb1db4185440e9896746db8a8f898847788602b9137764"), looks := false }, kinds := [], alts := [], laidByText := true, laidKinds := [.data], laidTests := true, laidLooks := .later }
def SuperFormsCardSaid : Prop := Claim7.holds Tryd.pinned (.plain (OpenSpec.ofChange superFormsSpec)) superFormsCard

/-- THE TIED CARD OF 'wattlelaw09.SuperTells'. -/
def superTellsCard : Claim7 := { stood := { row := superTellsRow, standIns := [], harness := (true, "3e55506073834a2ee7fb1db4185440e9896746db8a8f898847788602b9137764"), looks := false }, kinds := [], alts := [], laidByText := true, laidKinds := [.data], laidTests := true, laidLooks := .later }
def SuperTellsCardSaid : Prop := Claim7.holds Tryd.pinned (.plain (OpenSpec.ofChange superTellsSpec)) superTellsCard

/-- THE TIED CARD OF 'wattlelaw09.SuperDecodes'. -/
def superDecodesCard : Claim7 := { stood := { row := superDecodesRow, standIns := [], harness := (true, "3e55506073834a2ee7fb1db4185440e9896746db8a8f898847788602b9137764"), looks := false }, kinds := [], alts := [], laidByText := true, laidKinds := [.data], laidTests := true, laidLooks := .later }
def SuperDecodesCardSaid : Prop := Claim7.holds Tryd.pinned (.plain (OpenSpec.ofChange superDecodesSpec)) superDecodesCard

/-- THE TIED CARD OF 'wattlelaw09.SuperBack'. -/
def superBackCard : Claim7 := { stood := { row := superBackRow, standIns := [], harness := (true, "3e55506073834a2ee7fb1db4185440e9896746db8a8f898847788602b9137764"), looks := false }, kinds := [], alts := [], laidByText := true, laidKinds := [.data], laidTests := true, laidLooks := .later }
def SuperBackCardSaid : Prop := Claim7.holds Tryd.pinned (.plain (OpenSpec.ofChange superBackSpec)) superBackCard

/-- THE TIED CARD OF 'wattlelaw09.SuperSealed'. -/
def superSealedCard : Claim7 := { stood := { row := superSealedRow, standIns := [], harness := (true, "3e55506073834a2ee7fb1db4185440e9896746db8a8f898847788602b9137764"), looks := false }, kinds := [], alts := [], laidByText := true, laidKinds := [.data], laidTests := true, laidLooks := .later }
def SuperSealedCardSaid : Prop := Claim7.holds Tryd.pinned (.plain (OpenSpec.ofChange superSealedSpec)) superSealedCard

/-- THE SECOND FORM's CARD OF 'wattlelaw09.SuperForms'. -/
def superFormsUptoCard : Claim7 := { stood := { row := superFormsUptoRow, standIns := [], harness := (true, "3e55506073834a2ee7fb1db4185440e9896746db8a8f898847788602b9137764"), looks := false }, kinds := [], alts := [], laidByText := true, laidKinds := [.data], laidTests := true, laidLooks := .later }
def SuperFormsUptoCardSaid : Prop := Claim7.holds Tryd.pinned (.plain (OpenSpec.upto superFormsSpec)) superFormsUptoCard

/-- THE SECOND FORM's CARD OF 'wattlelaw09.SuperTells'. -/
def superTellsUptoCard : Claim7 := { stood := { row := superTellsUptoRow, standIns := [], harness := (true, "3e55506073834a2ee7fb1db4185440e9896746db8a8f898847788602b9137764"), looks := false }, kinds := [], alts := [], laidByText := true, laidKinds := [.data], laidTests := true, laidLooks := .later }
def SuperTellsUptoCardSaid : Prop := Claim7.holds Tryd.pinned (.plain (OpenSpec.upto superTellsSpec)) superTellsUptoCard

/-- THE SECOND FORM's CARD OF 'wattlelaw09.SuperDecodes'. -/
def superDecodesUptoCard : Claim7 := { stood := { row := superDecodesUptoRow, standIns := [], harness := (true, "3e55506073834a2ee7fb1db4185440e9896746db8a8f898847788602b9137764"), looks := false }, kinds := [], alts := [], laidByText := true, laidKinds := [.data], laidTests := true, laidLooks := .later }
def SuperDecodesUptoCardSaid : Prop := Claim7.holds Tryd.pinned (.plain (OpenSpec.upto superDecodesSpec)) superDecodesUptoCard

/-- THE SECOND FORM's CARD OF 'wattlelaw09.SuperBack'. -/
def superBackUptoCard : Claim7 := { stood := { row := superBackUptoRow, standIns := [], harness := (true, "3e55506073834a2ee7fb1db4185440e9896746db8a8f898847788602b9137764"), looks := false }, kinds := [], alts := [], laidByText := true, laidKinds := [.data], laidTests := true, laidLooks := .later }
def SuperBackUptoCardSaid : Prop := Claim7.holds Tryd.pinned (.plain (OpenSpec.upto superBackSpec)) superBackUptoCard

/-- THE SECOND FORM's CARD OF 'wattlelaw09.SuperSealed'. -/
def superSealedUptoCard : Claim7 := { stood := { row := superSealedUptoRow, standIns := [], harness := (true, "3e55506073834a2ee7fb1db4185440e9896746db8a8f898847788602b9137764"), looks := false }, kinds := [], alts := [], laidByText := true, laidKinds := [.data], laidTests := true, laidLooks := .later }
def SuperSealedUptoCardSaid : Prop := Claim7.holds Tryd.pinned (.plain (OpenSpec.upto superSealedSpec)) superSealedUptoCard
end Rows
end Go.Proofs.YtdecpkcdljpnaaaDoor
