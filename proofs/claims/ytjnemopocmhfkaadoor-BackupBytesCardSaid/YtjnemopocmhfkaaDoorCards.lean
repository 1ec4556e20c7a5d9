/-
  DERIVED. GIVEN WITH THE SEED: THE CARDS: each row of YtjnemopocmhfkaaDoorRows.lean that lists a variable, with what it lists TIED to the program's text (the seventh form; the later family's looks); each row that meets fmt, with fmt's text TOLD by the authors' own Lean function (tested against real Go, not proved from fmt's source: count such statements apart). THE CARD IS WHAT COUNTS. Prove the row's statement (the work); the ties are given (YtjnemopocmhfkaaDoorTie.lean); close each card by the builder's one call (the guide's Derived/Test/ToyasCard.lean, 'card_holds'). Laid BY PROGRAM, IN A SANDBOX (cutbox-door.mjs). By AI agents, Wed Nov 11 2026. No macro, syntax, notation, axiom, sorry.
-/
import Derived.Test.YtjnemopocmhfkaaDoorRows
import GoSem.ClaimSeven
namespace Go.Proofs.YtjnemopocmhfkaaDoor
namespace Rows

/-- THE TIED CARD OF 'wattlelaw19.BackupNewest'. -/
def backupNewestCard : Claim7 := { stood := { row := backupNewestRow, standIns := [], harness := (true, "56fc8d3bdf5ec2545dc985ff897e4ad002b3c38541610e8a623246d05b899292"), looks := false }, kinds := [], alts := [], laidByText := true, laidKinds := [.data], laidTests := true, laidLooks := .later }
def BackupNewestCardSaid : Prop := Claim7.holds Tryd.pinned (.plain (OpenSpec.ofChange backupNewestSpec)) backupNewestCard

/-- THE TIED CARD OF 'wattlelaw19.BackupLive'. -/
def backupLiveCard : Claim7 := { stood := { row := backupLiveRow, standIns := [], harness := (true, "56fc8d3bdf5ec2545dc985ff897e4ad002b3c38541610e8a623246d05b899292"), looks := false }, kinds := [], alts := [], laidByText := true, laidKinds := [.data], laidTests := true, laidLooks := .later }
def BackupLiveCardSaid : Prop := Claim7.holds Tryd.pinned (.plain (OpenSpec.ofChange backupLiveSpec)) backupLiveCard

/-- THE TIED CARD OF 'wattlelaw19.BackupMany'. -/
def backupManyCard : Claim7 := { stood := { row := backupManyRow, standIns := [], harness := (true, "56fc8d3bdf5ec2545dc985ff897e4ad002b3c38541610e8a623246d05b899292"), looks := false }, kinds := [], alts := [], laidByText := true, laidKinds := [.data], laidTests := true, laidLooks := .later }
def BackupManyCardSaid : Prop := Claim7.holds Tryd.pinned (.plain (OpenSpec.ofChange backupManySpec)) backupManyCard

/-- THE TIED CARD OF 'wattlelaw19.BackupBytes'. -/
def backupBytesCard : Claim7 := { stood := { row := backupBytesRow, standIns := [], harness := (true, "56fc8d3bdf5ec2545dc985ff897e4ad002b3c38541610e8a623246d05b899292"), looks := false }, kinds := [], alts := [], laidByText := true, laidKinds := [.data], laidTests := true, laidLooks := .later }
def BackupBytesCardSaid : Prop := Claim7.holds Tryd.pinned (.plain (OpenSpec.ofChange backupBytesSpec)) backupBytesCard

/-- THE SECOND FORM's CARD OF 'wattlelaw19.BackupNewest'. -/
def backupNewestUptoCard : Claim7 := { stood := { row := backupNewestUptoRow, standIns := [], harness := (true, "56fc8d3bdf5ec2545dc985ff897e4ad002b3c38541610e8a623246d05b899292"), looks := false }, kinds := [], alts := [], laidByText := true, laidKinds := [.data], laidTests := true, laidLooks := .later }
def BackupNewestUptoCardSaid : Prop := Claim7.holds Tryd.pinned (.plain (OpenSpec.upto backupNewestSpec)) backupNewestUptoCard

/-- THE SECOND FORM's CARD OF 'wattlelaw19.BackupLive'. -/
def backupLiveUptoCard : Claim7 := { stood := { row := backupLiveUptoRow, standIns := [], harness := (true, "56fc8d3bdf5ec2545dc985ff897e4ad002b3c38541610e8a623246d05b899292"), looks := false }, kinds := [], alts := [], laidByText := true, laidKinds := [.data], laidTests := true, laidLooks := .later }
def BackupLiveUptoCardSaid : Prop := Claim7.holds Tryd.pinned (.plain (OpenSpec.upto backupLiveSpec)) backupLiveUptoCard

/-- THE SECOND FORM's CARD OF 'wattlelaw19.BackupMany'. -/
def backupManyUptoCard : Claim7 := { stood := { row := backupManyUptoRow, standIns := [], harness := (true, "56fc8d3bdf5ec2545dc985ff897e4ad002b3c38541610e8a623246d05b899292"), looks := false }, kinds := [], alts := [], laidByText := true, laidKinds := [.data], laidTests := true, laidLooks := .later }
def BackupManyUptoCardSaid : Prop := Claim7.holds Tryd.pinned (.plain (OpenSpec.upto backupManySpec)) backupManyUptoCard

/-- THE SECOND FORM's CARD OF 'wattlelaw19.BackupBytes'. -/
def backupBytesUptoCard : Claim7 := { stood := { row := backupBytesUptoRow, standIns := [], harness := (true, "56fc8d3bdf5ec2545dc985ff897e4ad002b3c38541610e8a623246d05b899292"), looks := false }, kinds := [], alts := [], laidByText := true, laidKinds := [.data], laidTests := true, laidLooks := .later }
def BackupBytesUptoCardSaid : Prop := Claim7.holds Tryd.pinned (.plain (OpenSpec.upto backupBytesSpec)) backupBytesUptoCard
end Rows
end Go.Proofs.YtjnemopocmhfkaaDoor
