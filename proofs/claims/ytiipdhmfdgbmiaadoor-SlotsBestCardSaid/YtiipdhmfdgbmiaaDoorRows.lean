/-
  NARROWER THAN 'FOR EVERY INPUT', by the rows' own cells (each row's printed sentence says how): SlotsTurns: laid · SlotsErrors: laid · SlotsBest: laid · SlotsOnly: laid.
  DERIVED. THE GIVEN ROWS OF THIS SEAT. 4 by the template 'for every input the law returns true; each argument reads behind the call as it read before'; 0 by the template 'total and deterministic' (their statements: YtiipdhmfdgbmiaaDoorTotals.lean).
  GIVEN WITH THE SEED: the statements are not yours to turn. If you find one false, say at which input.
  Laid BY PROGRAM, IN A SANDBOX (cutbox-rows.mjs): the forced cells as the released guide's own fill.sh prints them over the translation 44e50f7045f87ee7… (all of the seat's roots in one cut). By AI agents, Wed Nov 11 2026. No macro, syntax, notation, axiom, sorry.
-/
import Derived.Test.YtiipdhmfdgbmiaaDoorChecked
import GoSem.Claim
import GoSem.ClaimJoined
import GoSem.ClaimMapViews
import Derived.JoinedTies
import Derived.KernelRfl
namespace Go.Proofs.YtiipdhmfdgbmiaaDoor
/- THE CELL 'sum', in the pinned program and in every row, IS THE sha256 OF THE DUMP (.gsa) THAT YtiipdhmfdgbmiaaDoorProg.lean LOADS. Nothing in Lean hashes anything: it is a label: what it is worth is what the hold of that sum in a sandbox is worth. -/
noncomputable def Tryd.pinned : Pinned := { name := "ytiipdhmfdgbmiaadoor", sum := "44e50f7045f87ee72d6e13ec07fb7f275d49440687d684129268ed081d8342a2", checked := Tryd.checked }
namespace Rows
def none {H : Type} : Left H := { results := [], args := [] }

/- WHAT THE LISTED PACKAGE-LEVEL VARIABLES READ AS WHEN THE CALL BEGINS. Each datum BY PROGRAM (the guide's laid-datum.mjs) off the statement by which the dump's own 'gosem.cut.vars' lays the variable. In a bare row this is a premise. The card (YtiipdhmfdgbmiaaDoorCards.lean) ties it to the program's text. -/
def laid_wattle_crc_nibbles {H : Type} : DataW H := .agg [.lit (.int .u32 0), .lit (.int .u32 274646895), .lit (.int .u32 549293790), .lit (.int .u32 820201905), .lit (.int .u32 1098587580), .lit (.int .u32 1361435347), .lit (.int .u32 1640403810), .lit (.int .u32 1905808397), .lit (.int .u32 2197175160), .lit (.int .u32 2460548119), .lit (.int .u32 2722870694), .lit (.int .u32 2987750089), .lit (.int .u32 3280807620), .lit (.int .u32 3553878443), .lit (.int .u32 3811616794), .lit (.int .u32 4084100981)]

/-- 'wattlelaw10.SlotsTurns': WHATEVER THE INPUT: true; the input reads as it did. -/
def slotsTurnsSpec : ChangeSpec := { name := "slotsTurns", fn := fun _ => fun
  | [d1, d2, d3] => { results := [.lit (.bool true)], args := [d1, d2, d3] }
  | _ => none }
def slotsTurnsRow : OpenClaim := { program := "ytiipdhmfdgbmiaadoor", sum := "44e50f7045f87ee72d6e13ec07fb7f275d49440687d684129268ed081d8342a2", func := "wattle/wattlelaw10.SlotsTurns", spec := "slotsTurns", unfollowed := true, recurses := true, named := ["wattle/crc.nibbles"], apart := false, laid := [("wattle/crc.nibbles", laid_wattle_crc_nibbles)] }
def SlotsTurnsSaid : Prop := slotsTurnsRow.holds Tryd.pinned (OpenSpec.ofChange slotsTurnsSpec)

/-- ITS FALSE NEIGHBOUR: 'it returns false'. Refute it at one input. -/
def slotsTurnsWrong : ChangeSpec := { name := "slotsTurns", fn := fun _ => fun
  | [d1, d2, d3] => { results := [.lit (.bool false)], args := [d1, d2, d3] }
  | _ => none }
def SlotsTurnsWrongFalsely : Prop := slotsTurnsRow.holds Tryd.pinned (OpenSpec.ofChange slotsTurnsWrong)

/-- 'wattlelaw10.SlotsErrors': WHATEVER THE INPUT: true; the input reads as it did. -/
def slotsErrorsSpec : ChangeSpec := { name := "slotsErrors", fn := fun _ => fun
  | [d1, d2] => { results := [.lit (.bool true)], args := [d1, d2] }
  | _ => none }
def slotsErrorsRow : OpenClaim := { program := "ytiipdhmfdgbmiaadoor", sum := "44e50f7045f87ee72d6e13ec07fb7f275d49440687d684129268ed081d8342a2", func := "wattle/wattlelaw10.SlotsErrors", spec := "slotsErrors", unfollowed := true, recurses := true, named := ["wattle/crc.nibbles"], apart := false, laid := [("wattle/crc.nibbles", laid_wattle_crc_nibbles)] }
def SlotsErrorsSaid : Prop := slotsErrorsRow.holds Tryd.pinned (OpenSpec.ofChange slotsErrorsSpec)

/-- ITS FALSE NEIGHBOUR: 'it returns false'. Refute it at one input. -/
def slotsErrorsWrong : ChangeSpec := { name := "slotsErrors", fn := fun _ => fun
  | [d1, d2] => { results := [.lit (.bool false)], args := [d1, d2] }
  | _ => none }
def SlotsErrorsWrongFalsely : Prop := slotsErrorsRow.holds Tryd.pinned (OpenSpec.ofChange slotsErrorsWrong)

/-- 'wattlelaw10.SlotsBest': WHATEVER THE INPUT: true; the input reads as it did. -/
def slotsBestSpec : ChangeSpec := { name := "slotsBest", fn := fun _ => fun
  | [d] => { results := [.lit (.bool true)], args := [d] }
  | _ => none }
def slotsBestRow : OpenClaim := { program := "ytiipdhmfdgbmiaadoor", sum := "44e50f7045f87ee72d6e13ec07fb7f275d49440687d684129268ed081d8342a2", func := "wattle/wattlelaw10.SlotsBest", spec := "slotsBest", unfollowed := true, recurses := true, named := ["wattle/crc.nibbles"], apart := false, laid := [("wattle/crc.nibbles", laid_wattle_crc_nibbles)] }
def SlotsBestSaid : Prop := slotsBestRow.holds Tryd.pinned (OpenSpec.ofChange slotsBestSpec)

/-- ITS FALSE NEIGHBOUR: 'it returns false'. Refute it at one input. -/
def slotsBestWrong : ChangeSpec := { name := "slotsBest", fn := fun _ => fun
  | [d] => { results := [.lit (.bool false)], args := [d] }
  | _ => none }
def SlotsBestWrongFalsely : Prop := slotsBestRow.holds Tryd.pinned (OpenSpec.ofChange slotsBestWrong)

/-- 'wattlelaw10.SlotsOnly': WHATEVER THE INPUT: true; the input reads as it did. -/
def slotsOnlySpec : ChangeSpec := { name := "slotsOnly", fn := fun _ => fun
  | [d1, d2, d3, d4] => { results := [.lit (.bool true)], args := [d1, d2, d3, d4] }
  | _ => none }
def slotsOnlyRow : OpenClaim := { program := "ytiipdhmfdgbmiaadoor", sum := "44e50f7045f87ee72d6e13ec07fb7f275d49440687d684129268ed081d8342a2", func := "wattle/wattlelaw10.SlotsOnly", spec := "slotsOnly", unfollowed := true, recurses := true, named := ["wattle/crc.nibbles"], apart := false, laid := [("wattle/crc.nibbles", laid_wattle_crc_nibbles)] }
def SlotsOnlySaid : Prop := slotsOnlyRow.holds Tryd.pinned (OpenSpec.ofChange slotsOnlySpec)

/-- ITS FALSE NEIGHBOUR: 'it returns false'. Refute it at one input. -/
def slotsOnlyWrong : ChangeSpec := { name := "slotsOnly", fn := fun _ => fun
  | [d1, d2, d3, d4] => { results := [.lit (.bool false)], args := [d1, d2, d3, d4] }
  | _ => none }
def SlotsOnlyWrongFalsely : Prop := slotsOnlyRow.holds Tryd.pinned (OpenSpec.ofChange slotsOnlyWrong)

/- THE SECOND FORM. 'bulk': how many values and letters a reading holds, each counted each time it is reached (what is shared counts as often as it is met; a slice's spare places count too). A statement '..UptoSaid' is the law's where the arguments, and the package variables that the reading takes, are together of bulk at most 1048576: NARROWER than '..Said'. Prove '..Said' where nothing that the law and all that it calls make is longer than what came in: it says more and counts as full. Else prove '..UptoSaid'. A law counts once. -/
mutual
def uptoBulk {H : Type} : DataW H → Nat
  | .lit (.string bytes) => bytes.length + 1
  | .lit _ => 1
  | .nil => 1
  | .ptr d => uptoBulk d + 1
  | .slice elems spare => uptoBulkAll elems + uptoBulkAll spare + 1
  | .agg parts => uptoBulkAll parts + 1
  | .iface _ d => uptoBulk d + 1
  | .map entries => uptoBulkEntries entries + 1
  | .held _ => 1
def uptoBulkAll {H : Type} : List (DataW H) → Nat
  | [] => 0
  | d :: r => uptoBulk d + uptoBulkAll r
def uptoBulkEntries {H : Type} : List (Lit × DataW H) → Nat
  | [] => 0
  | x :: r => uptoBulkEntry x + uptoBulkEntries r
def uptoBulkEntry {H : Type} : Lit × DataW H → Nat
  | (.string bytes, d) => bytes.length + uptoBulk d + 1
  | (_, d) => uptoBulk d + 1
 end
def uptoSmall : (H : Type) → List (DataW H) → Bool := fun _ ds => decide (uptoBulkAll ds ≤ 1048576)
def OpenSpec.upto (s : _root_.Go.ChangeSpec) : _root_.Go.OpenSpec := { _root_.Go.OpenSpec.ofChange s with cond := some uptoSmall }

/-- 'wattlelaw10.SlotsTurns', WHERE WHAT IT READS IS OF BULK AT MOST 1048576: true; the input reads as it did. -/
def slotsTurnsUptoRow : OpenClaim := { program := "ytiipdhmfdgbmiaadoor", sum := "44e50f7045f87ee72d6e13ec07fb7f275d49440687d684129268ed081d8342a2", func := "wattle/wattlelaw10.SlotsTurns", spec := "slotsTurns", unfollowed := true, recurses := true, named := ["wattle/crc.nibbles"], apart := false, laid := [("wattle/crc.nibbles", laid_wattle_crc_nibbles)], narrowed := true }
def SlotsTurnsUptoSaid : Prop := slotsTurnsUptoRow.holds Tryd.pinned (OpenSpec.upto slotsTurnsSpec)

/-- 'wattlelaw10.SlotsErrors', WHERE WHAT IT READS IS OF BULK AT MOST 1048576: true; the input reads as it did. -/
def slotsErrorsUptoRow : OpenClaim := { program := "ytiipdhmfdgbmiaadoor", sum := "44e50f7045f87ee72d6e13ec07fb7f275d49440687d684129268ed081d8342a2", func := "wattle/wattlelaw10.SlotsErrors", spec := "slotsErrors", unfollowed := true, recurses := true, named := ["wattle/crc.nibbles"], apart := false, laid := [("wattle/crc.nibbles", laid_wattle_crc_nibbles)], narrowed := true }
def SlotsErrorsUptoSaid : Prop := slotsErrorsUptoRow.holds Tryd.pinned (OpenSpec.upto slotsErrorsSpec)

/-- 'wattlelaw10.SlotsBest', WHERE WHAT IT READS IS OF BULK AT MOST 1048576: true; the input reads as it did. -/
def slotsBestUptoRow : OpenClaim := { program := "ytiipdhmfdgbmiaadoor", sum := "44e50f7045f87ee72d6e13ec07fb7f275d49440687d684129268ed081d8342a2", func := "wattle/wattlelaw10.SlotsBest", spec := "slotsBest", unfollowed := true, recurses := true, named := ["wattle/crc.nibbles"], apart := false, laid := [("wattle/crc.nibbles", laid_wattle_crc_nibbles)], narrowed := true }
def SlotsBestUptoSaid : Prop := slotsBestUptoRow.holds Tryd.pinned (OpenSpec.upto slotsBestSpec)

/-- 'wattlelaw10.SlotsOnly', WHERE WHAT IT READS IS OF BULK AT MOST 1048576: true; the input reads as it did. -/
def slotsOnlyUptoRow : OpenClaim := { program := "ytiipdhmfdgbmiaadoor", sum := "44e50f7045f87ee72d6e13ec07fb7f275d49440687d684129268ed081d8342a2", func := "wattle/wattlelaw10.SlotsOnly", spec := "slotsOnly", unfollowed := true, recurses := true, named := ["wattle/crc.nibbles"], apart := false, laid := [("wattle/crc.nibbles", laid_wattle_crc_nibbles)], narrowed := true }
def SlotsOnlyUptoSaid : Prop := slotsOnlyUptoRow.holds Tryd.pinned (OpenSpec.upto slotsOnlySpec)

end Rows
end Go.Proofs.YtiipdhmfdgbmiaaDoor
