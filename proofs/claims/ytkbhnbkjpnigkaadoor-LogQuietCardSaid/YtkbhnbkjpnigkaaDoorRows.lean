/-
  NARROWER THAN 'FOR EVERY INPUT', by the rows' own cells (each row's printed sentence says how): LogOne: laid · LogQuiet: laid · LogPlays: laid · LogGreatest: laid.
  DERIVED. THE GIVEN ROWS OF THIS SEAT. 4 by the template 'for every input the law returns true; each argument reads behind the call as it read before'; 0 by the template 'total and deterministic' (their statements: YtkbhnbkjpnigkaaDoorTotals.lean).
  GIVEN WITH THE SEED: the statements are not yours to turn. If you find one false, say at which input.
  Laid BY PROGRAM, IN A SANDBOX (cutbox-rows.mjs): the forced cells as the released guide's own fill.sh prints them over the translation 8d2e4c5eb2002a30… (all of the seat's roots in one cut). By AI agents, Wed Nov 11 2026. No macro, syntax, notation, axiom, sorry.
-/
import Derived.Test.YtkbhnbkjpnigkaaDoorChecked
import GoSem.Claim
import GoSem.ClaimJoined
import GoSem.ClaimMapViews
import Derived.JoinedTies
import Derived.KernelRfl
namespace Go.Proofs.YtkbhnbkjpnigkaaDoor
/- THE CELL 'sum', in the pinned program and in every row, IS THE sha256 OF THE DUMP (.gsa) THAT YtkbhnbkjpnigkaaDoorProg.lean LOADS. Nothing in Lean hashes anything: it is a label: what it is worth is what the hold of that sum in a sandbox is worth. -/
noncomputable def Tryd.pinned : Pinned := { name := "ytkbhnbkjpnigkaadoor", sum := "8d2e4c5eb2002a30ed7bd2189071f44d021c0a1b01d3e4aea33390ebb9d09015", checked := Tryd.checked }
namespace Rows
def none {H : Type} : Left H := { results := [], args := [] }

/- WHAT THE LISTED PACKAGE-LEVEL VARIABLES READ AS WHEN THE CALL BEGINS. Each datum BY PROGRAM (the guide's laid-datum.mjs) off the statement by which the dump's own 'gosem.cut.vars' lays the variable. In a bare row this is a premise. The card (YtkbhnbkjpnigkaaDoorCards.lean) ties it to the program's text. -/
def laid_wattle_crc_nibbles {H : Type} : DataW H := .agg [.lit (.int .u32 0), .lit (.int .u32 274646895), .lit (.int .u32 549293790), .lit (.int .u32 820201905), .lit (.int .u32 1098587580), .lit (.int .u32 1361435347), .lit (.int .u32 1640403810), .lit (.int .u32 1905808397), .lit (.int .u32 2197175160), .lit (.int .u32 2460548119), .lit (.int .u32 2722870694), .lit (.int .u32 2987750089), .lit (.int .u32 3280807620), .lit (.int .u32 3553878443), .lit (.int .u32 3811616794), .lit (.int .u32 4084100981)]

/-- 'wattlelaw12.LogOne': WHATEVER THE INPUT: true; the input reads as it did. -/
def logOneSpec : ChangeSpec := { name := "logOne", fn := fun _ => fun
  | [d1, d2, d3, d4] => { results := [.lit (.bool true)], args := [d1, d2, d3, d4] }
  | _ => none }
def logOneRow : OpenClaim := { program := "ytkbhnbkjpnigkaadoor", sum := "8d2e4c5eb2002a30ed7bd2189071f44d021c0a1b01d3e4aea33390ebb9d09015", func := "wattle/wattlelaw12.LogOne", spec := "logOne", unfollowed := true, recurses := true, named := ["wattle/crc.nibbles"], apart := false, laid := [("wattle/crc.nibbles", laid_wattle_crc_nibbles)] }
def LogOneSaid : Prop := logOneRow.holds Tryd.pinned (OpenSpec.ofChange logOneSpec)

/-- ITS FALSE NEIGHBOUR: 'it returns false'. Refute it at one input. -/
def logOneWrong : ChangeSpec := { name := "logOne", fn := fun _ => fun
  | [d1, d2, d3, d4] => { results := [.lit (.bool false)], args := [d1, d2, d3, d4] }
  | _ => none }
def LogOneWrongFalsely : Prop := logOneRow.holds Tryd.pinned (OpenSpec.ofChange logOneWrong)

/-- 'wattlelaw12.LogQuiet': WHATEVER THE INPUT: true; the input reads as it did. -/
def logQuietSpec : ChangeSpec := { name := "logQuiet", fn := fun _ => fun
  | [d1, d2, d3, d4] => { results := [.lit (.bool true)], args := [d1, d2, d3, d4] }
  | _ => none }
def logQuietRow : OpenClaim := { program := "ytkbhnbkjpnigkaadoor", sum := "8d2e4c5eb2002a30ed7bd2189071f44d021c0a1b01d3e4aea33390ebb9d09015", func := "wattle/wattlelaw12.LogQuiet", spec := "logQuiet", unfollowed := true, recurses := true, named := ["wattle/crc.nibbles"], apart := false, laid := [("wattle/crc.nibbles", laid_wattle_crc_nibbles)] }
def LogQuietSaid : Prop := logQuietRow.holds Tryd.pinned (OpenSpec.ofChange logQuietSpec)

/-- ITS FALSE NEIGHBOUR: 'it returns false'. Refute it at one input. -/
def logQuietWrong : ChangeSpec := { name := "logQuiet", fn := fun _ => fun
  | [d1, d2, d3, d4] => { results := [.lit (.bool false)], args := [d1, d2, d3, d4] }
  | _ => none }
def LogQuietWrongFalsely : Prop := logQuietRow.holds Tryd.pinned (OpenSpec.ofChange logQuietWrong)

/-- 'wattlelaw12.LogPlays': WHATEVER THE INPUT: true; the input reads as it did. -/
def logPlaysSpec : ChangeSpec := { name := "logPlays", fn := fun _ => fun
  | [d] => { results := [.lit (.bool true)], args := [d] }
  | _ => none }
def logPlaysRow : OpenClaim := { program := "ytkbhnbkjpnigkaadoor", sum := "8d2e4c5eb2002a30ed7bd2189071f44d021c0a1b01d3e4aea33390ebb9d09015", func := "wattle/wattlelaw12.LogPlays", spec := "logPlays", unfollowed := true, recurses := true, named := ["wattle/crc.nibbles"], apart := false, laid := [("wattle/crc.nibbles", laid_wattle_crc_nibbles)] }
def LogPlaysSaid : Prop := logPlaysRow.holds Tryd.pinned (OpenSpec.ofChange logPlaysSpec)

/-- ITS FALSE NEIGHBOUR: 'it returns false'. Refute it at one input. -/
def logPlaysWrong : ChangeSpec := { name := "logPlays", fn := fun _ => fun
  | [d] => { results := [.lit (.bool false)], args := [d] }
  | _ => none }
def LogPlaysWrongFalsely : Prop := logPlaysRow.holds Tryd.pinned (OpenSpec.ofChange logPlaysWrong)

/-- 'wattlelaw12.LogGreatest': WHATEVER THE INPUT: true; the input reads as it did. -/
def logGreatestSpec : ChangeSpec := { name := "logGreatest", fn := fun _ => fun
  | [d1, d2, d3, d4, d5, d6] => { results := [.lit (.bool true)], args := [d1, d2, d3, d4, d5, d6] }
  | _ => none }
def logGreatestRow : OpenClaim := { program := "ytkbhnbkjpnigkaadoor", sum := "8d2e4c5eb2002a30ed7bd2189071f44d021c0a1b01d3e4aea33390ebb9d09015", func := "wattle/wattlelaw12.LogGreatest", spec := "logGreatest", unfollowed := true, recurses := true, named := ["wattle/crc.nibbles"], apart := false, laid := [("wattle/crc.nibbles", laid_wattle_crc_nibbles)] }
def LogGreatestSaid : Prop := logGreatestRow.holds Tryd.pinned (OpenSpec.ofChange logGreatestSpec)

/-- ITS FALSE NEIGHBOUR: 'it returns false'. Refute it at one input. -/
def logGreatestWrong : ChangeSpec := { name := "logGreatest", fn := fun _ => fun
  | [d1, d2, d3, d4, d5, d6] => { results := [.lit (.bool false)], args := [d1, d2, d3, d4, d5, d6] }
  | _ => none }
def LogGreatestWrongFalsely : Prop := logGreatestRow.holds Tryd.pinned (OpenSpec.ofChange logGreatestWrong)

/- THE SECOND FORM. 'bulk': how many values and letters a reading holds, each counted each time it is reached (what is shared counts as often as it is met; a slice's spare places count too). A statement '..UptoSaid' is the law's where the arguments, and the package variables that the reading takes, are together of bulk at most 1048576: NARROWER than '..Said'. Prove '..Said' where nothing that the law and all that it calls make is longer than what came in: it says more and counts as full. Else prove '..UptoSaid'. A law counts once. -/
mutual
def uptoBulk {H : Type} : DataW H → Nat
  | .lit (.string bytes) => bytes.length + 1
  | .lit _ => 1
  | .nil => 1
  | .ptr d => uptoBulk d + 1
  | .slice elems spare => uptoBulkAll elems + uptoBulkAll spare + 1
  | .agg parts => uptoBulkAll parts + 1
  | .iface _ d => uptoBulk d + 1
  | .map entries => uptoBulkEntries entries + 1
  | .held _ => 1
def uptoBulkAll {H : Type} : List (DataW H) → Nat
  | [] => 0
  | d :: r => uptoBulk d + uptoBulkAll r
def uptoBulkEntries {H : Type} : List (Lit × DataW H) → Nat
  | [] => 0
  | x :: r => uptoBulkEntry x + uptoBulkEntries r
def uptoBulkEntry {H : Type} : Lit × DataW H → Nat
  | (.string bytes, d) => bytes.length + uptoBulk d + 1
  | (_, d) => uptoBulk d + 1
 end
def uptoSmall : (H : Type) → List (DataW H) → Bool := fun _ ds => decide (uptoBulkAll ds ≤ 1048576)
def OpenSpec.upto (s : _root_.Go.ChangeSpec) : _root_.Go.OpenSpec := { _root_.Go.OpenSpec.ofChange s with cond := some uptoSmall }

/-- 'wattlelaw12.LogOne', WHERE WHAT IT READS IS OF BULK AT MOST 1048576: true; the input reads as it did. -/
def logOneUptoRow : OpenClaim := { program := "ytkbhnbkjpnigkaadoor", sum := "8d2e4c5eb2002a30ed7bd2189071f44d021c0a1b01d3e4aea33390ebb9d09015", func := "wattle/wattlelaw12.LogOne", spec := "logOne", unfollowed := true, recurses := true, named := ["wattle/crc.nibbles"], apart := false, laid := [("wattle/crc.nibbles", laid_wattle_crc_nibbles)], narrowed := true }
def LogOneUptoSaid : Prop := logOneUptoRow.holds Tryd.pinned (OpenSpec.upto logOneSpec)

/-- 'wattlelaw12.LogQuiet', WHERE WHAT IT READS IS OF BULK AT MOST 1048576: true; the input reads as it did. -/
def logQuietUptoRow : OpenClaim := { program := "ytkbhnbkjpnigkaadoor", sum := "8d2e4c5eb2002a30ed7bd2189071f44d021c0a1b01d3e4aea33390ebb9d09015", func := "wattle/wattlelaw12.LogQuiet", spec := "logQuiet", unfollowed := true, recurses := true, named := ["wattle/crc.nibbles"], apart := false, laid := [("wattle/crc.nibbles", laid_wattle_crc_nibbles)], narrowed := true }
def LogQuietUptoSaid : Prop := logQuietUptoRow.holds Tryd.pinned (OpenSpec.upto logQuietSpec)

/-- 'wattlelaw12.LogPlays', WHERE WHAT IT READS IS OF BULK AT MOST 1048576: true; the input reads as it did. -/
def logPlaysUptoRow : OpenClaim := { program := "ytkbhnbkjpnigkaadoor", sum := "8d2e4c5eb2002a30ed7bd2189071f44d021c0a1b01d3e4aea33390ebb9d09015", func := "wattle/wattlelaw12.LogPlays", spec := "logPlays", unfollowed := true, recurses := true, named := ["wattle/crc.nibbles"], apart := false, laid := [("wattle/crc.nibbles", laid_wattle_crc_nibbles)], narrowed := true }
def LogPlaysUptoSaid : Prop := logPlaysUptoRow.holds Tryd.pinned (OpenSpec.upto logPlaysSpec)

/-- 'wattlelaw12.LogGreatest', WHERE WHAT IT READS IS OF BULK AT MOST 1048576: true; the input reads as it did. -/
def logGreatestUptoRow : OpenClaim := { program := "ytkbhnbkjpnigkaadoor", sum := "8d2e4c5eb2002a30ed7bd2189071f44d021c0a1b01d3e4aea33390ebb9d09015", func := "wattle/wattlelaw12.LogGreatest", spec := "logGreatest", unfollowed := true, recurses := true, named := ["wattle/crc.nibbles"], apart := false, laid := [("wattle/crc.nibbles", laid_wattle_crc_nibbles)], narrowed := true }
def LogGreatestUptoSaid : Prop := logGreatestUptoRow.holds Tryd.pinned (OpenSpec.upto logGreatestSpec)

end Rows
end Go.Proofs.YtkbhnbkjpnigkaaDoor
