/-
  NARROWER THAN 'FOR EVERY INPUT', by the rows' own cells (each row's printed sentence says how): RecordForms: laid · RecordTells: laid · RecordDecodes: laid · RecordBack: laid · RecordUnlike: laid.
  DERIVED. THE GIVEN ROWS OF THIS SEAT. 5 by the template 'for every input the law returns true; each argument reads behind the call as it read before'; 0 by the template 'total and deterministic' (their statements: YtfgiomidlfoonaaDoorTotals.lean).
  GIVEN WITH THE SEED: the statements are not yours to turn. If you find one false, say at which input.
  Laid BY PROGRAM, IN A SANDBOX (cutbox-rows.mjs): the forced cells as the released guide's own fill.sh prints them over the translation 36f7dc7b3ef3a6df… (all of the seat's roots in one cut). By AI agents, Wed Nov 11 2026. No macro, syntax, notation, axiom, sorry.
-/
import Derived.Test.YtfgiomidlfoonaaDoorChecked
import GoSem.Claim
import GoSem.ClaimJoined
import GoSem.ClaimMapViews
import Derived.JoinedTies
import Derived.KernelRfl
namespace Go.Proofs.YtfgiomidlfoonaaDoor
/- THE CELL 'sum', in the pinned program and in every row, IS THE sha256 OF THE DUMP (.gsa) THAT YtfgiomidlfoonaaDoorProg.lean LOADS. Nothing in Lean hashes anything: it is a label: what it is worth is what the hold of that sum in a sandbox is worth. -/
noncomputable def Tryd.pinned : Pinned := { name := "ytfgiomidlfoonaadoor", sum := "36f7dc7b3ef3a6df03dae96cbe953fa5599a795bbc99cad00351c76979b32c31", checked := Tryd.checked }
namespace Rows
def none {H : Type} : Left H := { results := [], args := [] }

/- WHAT THE LISTED PACKAGE-LEVEL VARIABLES READ AS WHEN THE CALL BEGINS. Each datum BY PROGRAM (the guide's laid-datum.mjs) off the statement by which the dump's own 'gosem.cut.vars' lays the variable. In a bare row this is a premise. The card (YtfgiomidlfoonaaDoorCards.lean) ties it to the program's text. -/
def laid_wattle_crc_nibbles {H : Type} : DataW H := .agg [.lit (.int .u32 0), .lit (.int .u32 274646895), .lit (.int .u32 549293790), .lit (.int .u32 820201905), .lit (.int .u32 1098587580), .lit (.int .u32 1361435347), .lit (.int .u32 1640403810), .lit (.int .u32 1905808397), .lit (.int .u32 2197175160), .lit (.int .u32 2460548119), .lit (.int .u32 2722870694), .lit (.int .u32 2987750089), .lit (.int .u32 3280807620), .lit (.int .u32 3553878443), .lit (.int .u32 3811616794), .lit (.int .u32 4084100981)]

/-- 'wattlelaw11.RecordForms': WHATEVER THE INPUT: true; the input reads as it did. -/
def recordFormsSpec : ChangeSpec := { name := "recordForms", fn := fun _ => fun
  | [d] => { results := [.lit (.bool true)], args := [d] }
  | _ => none }
def recordFormsRow : OpenClaim := { program := "ytfgiomidlfoonaadoor", sum := "36f7dc7b3ef3a6df03dae96cbe953fa5599a795bbc99cad00351c76979b32c31", func := "wattle/wattlelaw11.RecordForms", spec := "recordForms", unfollowed := true, recurses := true, named := ["wattle/crc.nibbles"], apart := false, laid := [("wattle/crc.nibbles", laid_wattle_crc_nibbles)] }
def RecordFormsSaid : Prop := recordFormsRow.holds Tryd.pinned (OpenSpec.ofChange recordFormsSpec)

/-- ITS FALSE NEIGHBOUR: 'it returns false'. Refute it at one input. -/
def recordFormsWrong : ChangeSpec := { name := "recordForms", fn := fun _ => fun
  | [d] => { results := [.lit (.bool false)], args := [d] }
  | _ => none }
def RecordFormsWrongFalsely : Prop := recordFormsRow.holds Tryd.pinned (OpenSpec.ofChange recordFormsWrong)

/-- 'wattlelaw11.RecordTells': WHATEVER THE INPUT: true; the input reads as it did. -/
def recordTellsSpec : ChangeSpec := { name := "recordTells", fn := fun _ => fun
  | [d1, d2, d3] => { results := [.lit (.bool true)], args := [d1, d2, d3] }
  | _ => none }
def recordTellsRow : OpenClaim := { program := "ytfgiomidlfoonaadoor", sum := "36f7dc7b3ef3a6df03dae96cbe953fa5599a795bbc99cad00351c76979b32c31", func := "wattle/wattlelaw11.RecordTells", spec := "recordTells", unfollowed := true, recurses := true, named := ["wattle/crc.nibbles"], apart := false, laid := [("wattle/crc.nibbles", laid_wattle_crc_nibbles)] }
def RecordTellsSaid : Prop := recordTellsRow.holds Tryd.pinned (OpenSpec.ofChange recordTellsSpec)

/-- ITS FALSE NEIGHBOUR: 'it returns false'. Refute it at one input. -/
def recordTellsWrong : ChangeSpec := { name := "recordTells", fn := fun _ => fun
  | [d1, d2, d3] => { results := [.lit (.bool false)], args := [d1, d2, d3] }
  | _ => none }
def RecordTellsWrongFalsely : Prop := recordTellsRow.holds Tryd.pinned (OpenSpec.ofChange recordTellsWrong)

/-- 'wattlelaw11.RecordDecodes': WHATEVER THE INPUT: true; the input reads as it did. -/
def recordDecodesSpec : ChangeSpec := { name := "recordDecodes", fn := fun _ => fun
  | [d1, d2, d3, d4, d5, d6, d7] => { results := [.lit (.bool true)], args := [d1, d2, d3, d4, d5, d6, d7] }
  | _ => none }
def recordDecodesRow : OpenClaim := { program := "ytfgiomidlfoonaadoor", sum := "36f7dc7b3ef3a6df03dae96cbe953fa5599a795bbc99cad00351c76979b32c31", func := "wattle/wattlelaw11.RecordDecodes", spec := "recordDecodes", unfollowed := true, recurses := true, named := ["wattle/crc.nibbles"], apart := false, laid := [("wattle/crc.nibbles", laid_wattle_crc_nibbles)] }
def RecordDecodesSaid : Prop := recordDecodesRow.holds Tryd.pinned (OpenSpec.ofChange recordDecodesSpec)

/-- ITS FALSE NEIGHBOUR: 'it returns false'. Refute it at one input. -/
def recordDecodesWrong : ChangeSpec := { name := "recordDecodes", fn := fun _ => fun
  | [d1, d2, d3, d4, d5, d6, d7] => { results := [.lit (.bool false)], args := [d1, d2, d3, d4, d5, d6, d7] }
  | _ => none }
def RecordDecodesWrongFalsely : Prop := recordDecodesRow.holds Tryd.pinned (OpenSpec.ofChange recordDecodesWrong)

/-- 'wattlelaw11.RecordBack': WHATEVER THE INPUT: true; the input reads as it did. -/
def recordBackSpec : ChangeSpec := { name := "recordBack", fn := fun _ => fun
  | [d1, d2, d3, d4, d5, d6] => { results := [.lit (.bool true)], args := [d1, d2, d3, d4, d5, d6] }
  | _ => none }
def recordBackRow : OpenClaim := { program := "ytfgiomidlfoonaadoor", sum := "36f7dc7b3ef3a6df03dae96cbe953fa5599a795bbc99cad00351c76979b32c31", func := "wattle/wattlelaw11.RecordBack", spec := "recordBack", unfollowed := true, recurses := true, named := ["wattle/crc.nibbles"], apart := false, laid := [("wattle/crc.nibbles", laid_wattle_crc_nibbles)] }
def RecordBackSaid : Prop := recordBackRow.holds Tryd.pinned (OpenSpec.ofChange recordBackSpec)

/-- ITS FALSE NEIGHBOUR: 'it returns false'. Refute it at one input. -/
def recordBackWrong : ChangeSpec := { name := "recordBack", fn := fun _ => fun
  | [d1, d2, d3, d4, d5, d6] => { results := [.lit (.bool false)], args := [d1, d2, d3, d4, d5, d6] }
  | _ => none }
def RecordBackWrongFalsely : Prop := recordBackRow.holds Tryd.pinned (OpenSpec.ofChange recordBackWrong)

/-- 'wattlelaw11.RecordUnlike': WHATEVER THE INPUT: true; the input reads as it did. -/
def recordUnlikeSpec : ChangeSpec := { name := "recordUnlike", fn := fun _ => fun
  | [d1, d2, d3, d4, d5, d6] => { results := [.lit (.bool true)], args := [d1, d2, d3, d4, d5, d6] }
  | _ => none }
def recordUnlikeRow : OpenClaim := { program := "ytfgiomidlfoonaadoor", sum := "36f7dc7b3ef3a6df03dae96cbe953fa5599a795bbc99cad00351c76979b32c31", func := "wattle/wattlelaw11.RecordUnlike", spec := "recordUnlike", unfollowed := true, recurses := true, named := ["wattle/crc.nibbles"], apart := false, laid := [("wattle/crc.nibbles", laid_wattle_crc_nibbles)] }
def RecordUnlikeSaid : Prop := recordUnlikeRow.holds Tryd.pinned (OpenSpec.ofChange recordUnlikeSpec)

/-- ITS FALSE NEIGHBOUR: 'it returns false'. Refute it at one input. -/
def recordUnlikeWrong : ChangeSpec := { name := "recordUnlike", fn := fun _ => fun
  | [d1, d2, d3, d4, d5, d6] => { results := [.lit (.bool false)], args := [d1, d2, d3, d4, d5, d6] }
  | _ => none }
def RecordUnlikeWrongFalsely : Prop := recordUnlikeRow.holds Tryd.pinned (OpenSpec.ofChange recordUnlikeWrong)

/- THE SECOND FORM. 'bulk': how many values and letters a reading holds, each counted each time it is reached (what is shared counts as often as it is met; a slice's spare places count too). A statement '..UptoSaid' is the law's where the arguments, and the package variables that the reading takes, are together of bulk at most 1048576: NARROWER than '..Said'. Prove '..Said' where nothing that the law and all that it calls make is longer than what came in: it says more and counts as full. Else prove '..UptoSaid'. A law counts once. -/
mutual
def uptoBulk {H : Type} : DataW H → Nat
  | .lit (.string bytes) => bytes.length + 1
  | .lit _ => 1
  | .nil => 1
  | .ptr d => uptoBulk d + 1
  | .slice elems spare => uptoBulkAll elems + uptoBulkAll spare + 1
  | .agg parts => uptoBulkAll parts + 1
  | .iface _ d => uptoBulk d + 1
  | .map entries => uptoBulkEntries entries + 1
  | .held _ => 1
def uptoBulkAll {H : Type} : List (DataW H) → Nat
  | [] => 0
  | d :: r => uptoBulk d + uptoBulkAll r
def uptoBulkEntries {H : Type} : List (Lit × DataW H) → Nat
  | [] => 0
  | x :: r => uptoBulkEntry x + uptoBulkEntries r
def uptoBulkEntry {H : Type} : Lit × DataW H → Nat
  | (.string bytes, d) => bytes.length + uptoBulk d + 1
  | (_, d) => uptoBulk d + 1
 end
def uptoSmall : (H : Type) → List (DataW H) → Bool := fun _ ds => decide (uptoBulkAll ds ≤ 1048576)
def OpenSpec.upto (s : _root_.Go.ChangeSpec) : _root_.Go.OpenSpec := { _root_.Go.OpenSpec.ofChange s with cond := some uptoSmall }

/-- 'wattlelaw11.RecordForms', WHERE WHAT IT READS IS OF BULK AT MOST 1048576: true; the input reads as it did. -/
def recordFormsUptoRow : OpenClaim := { program := "ytfgiomidlfoonaadoor", sum := "36f7dc7b3ef3a6df03dae96cbe953fa5599a795bbc99cad00351c76979b32c31", func := "wattle/wattlelaw11.RecordForms", spec := "recordForms", unfollowed := true, recurses := true, named := ["wattle/crc.nibbles"], apart := false, laid := [("wattle/crc.nibbles", laid_wattle_crc_nibbles)], narrowed := true }
def RecordFormsUptoSaid : Prop := recordFormsUptoRow.holds Tryd.pinned (OpenSpec.upto recordFormsSpec)

/-- 'wattlelaw11.RecordTells', WHERE WHAT IT READS IS OF BULK AT MOST 1048576: true; the input reads as it did. -/
def recordTellsUptoRow : OpenClaim := { program := "ytfgiomidlfoonaadoor", sum := "36f7dc7b3ef3a6df03dae96cbe953fa5599a795bbc99cad00351c76979b32c31", func := "wattle/wattlelaw11.RecordTells", spec := "recordTells", unfollowed := true, recurses := true, named := ["wattle/crc.nibbles"], apart := false, laid := [("wattle/crc.nibbles", laid_wattle_crc_nibbles)], narrowed := true }
def RecordTellsUptoSaid : Prop := recordTellsUptoRow.holds Tryd.pinned (OpenSpec.upto recordTellsSpec)

/-- 'wattlelaw11.RecordDecodes', WHERE WHAT IT READS IS OF BULK AT MOST 1048576: true; the input reads as it did. -/
def recordDecodesUptoRow : OpenClaim := { program := "ytfgiomidlfoonaadoor", sum := "36f7dc7b3ef3a6df03dae96cbe953fa5599a795bbc99cad00351c76979b32c31", func := "wattle/wattlelaw11.RecordDecodes", spec := "recordDecodes", unfollowed := true, recurses := true, named := ["wattle/crc.nibbles"], apart := false, laid := [("wattle/crc.nibbles", laid_wattle_crc_nibbles)], narrowed := true }
def RecordDecodesUptoSaid : Prop := recordDecodesUptoRow.holds Tryd.pinned (OpenSpec.upto recordDecodesSpec)

/-- 'wattlelaw11.RecordBack', WHERE WHAT IT READS IS OF BULK AT MOST 1048576: true; the input reads as it did. -/
def recordBackUptoRow : OpenClaim := { program := "ytfgiomidlfoonaadoor", sum := "36f7dc7b3ef3a6df03dae96cbe953fa5599a795bbc99cad00351c76979b32c31", func := "wattle/wattlelaw11.RecordBack", spec := "recordBack", unfollowed := true, recurses := true, named := ["wattle/crc.nibbles"], apart := false, laid := [("wattle/crc.nibbles", laid_wattle_crc_nibbles)], narrowed := true }
def RecordBackUptoSaid : Prop := recordBackUptoRow.holds Tryd.pinned (OpenSpec.upto recordBackSpec)

/-- 'wattlelaw11.RecordUnlike', WHERE WHAT IT READS IS OF BULK AT MOST 1048576: true; the input reads as it did. -/
def recordUnlikeUptoRow : OpenClaim := { program := "ytfgiomidlfoonaadoor", sum := "36f7dc7b3ef3a6df03dae96cbe953fa5599a795bbc99cad00351c76979b32c31", func := "wattle/wattlelaw11.RecordUnlike", spec := "recordUnlike", unfollowed := true, recurses := true, named := ["wattle/crc.nibbles"], apart := false, laid := [("wattle/crc.nibbles", laid_wattle_crc_nibbles)], narrowed := true }
def RecordUnlikeUptoSaid : Prop := recordUnlikeUptoRow.holds Tryd.pinned (OpenSpec.upto recordUnlikeSpec)

end Rows
end Go.Proofs.YtfgiomidlfoonaaDoor
