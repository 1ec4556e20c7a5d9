/-
  NARROWER THAN 'FOR EVERY INPUT', by the rows' own cells (each row's printed sentence says how): SuperForms: laid · SuperTells: laid · SuperDecodes: laid · SuperBack: laid · SuperSealed: laid.
  DERIVED. THE GIVEN ROWS OF THIS SEAT. 5 by the template 'for every input the law returns true; each argument reads behind the call as it read before'; 0 by the template 'total and deterministic' (their statements: YtdecpkcdljpnaaaDoorTotals.lean).
  GIVEN WITH THE SEED: the statements are not yours to turn. If you find one false, say at which input.
  Laid BY PROGRAM, IN A SANDBOX (cutbox-rows.mjs): the forced cells as the released guide's own fill.sh prints them over the translation 82221ba5f0592724… (all of the seat's roots in one cut). By AI agents, Wed Nov 11 2026. No macro, syntax, notation, axiom, sorry.
-/
import Derived.Test.YtdecpkcdljpnaaaDoorChecked
import GoSem.Claim
import GoSem.ClaimJoined
import GoSem.ClaimMapViews
import Derived.JoinedTies
import Derived.KernelRfl
namespace Go.Proofs.YtdecpkcdljpnaaaDoor
/- THE CELL 'sum', in the pinned program and in every row, IS THE sha256 OF THE DUMP (.gsa) THAT YtdecpkcdljpnaaaDoorProg.lean LOADS. Nothing in Lean hashes anything: it is a label: what it is worth is what the hold of that sum in a sandbox is worth. -/
noncomputable def Tryd.pinned : Pinned := { name := "ytdecpkcdljpnaaadoor", sum := "82221ba5f05927244827bd22777284401ed2acdbe47b61d807e9ec79ee3acea0", checked := Tryd.checked }
namespace Rows
def none {H : Type} : Left H := { results := [], args := [] }

/- WHAT THE LISTED PACKAGE-LEVEL VARIABLES READ AS WHEN THE CALL BEGINS. Each datum BY PROGRAM (the guide's laid-datum.mjs) off the statement by which the dump's own 'gosem.cut.vars' lays the variable. In a bare row this is a premise. The card (YtdecpkcdljpnaaaDoorCards.lean) ties it to the program's text. -/
def laid_wattle_crc_nibbles {H : Type} : DataW H := .agg [.lit (.int .u32 0), .lit (.int .u32 274646895), .lit (.int .u32 549293790), .lit (.int .u32 820201905), .lit (.int .u32 1098587580), .lit (.int .u32 1361435347), .lit (.int .u32 1640403810), .lit (.int .u32 1905808397), .lit (.int .u32 2197175160), .lit (.int .u32 2460548119), .lit (.int .u32 2722870694), .lit (.int .u32 2987750089), .lit (.int .u32 3280807620), .lit (.int .u32 3553878443), .lit (.int .u32 3811616794), .lit (.int .u32 4084100981)]

/-- 'wattlelaw09.SuperForms': WHATEVER THE INPUT: true; the input reads as it did. -/
def superFormsSpec : ChangeSpec := { name := "superForms", fn := fun _ => fun
  | [d] => { results := [.lit (.bool true)], args := [d] }
  | _ => none }
def superFormsRow : OpenClaim := { program := "ytdecpkcdljpnaaadoor", sum := "82221ba5f05927244827bd22777284401ed2acdbe47b61d807e9ec79ee3acea0", func := "wattle/wattlelaw09.SuperForms", spec := "superForms", named := ["wattle/crc.nibbles"], apart := false, laid := [("wattle/crc.nibbles", laid_wattle_crc_nibbles)] }
def SuperFormsSaid : Prop := superFormsRow.holds Tryd.pinned (OpenSpec.ofChange superFormsSpec)

/-- ITS FALSE NEIGHBOUR: 'it returns false'. Refute it at one input. -/
def superFormsWrong : ChangeSpec := { name := "superForms", fn := fun _ => fun
  | [d] => { results := [.lit (.bool false)], args := [d] }
  | _ => none }
def SuperFormsWrongFalsely : Prop := superFormsRow.holds Tryd.pinned (OpenSpec.ofChange superFormsWrong)

/-- 'wattlelaw09.SuperTells': WHATEVER THE INPUT: true; the input reads as it did. -/
def superTellsSpec : ChangeSpec := { name := "superTells", fn := fun _ => fun
  | [d1, d2, d3, d4, d5, d6, d7] => { results := [.lit (.bool true)], args := [d1, d2, d3, d4, d5, d6, d7] }
  | _ => none }
def superTellsRow : OpenClaim := { program := "ytdecpkcdljpnaaadoor", sum := "82221ba5f05927244827bd22777284401ed2acdbe47b61d807e9ec79ee3acea0", func := "wattle/wattlelaw09.SuperTells", spec := "superTells", unfollowed := true, recurses := true, named := ["wattle/crc.nibbles"], apart := false, laid := [("wattle/crc.nibbles", laid_wattle_crc_nibbles)] }
def SuperTellsSaid : Prop := superTellsRow.holds Tryd.pinned (OpenSpec.ofChange superTellsSpec)

/-- ITS FALSE NEIGHBOUR: 'it returns false'. Refute it at one input. -/
def superTellsWrong : ChangeSpec := { name := "superTells", fn := fun _ => fun
  | [d1, d2, d3, d4, d5, d6, d7] => { results := [.lit (.bool false)], args := [d1, d2, d3, d4, d5, d6, d7] }
  | _ => none }
def SuperTellsWrongFalsely : Prop := superTellsRow.holds Tryd.pinned (OpenSpec.ofChange superTellsWrong)

/-- 'wattlelaw09.SuperDecodes': WHATEVER THE INPUT: true; the input reads as it did. -/
def superDecodesSpec : ChangeSpec := { name := "superDecodes", fn := fun _ => fun
  | [d1, d2, d3, d4, d5, d6, d7, d8, d9, d10, d11] => { results := [.lit (.bool true)], args := [d1, d2, d3, d4, d5, d6, d7, d8, d9, d10, d11] }
  | _ => none }
def superDecodesRow : OpenClaim := { program := "ytdecpkcdljpnaaadoor", sum := "82221ba5f05927244827bd22777284401ed2acdbe47b61d807e9ec79ee3acea0", func := "wattle/wattlelaw09.SuperDecodes", spec := "superDecodes", unfollowed := true, recurses := true, named := ["wattle/crc.nibbles"], apart := false, laid := [("wattle/crc.nibbles", laid_wattle_crc_nibbles)] }
def SuperDecodesSaid : Prop := superDecodesRow.holds Tryd.pinned (OpenSpec.ofChange superDecodesSpec)

/-- ITS FALSE NEIGHBOUR: 'it returns false'. Refute it at one input. -/
def superDecodesWrong : ChangeSpec := { name := "superDecodes", fn := fun _ => fun
  | [d1, d2, d3, d4, d5, d6, d7, d8, d9, d10, d11] => { results := [.lit (.bool false)], args := [d1, d2, d3, d4, d5, d6, d7, d8, d9, d10, d11] }
  | _ => none }
def SuperDecodesWrongFalsely : Prop := superDecodesRow.holds Tryd.pinned (OpenSpec.ofChange superDecodesWrong)

/-- 'wattlelaw09.SuperBack': WHATEVER THE INPUT: true; the input reads as it did. -/
def superBackSpec : ChangeSpec := { name := "superBack", fn := fun _ => fun
  | [d1, d2, d3, d4, d5, d6, d7, d8, d9, d10] => { results := [.lit (.bool true)], args := [d1, d2, d3, d4, d5, d6, d7, d8, d9, d10] }
  | _ => none }
def superBackRow : OpenClaim := { program := "ytdecpkcdljpnaaadoor", sum := "82221ba5f05927244827bd22777284401ed2acdbe47b61d807e9ec79ee3acea0", func := "wattle/wattlelaw09.SuperBack", spec := "superBack", unfollowed := true, recurses := true, named := ["wattle/crc.nibbles"], apart := false, laid := [("wattle/crc.nibbles", laid_wattle_crc_nibbles)] }
def SuperBackSaid : Prop := superBackRow.holds Tryd.pinned (OpenSpec.ofChange superBackSpec)

/-- ITS FALSE NEIGHBOUR: 'it returns false'. Refute it at one input. -/
def superBackWrong : ChangeSpec := { name := "superBack", fn := fun _ => fun
  | [d1, d2, d3, d4, d5, d6, d7, d8, d9, d10] => { results := [.lit (.bool false)], args := [d1, d2, d3, d4, d5, d6, d7, d8, d9, d10] }
  | _ => none }
def SuperBackWrongFalsely : Prop := superBackRow.holds Tryd.pinned (OpenSpec.ofChange superBackWrong)

/-- 'wattlelaw09.SuperSealed': WHATEVER THE INPUT: true; the input reads as it did. -/
def superSealedSpec : ChangeSpec := { name := "superSealed", fn := fun _ => fun
  | [d1, d2, d3, d4, d5, d6, d7, d8, d9] => { results := [.lit (.bool true)], args := [d1, d2, d3, d4, d5, d6, d7, d8, d9] }
  | _ => none }
def superSealedRow : OpenClaim := { program := "ytdecpkcdljpnaaadoor", sum := "82221ba5f05927244827bd22777284401ed2acdbe47b61d807e9ec79ee3acea0", func := "wattle/wattlelaw09.SuperSealed", spec := "superSealed", unfollowed := true, recurses := true, named := ["wattle/crc.nibbles"], apart := false, laid := [("wattle/crc.nibbles", laid_wattle_crc_nibbles)] }
def SuperSealedSaid : Prop := superSealedRow.holds Tryd.pinned (OpenSpec.ofChange superSealedSpec)

/-- ITS FALSE NEIGHBOUR: 'it returns false'. Refute it at one input. -/
def superSealedWrong : ChangeSpec := { name := "superSealed", fn := fun _ => fun
  | [d1, d2, d3, d4, d5, d6, d7, d8, d9] => { results := [.lit (.bool false)], args := [d1, d2, d3, d4, d5, d6, d7, d8, d9] }
  | _ => none }
def SuperSealedWrongFalsely : Prop := superSealedRow.holds Tryd.pinned (OpenSpec.ofChange superSealedWrong)

/- THE SECOND FORM. 'bulk': how many values and letters a reading holds, each counted each time it is reached (what is shared counts as often as it is met; a slice's spare places count too). A statement '..UptoSaid' is the law's where the arguments, and the package variables that the reading takes, are together of bulk at most 1048576: NARROWER than '..Said'. Prove '..Said' where nothing that the law and all that it calls make is longer than what came in: it says more and counts as full. Else prove '..UptoSaid'. A law counts once. -/
mutual
def uptoBulk {H : Type} : DataW H → Nat
  | .lit (.string bytes) => bytes.length + 1
  | .lit _ => 1
  | .nil => 1
  | .ptr d => uptoBulk d + 1
  | .slice elems spare => uptoBulkAll elems + uptoBulkAll spare + 1
  | .agg parts => uptoBulkAll parts + 1
  | .iface _ d => uptoBulk d + 1
  | .map entries => uptoBulkEntries entries + 1
  | .held _ => 1
def uptoBulkAll {H : Type} : List (DataW H) → Nat
  | [] => 0
  | d :: r => uptoBulk d + uptoBulkAll r
def uptoBulkEntries {H : Type} : List (Lit × DataW H) → Nat
  | [] => 0
  | x :: r => uptoBulkEntry x + uptoBulkEntries r
def uptoBulkEntry {H : Type} : Lit × DataW H → Nat
  | (.string bytes, d) => bytes.length + uptoBulk d + 1
  | (_, d) => uptoBulk d + 1
 end
def uptoSmall : (H : Type) → List (DataW H) → Bool := fun _ ds => decide (uptoBulkAll ds ≤ 1048576)
def OpenSpec.upto (s : _root_.Go.ChangeSpec) : _root_.Go.OpenSpec := { _root_.Go.OpenSpec.ofChange s with cond := some uptoSmall }

/-- 'wattlelaw09.SuperForms', WHERE WHAT IT READS IS OF BULK AT MOST 1048576: true; the input reads as it did. -/
def superFormsUptoRow : OpenClaim := { program := "ytdecpkcdljpnaaadoor", sum := "82221ba5f05927244827bd22777284401ed2acdbe47b61d807e9ec79ee3acea0", func := "wattle/wattlelaw09.SuperForms", spec := "superForms", named := ["wattle/crc.nibbles"], apart := false, laid := [("wattle/crc.nibbles", laid_wattle_crc_nibbles)], narrowed := true }
def SuperFormsUptoSaid : Prop := superFormsUptoRow.holds Tryd.pinned (OpenSpec.upto superFormsSpec)

/-- 'wattlelaw09.SuperTells', WHERE WHAT IT READS IS OF BULK AT MOST 1048576: true; the input reads as it did. -/
def superTellsUptoRow : OpenClaim := { program := "ytdecpkcdljpnaaadoor", sum := "82221ba5f05927244827bd22777284401ed2acdbe47b61d807e9ec79ee3acea0", func := "wattle/wattlelaw09.SuperTells", spec := "superTells", unfollowed := true, recurses := true, named := ["wattle/crc.nibbles"], apart := false, laid := [("wattle/crc.nibbles", laid_wattle_crc_nibbles)], narrowed := true }
def SuperTellsUptoSaid : Prop := superTellsUptoRow.holds Tryd.pinned (OpenSpec.upto superTellsSpec)

/-- 'wattlelaw09.SuperDecodes', WHERE WHAT IT READS IS OF BULK AT MOST 1048576: true; the input reads as it did. -/
def superDecodesUptoRow : OpenClaim := { program := "ytdecpkcdljpnaaadoor", sum := "82221ba5f05927244827bd22777284401ed2acdbe47b61d807e9ec79ee3acea0", func := "wattle/wattlelaw09.SuperDecodes", spec := "superDecodes", unfollowed := true, recurses := true, named := ["wattle/crc.nibbles"], apart := false, laid := [("wattle/crc.nibbles", laid_wattle_crc_nibbles)], narrowed := true }
def SuperDecodesUptoSaid : Prop := superDecodesUptoRow.holds Tryd.pinned (OpenSpec.upto superDecodesSpec)

/-- 'wattlelaw09.SuperBack', WHERE WHAT IT READS IS OF BULK AT MOST 1048576: true; the input reads as it did. -/
def superBackUptoRow : OpenClaim := { program := "ytdecpkcdljpnaaadoor", sum := "82221ba5f05927244827bd22777284401ed2acdbe47b61d807e9ec79ee3acea0", func := "wattle/wattlelaw09.SuperBack", spec := "superBack", unfollowed := true, recurses := true, named := ["wattle/crc.nibbles"], apart := false, laid := [("wattle/crc.nibbles", laid_wattle_crc_nibbles)], narrowed := true }
def SuperBackUptoSaid : Prop := superBackUptoRow.holds Tryd.pinned (OpenSpec.upto superBackSpec)

/-- 'wattlelaw09.SuperSealed', WHERE WHAT IT READS IS OF BULK AT MOST 1048576: true; the input reads as it did. -/
def superSealedUptoRow : OpenClaim := { program := "ytdecpkcdljpnaaadoor", sum := "82221ba5f05927244827bd22777284401ed2acdbe47b61d807e9ec79ee3acea0", func := "wattle/wattlelaw09.SuperSealed", spec := "superSealed", unfollowed := true, recurses := true, named := ["wattle/crc.nibbles"], apart := false, laid := [("wattle/crc.nibbles", laid_wattle_crc_nibbles)], narrowed := true }
def SuperSealedUptoSaid : Prop := superSealedUptoRow.holds Tryd.pinned (OpenSpec.upto superSealedSpec)

end Rows
end Go.Proofs.YtdecpkcdljpnaaaDoor
