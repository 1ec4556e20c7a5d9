/-
  NARROWER THAN 'FOR EVERY INPUT', by the rows' own cells (each row's printed sentence says how): BackupNewest: laid · BackupLive: laid · BackupMany: laid · BackupBytes: laid.
  DERIVED. THE GIVEN ROWS OF THIS SEAT. 4 by the template 'for every input the law returns true; each argument reads behind the call as it read before'; 0 by the template 'total and deterministic' (their statements: YtjnemopocmhfkaaDoorTotals.lean).
  GIVEN WITH THE SEED: the statements are not yours to turn. If you find one false, say at which input.
  Laid BY PROGRAM, IN A SANDBOX (cutbox-rows.mjs): the forced cells as the released guide's own fill.sh prints them over the translation 981c016ecfee629f… (all of the seat's roots in one cut). By AI agents, Wed Nov 11 2026. No macro, syntax, notation, axiom, sorry.
-/
import Derived.Test.YtjnemopocmhfkaaDoorChecked
import GoSem.Claim
import GoSem.ClaimJoined
import GoSem.ClaimMapViews
import Derived.JoinedTies
import Derived.KernelRfl
namespace Go.Proofs.YtjnemopocmhfkaaDoor
/- THE CELL 'sum', in the pinned program and in every row, IS THE sha256 OF THE DUMP (.gsa) THAT YtjnemopocmhfkaaDoorProg.lean LOADS. Nothing in Lean hashes anything: it is a label: what it is worth is what the hold of that sum in a sandbox is worth. -/
noncomputable def Tryd.pinned : Pinned := { name := "ytjnemopocmhfkaadoor", sum := "981c016ecfee629f074a2490e63f9a776c4438bbd41a0f052a46341093137db6", checked := Tryd.checked }
namespace Rows
def none {H : Type} : Left H := { results := [], args := [] }

/- WHAT THE LISTED PACKAGE-LEVEL VARIABLES READ AS WHEN THE CALL BEGINS. Each datum BY PROGRAM (the guide's laid-datum.mjs) off the statement by which the dump's own 'gosem.cut.vars' lays the variable. In a bare row this is a premise. The card (YtjnemopocmhfkaaDoorCards.lean) ties it to the program's text. -/
def laid_wattle_crc_nibbles {H : Type} : DataW H := .agg [.lit (.int .u32 0), .lit (.int .u32 274646895), .lit (.int .u32 549293790), .lit (.int .u32 820201905), .lit (.int .u32 1098587580), .lit (.int .u32 1361435347), .lit (.int .u32 1640403810), .lit (.int .u32 1905808397), .lit (.int .u32 2197175160), .lit (.int .u32 2460548119), .lit (.int .u32 2722870694), .lit (.int .u32 2987750089), .lit (.int .u32 3280807620), .lit (.int .u32 3553878443), .lit (.int .u32 3811616794), .lit (.int .u32 4084100981)]

/-- 'wattlelaw19.BackupNewest': WHATEVER THE INPUT: true; the input reads as it did. -/
def backupNewestSpec : ChangeSpec := { name := "backupNewest", fn := fun _ => fun
  | [d1, d2] => { results := [.lit (.bool true)], args := [d1, d2] }
  | _ => none }
def backupNewestRow : OpenClaim := { program := "ytjnemopocmhfkaadoor", sum := "981c016ecfee629f074a2490e63f9a776c4438bbd41a0f052a46341093137db6", func := "wattle/wattlelaw19.BackupNewest", spec := "backupNewest", unfollowed := true, recurses := true, named := ["wattle/crc.nibbles"], apart := false, laid := [("wattle/crc.nibbles", laid_wattle_crc_nibbles)] }
def BackupNewestSaid : Prop := backupNewestRow.holds Tryd.pinned (OpenSpec.ofChange backupNewestSpec)

/-- ITS FALSE NEIGHBOUR: 'it returns false'. Refute it at one input. -/
def backupNewestWrong : ChangeSpec := { name := "backupNewest", fn := fun _ => fun
  | [d1, d2] => { results := [.lit (.bool false)], args := [d1, d2] }
  | _ => none }
def BackupNewestWrongFalsely : Prop := backupNewestRow.holds Tryd.pinned (OpenSpec.ofChange backupNewestWrong)

/-- 'wattlelaw19.BackupLive': WHATEVER THE INPUT: true; the input reads as it did. -/
def backupLiveSpec : ChangeSpec := { name := "backupLive", fn := fun _ => fun
  | [d1, d2, d3] => { results := [.lit (.bool true)], args := [d1, d2, d3] }
  | _ => none }
def backupLiveRow : OpenClaim := { program := "ytjnemopocmhfkaadoor", sum := "981c016ecfee629f074a2490e63f9a776c4438bbd41a0f052a46341093137db6", func := "wattle/wattlelaw19.BackupLive", spec := "backupLive", unfollowed := true, recurses := true, named := ["wattle/crc.nibbles"], apart := false, laid := [("wattle/crc.nibbles", laid_wattle_crc_nibbles)] }
def BackupLiveSaid : Prop := backupLiveRow.holds Tryd.pinned (OpenSpec.ofChange backupLiveSpec)

/-- ITS FALSE NEIGHBOUR: 'it returns false'. Refute it at one input. -/
def backupLiveWrong : ChangeSpec := { name := "backupLive", fn := fun _ => fun
  | [d1, d2, d3] => { results := [.lit (.bool false)], args := [d1, d2, d3] }
  | _ => none }
def BackupLiveWrongFalsely : Prop := backupLiveRow.holds Tryd.pinned (OpenSpec.ofChange backupLiveWrong)

/-- 'wattlelaw19.BackupMany': WHATEVER THE INPUT: true; the input reads as it did. -/
def backupManySpec : ChangeSpec := { name := "backupMany", fn := fun _ => fun
  | [d1, d2, d3, d4] => { results := [.lit (.bool true)], args := [d1, d2, d3, d4] }
  | _ => none }
def backupManyRow : OpenClaim := { program := "ytjnemopocmhfkaadoor", sum := "981c016ecfee629f074a2490e63f9a776c4438bbd41a0f052a46341093137db6", func := "wattle/wattlelaw19.BackupMany", spec := "backupMany", unfollowed := true, recurses := true, named := ["wattle/crc.nibbles"], apart := false, laid := [("wattle/crc.nibbles", laid_wattle_crc_nibbles)] }
def BackupManySaid : Prop := backupManyRow.holds Tryd.pinned (OpenSpec.ofChange backupManySpec)

/-- ITS FALSE NEIGHBOUR: 'it returns false'. Refute it at one input. -/
def backupManyWrong : ChangeSpec := { name := "backupMany", fn := fun _ => fun
  | [d1, d2, d3, d4] => { results := [.lit (.bool false)], args := [d1, d2, d3, d4] }
  | _ => none }
def BackupManyWrongFalsely : Prop := backupManyRow.holds Tryd.pinned (OpenSpec.ofChange backupManyWrong)

/-- 'wattlelaw19.BackupBytes': WHATEVER THE INPUT: true; the input reads as it did. -/
def backupBytesSpec : ChangeSpec := { name := "backupBytes", fn := fun _ => fun
  | [d1, d2, d3, d4, d5, d6] => { results := [.lit (.bool true)], args := [d1, d2, d3, d4, d5, d6] }
  | _ => none }
def backupBytesRow : OpenClaim := { program := "ytjnemopocmhfkaadoor", sum := "981c016ecfee629f074a2490e63f9a776c4438bbd41a0f052a46341093137db6", func := "wattle/wattlelaw19.BackupBytes", spec := "backupBytes", unfollowed := true, recurses := true, named := ["wattle/crc.nibbles"], apart := false, laid := [("wattle/crc.nibbles", laid_wattle_crc_nibbles)] }
def BackupBytesSaid : Prop := backupBytesRow.holds Tryd.pinned (OpenSpec.ofChange backupBytesSpec)

/-- ITS FALSE NEIGHBOUR: 'it returns false'. Refute it at one input. -/
def backupBytesWrong : ChangeSpec := { name := "backupBytes", fn := fun _ => fun
  | [d1, d2, d3, d4, d5, d6] => { results := [.lit (.bool false)], args := [d1, d2, d3, d4, d5, d6] }
  | _ => none }
def BackupBytesWrongFalsely : Prop := backupBytesRow.holds Tryd.pinned (OpenSpec.ofChange backupBytesWrong)

/- THE SECOND FORM. 'bulk': how many values and letters a reading holds, each counted each time it is reached (what is shared counts as often as it is met; a slice's spare places count too). A statement '..UptoSaid' is the law's where the arguments, and the package variables that the reading takes, are together of bulk at most 1048576: NARROWER than '..Said'. Prove '..Said' where nothing that the law and all that it calls make is longer than what came in: it says more and counts as full. Else prove '..UptoSaid'. A law counts once. -/
mutual
def uptoBulk {H : Type} : DataW H → Nat
  | .lit (.string bytes) => bytes.length + 1
  | .lit _ => 1
  | .nil => 1
  | .ptr d => uptoBulk d + 1
  | .slice elems spare => uptoBulkAll elems + uptoBulkAll spare + 1
  | .agg parts => uptoBulkAll parts + 1
  | .iface _ d => uptoBulk d + 1
  | .map entries => uptoBulkEntries entries + 1
  | .held _ => 1
def uptoBulkAll {H : Type} : List (DataW H) → Nat
  | [] => 0
  | d :: r => uptoBulk d + uptoBulkAll r
def uptoBulkEntries {H : Type} : List (Lit × DataW H) → Nat
  | [] => 0
  | x :: r => uptoBulkEntry x + uptoBulkEntries r
def uptoBulkEntry {H : Type} : Lit × DataW H → Nat
  | (.string bytes, d) => bytes.length + uptoBulk d + 1
  | (_, d) => uptoBulk d + 1
 end
def uptoSmall : (H : Type) → List (DataW H) → Bool := fun _ ds => decide (uptoBulkAll ds ≤ 1048576)
def OpenSpec.upto (s : _root_.Go.ChangeSpec) : _root_.Go.OpenSpec := { _root_.Go.OpenSpec.ofChange s with cond := some uptoSmall }

/-- 'wattlelaw19.BackupNewest', WHERE WHAT IT READS IS OF BULK AT MOST 1048576: true; the input reads as it did. -/
def backupNewestUptoRow : OpenClaim := { program := "ytjnemopocmhfkaadoor", sum := "981c016ecfee629f074a2490e63f9a776c4438bbd41a0f052a46341093137db6", func := "wattle/wattlelaw19.BackupNewest", spec := "backupNewest", unfollowed := true, recurses := true, named := ["wattle/crc.nibbles"], apart := false, laid := [("wattle/crc.nibbles", laid_wattle_crc_nibbles)], narrowed := true }
def BackupNewestUptoSaid : Prop := backupNewestUptoRow.holds Tryd.pinned (OpenSpec.upto backupNewestSpec)

/-- 'wattlelaw19.BackupLive', WHERE WHAT IT READS IS OF BULK AT MOST 1048576: true; the input reads as it did. -/
def backupLiveUptoRow : OpenClaim := { program := "ytjnemopocmhfkaadoor", sum := "981c016ecfee629f074a2490e63f9a776c4438bbd41a0f052a46341093137db6", func := "wattle/wattlelaw19.BackupLive", spec := "backupLive", unfollowed := true, recurses := true, named := ["wattle/crc.nibbles"], apart := false, laid := [("wattle/crc.nibbles", laid_wattle_crc_nibbles)], narrowed := true }
def BackupLiveUptoSaid : Prop := backupLiveUptoRow.holds Tryd.pinned (OpenSpec.upto backupLiveSpec)

/-- 'wattlelaw19.BackupMany', WHERE WHAT IT READS IS OF BULK AT MOST 1048576: true; the input reads as it did. -/
def backupManyUptoRow : OpenClaim := { program := "ytjnemopocmhfkaadoor", sum := "981c016ecfee629f074a2490e63f9a776c4438bbd41a0f052a46341093137db6", func := "wattle/wattlelaw19.BackupMany", spec := "backupMany", unfollowed := true, recurses := true, named := ["wattle/crc.nibbles"], apart := false, laid := [("wattle/crc.nibbles", laid_wattle_crc_nibbles)], narrowed := true }
def BackupManyUptoSaid : Prop := backupManyUptoRow.holds Tryd.pinned (OpenSpec.upto backupManySpec)

/-- 'wattlelaw19.BackupBytes', WHERE WHAT IT READS IS OF BULK AT MOST 1048576: true; the input reads as it did. -/
def backupBytesUptoRow : OpenClaim := { program := "ytjnemopocmhfkaadoor", sum := "981c016ecfee629f074a2490e63f9a776c4438bbd41a0f052a46341093137db6", func := "wattle/wattlelaw19.BackupBytes", spec := "backupBytes", unfollowed := true, recurses := true, named := ["wattle/crc.nibbles"], apart := false, laid := [("wattle/crc.nibbles", laid_wattle_crc_nibbles)], narrowed := true }
def BackupBytesUptoSaid : Prop := backupBytesUptoRow.holds Tryd.pinned (OpenSpec.upto backupBytesSpec)

end Rows
end Go.Proofs.YtjnemopocmhfkaaDoor
