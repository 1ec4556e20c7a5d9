/-
  No cell of these rows narrows 'for every input' (looked for: loops, veiled, ifaces, maps, wideKeys, modest, calm, conditions, laid).
  DERIVED. THE GIVEN ROWS OF THIS SEAT. 7 by the template 'for every input the law returns true; each argument reads behind the call as it read before'; 0 by the template 'total and deterministic' (their statements: YtadmofpipfdedaaTotals.lean).
  GIVEN WITH THE SEED: the statements are not yours to turn. If you find one false, say at which input.
  Laid BY PROGRAM, IN A SANDBOX (cutbox-rows.mjs): the forced cells as the released guide's own fill.sh prints them over the translation 4e37fff6c802a0fb… (all of the seat's roots in one cut). By AI agents, Wed Nov 11 2026. No macro, syntax, notation, axiom, sorry.
-/
import Derived.Test.YtadmofpipfdedaaChecked
import GoSem.Claim
import GoSem.ClaimJoined
import GoSem.ClaimMapViews
import Derived.JoinedTies
import Derived.KernelRfl
namespace Go.Proofs.Ytadmofpipfdedaa
/- THE CELL 'sum', in the pinned program and in every row, IS THE sha256 OF THE DUMP (.gsa) THAT YtadmofpipfdedaaProg.lean LOADS. Nothing in Lean hashes anything: it is a label: what it is worth is what the hold of that sum in a sandbox is worth. -/
noncomputable def Try.pinned : Pinned := { name := "ytadmofpipfdedaa", sum := "4e37fff6c802a0fb19e1335ffd76a14707a08c4cc229f08154c3df019d426eef", checked := Try.checked }
namespace Rows
def none {H : Type} : Left H := { results := [], args := [] }

/-- 'wattlelaw16.RebuildQuiet': WHATEVER THE INPUT: true; the input reads as it did. -/
def rebuildQuietSpec : ChangeSpec := { name := "rebuildQuiet", fn := fun _ => fun
  | [d1, d2, d3, d4, d5, d6, d7] => { results := [.lit (.bool true)], args := [d1, d2, d3, d4, d5, d6, d7] }
  | _ => none }
def rebuildQuietRow : OpenClaim := { program := "ytadmofpipfdedaa", sum := "4e37fff6c802a0fb19e1335ffd76a14707a08c4cc229f08154c3df019d426eef", func := "wattle/wattlelaw16.RebuildQuiet", spec := "rebuildQuiet", unfollowed := true, recurses := true, apart := false }
def RebuildQuietSaid : Prop := rebuildQuietRow.holds Try.pinned (OpenSpec.ofChange rebuildQuietSpec)

/-- ITS FALSE NEIGHBOUR: 'it returns false'. Refute it at one input. -/
def rebuildQuietWrong : ChangeSpec := { name := "rebuildQuiet", fn := fun _ => fun
  | [d1, d2, d3, d4, d5, d6, d7] => { results := [.lit (.bool false)], args := [d1, d2, d3, d4, d5, d6, d7] }
  | _ => none }
def RebuildQuietWrongFalsely : Prop := rebuildQuietRow.holds Try.pinned (OpenSpec.ofChange rebuildQuietWrong)

/-- 'wattlelaw16.RebuildRows': WHATEVER THE INPUT: true; the input reads as it did. -/
def rebuildRowsSpec : ChangeSpec := { name := "rebuildRows", fn := fun _ => fun
  | [d1, d2, d3, d4, d5, d6] => { results := [.lit (.bool true)], args := [d1, d2, d3, d4, d5, d6] }
  | _ => none }
def rebuildRowsRow : OpenClaim := { program := "ytadmofpipfdedaa", sum := "4e37fff6c802a0fb19e1335ffd76a14707a08c4cc229f08154c3df019d426eef", func := "wattle/wattlelaw16.RebuildRows", spec := "rebuildRows", unfollowed := true, recurses := true, apart := false }
def RebuildRowsSaid : Prop := rebuildRowsRow.holds Try.pinned (OpenSpec.ofChange rebuildRowsSpec)

/-- ITS FALSE NEIGHBOUR: 'it returns false'. Refute it at one input. -/
def rebuildRowsWrong : ChangeSpec := { name := "rebuildRows", fn := fun _ => fun
  | [d1, d2, d3, d4, d5, d6] => { results := [.lit (.bool false)], args := [d1, d2, d3, d4, d5, d6] }
  | _ => none }
def RebuildRowsWrongFalsely : Prop := rebuildRowsRow.holds Try.pinned (OpenSpec.ofChange rebuildRowsWrong)

/-- 'wattlelaw16.RebuildErrors': WHATEVER THE INPUT: true; the input reads as it did. -/
def rebuildErrorsSpec : ChangeSpec := { name := "rebuildErrors", fn := fun _ => fun
  | [d1, d2, d3, d4] => { results := [.lit (.bool true)], args := [d1, d2, d3, d4] }
  | _ => none }
def rebuildErrorsRow : OpenClaim := { program := "ytadmofpipfdedaa", sum := "4e37fff6c802a0fb19e1335ffd76a14707a08c4cc229f08154c3df019d426eef", func := "wattle/wattlelaw16.RebuildErrors", spec := "rebuildErrors", unfollowed := true, recurses := true, apart := false }
def RebuildErrorsSaid : Prop := rebuildErrorsRow.holds Try.pinned (OpenSpec.ofChange rebuildErrorsSpec)

/-- ITS FALSE NEIGHBOUR: 'it returns false'. Refute it at one input. -/
def rebuildErrorsWrong : ChangeSpec := { name := "rebuildErrors", fn := fun _ => fun
  | [d1, d2, d3, d4] => { results := [.lit (.bool false)], args := [d1, d2, d3, d4] }
  | _ => none }
def RebuildErrorsWrongFalsely : Prop := rebuildErrorsRow.holds Try.pinned (OpenSpec.ofChange rebuildErrorsWrong)

/-- 'wattlelaw16.RebuildTwo': WHATEVER THE INPUT: true; the input reads as it did. -/
def rebuildTwoSpec : ChangeSpec := { name := "rebuildTwo", fn := fun _ => fun
  | [d1, d2, d3, d4] => { results := [.lit (.bool true)], args := [d1, d2, d3, d4] }
  | _ => none }
def rebuildTwoRow : OpenClaim := { program := "ytadmofpipfdedaa", sum := "4e37fff6c802a0fb19e1335ffd76a14707a08c4cc229f08154c3df019d426eef", func := "wattle/wattlelaw16.RebuildTwo", spec := "rebuildTwo", unfollowed := true, recurses := true, apart := false }
def RebuildTwoSaid : Prop := rebuildTwoRow.holds Try.pinned (OpenSpec.ofChange rebuildTwoSpec)

/-- ITS FALSE NEIGHBOUR: 'it returns false'. Refute it at one input. -/
def rebuildTwoWrong : ChangeSpec := { name := "rebuildTwo", fn := fun _ => fun
  | [d1, d2, d3, d4] => { results := [.lit (.bool false)], args := [d1, d2, d3, d4] }
  | _ => none }
def RebuildTwoWrongFalsely : Prop := rebuildTwoRow.holds Try.pinned (OpenSpec.ofChange rebuildTwoWrong)

/-- 'wattlelaw17.ScrubErrors': WHATEVER THE INPUT: true; the input reads as it did. -/
def scrubErrorsSpec : ChangeSpec := { name := "scrubErrors", fn := fun _ => fun
  | [d1, d2, d3, d4] => { results := [.lit (.bool true)], args := [d1, d2, d3, d4] }
  | _ => none }
def scrubErrorsRow : OpenClaim := { program := "ytadmofpipfdedaa", sum := "4e37fff6c802a0fb19e1335ffd76a14707a08c4cc229f08154c3df019d426eef", func := "wattle/wattlelaw17.ScrubErrors", spec := "scrubErrors", unfollowed := true, recurses := true, apart := false }
def ScrubErrorsSaid : Prop := scrubErrorsRow.holds Try.pinned (OpenSpec.ofChange scrubErrorsSpec)

/-- ITS FALSE NEIGHBOUR: 'it returns false'. Refute it at one input. -/
def scrubErrorsWrong : ChangeSpec := { name := "scrubErrors", fn := fun _ => fun
  | [d1, d2, d3, d4] => { results := [.lit (.bool false)], args := [d1, d2, d3, d4] }
  | _ => none }
def ScrubErrorsWrongFalsely : Prop := scrubErrorsRow.holds Try.pinned (OpenSpec.ofChange scrubErrorsWrong)

/-- 'wattlelaw17.ScrubFinds': WHATEVER THE INPUT: true; the input reads as it did. -/
def scrubFindsSpec : ChangeSpec := { name := "scrubFinds", fn := fun _ => fun
  | [d1, d2, d3, d4, d5, d6] => { results := [.lit (.bool true)], args := [d1, d2, d3, d4, d5, d6] }
  | _ => none }
def scrubFindsRow : OpenClaim := { program := "ytadmofpipfdedaa", sum := "4e37fff6c802a0fb19e1335ffd76a14707a08c4cc229f08154c3df019d426eef", func := "wattle/wattlelaw17.ScrubFinds", spec := "scrubFinds", unfollowed := true, recurses := true, apart := false }
def ScrubFindsSaid : Prop := scrubFindsRow.holds Try.pinned (OpenSpec.ofChange scrubFindsSpec)

/-- ITS FALSE NEIGHBOUR: 'it returns false'. Refute it at one input. -/
def scrubFindsWrong : ChangeSpec := { name := "scrubFinds", fn := fun _ => fun
  | [d1, d2, d3, d4, d5, d6] => { results := [.lit (.bool false)], args := [d1, d2, d3, d4, d5, d6] }
  | _ => none }
def ScrubFindsWrongFalsely : Prop := scrubFindsRow.holds Try.pinned (OpenSpec.ofChange scrubFindsWrong)

/-- 'wattlelaw17.ScrubAll': WHATEVER THE INPUT: true; the input reads as it did. -/
def scrubAllSpec : ChangeSpec := { name := "scrubAll", fn := fun _ => fun
  | [d1, d2, d3, d4, d5, d6] => { results := [.lit (.bool true)], args := [d1, d2, d3, d4, d5, d6] }
  | _ => none }
def scrubAllRow : OpenClaim := { program := "ytadmofpipfdedaa", sum := "4e37fff6c802a0fb19e1335ffd76a14707a08c4cc229f08154c3df019d426eef", func := "wattle/wattlelaw17.ScrubAll", spec := "scrubAll", unfollowed := true, recurses := true, apart := false }
def ScrubAllSaid : Prop := scrubAllRow.holds Try.pinned (OpenSpec.ofChange scrubAllSpec)

/-- ITS FALSE NEIGHBOUR: 'it returns false'. Refute it at one input. -/
def scrubAllWrong : ChangeSpec := { name := "scrubAll", fn := fun _ => fun
  | [d1, d2, d3, d4, d5, d6] => { results := [.lit (.bool false)], args := [d1, d2, d3, d4, d5, d6] }
  | _ => none }
def ScrubAllWrongFalsely : Prop := scrubAllRow.holds Try.pinned (OpenSpec.ofChange scrubAllWrong)

/- THE SECOND FORM. 'bulk': how many values and letters a reading holds, each counted each time it is reached (what is shared counts as often as it is met; a slice's spare places count too). A statement '..UptoSaid' is the law's where the arguments, and the package variables that the reading takes, are together of bulk at most 1048576: NARROWER than '..Said'. Prove '..Said' where nothing that the law and all that it calls make is longer than what came in: it says more and counts as full. Else prove '..UptoSaid'. A law counts once. -/
mutual
def uptoBulk {H : Type} : DataW H → Nat
  | .lit (.string bytes) => bytes.length + 1
  | .lit _ => 1
  | .nil => 1
  | .ptr d => uptoBulk d + 1
  | .slice elems spare => uptoBulkAll elems + uptoBulkAll spare + 1
  | .agg parts => uptoBulkAll parts + 1
  | .iface _ d => uptoBulk d + 1
  | .map entries => uptoBulkEntries entries + 1
  | .held _ => 1
def uptoBulkAll {H : Type} : List (DataW H) → Nat
  | [] => 0
  | d :: r => uptoBulk d + uptoBulkAll r
def uptoBulkEntries {H : Type} : List (Lit × DataW H) → Nat
  | [] => 0
  | x :: r => uptoBulkEntry x + uptoBulkEntries r
def uptoBulkEntry {H : Type} : Lit × DataW H → Nat
  | (.string bytes, d) => bytes.length + uptoBulk d + 1
  | (_, d) => uptoBulk d + 1
 end
def uptoSmall : (H : Type) → List (DataW H) → Bool := fun _ ds => decide (uptoBulkAll ds ≤ 1048576)
def OpenSpec.upto (s : _root_.Go.ChangeSpec) : _root_.Go.OpenSpec := { _root_.Go.OpenSpec.ofChange s with cond := some uptoSmall }

/-- 'wattlelaw16.RebuildQuiet', WHERE WHAT IT READS IS OF BULK AT MOST 1048576: true; the input reads as it did. -/
def rebuildQuietUptoRow : OpenClaim := { program := "ytadmofpipfdedaa", sum := "4e37fff6c802a0fb19e1335ffd76a14707a08c4cc229f08154c3df019d426eef", func := "wattle/wattlelaw16.RebuildQuiet", spec := "rebuildQuiet", unfollowed := true, recurses := true, apart := false, narrowed := true }
def RebuildQuietUptoSaid : Prop := rebuildQuietUptoRow.holds Try.pinned (OpenSpec.upto rebuildQuietSpec)

/-- 'wattlelaw16.RebuildRows', WHERE WHAT IT READS IS OF BULK AT MOST 1048576: true; the input reads as it did. -/
def rebuildRowsUptoRow : OpenClaim := { program := "ytadmofpipfdedaa", sum := "4e37fff6c802a0fb19e1335ffd76a14707a08c4cc229f08154c3df019d426eef", func := "wattle/wattlelaw16.RebuildRows", spec := "rebuildRows", unfollowed := true, recurses := true, apart := false, narrowed := true }
def RebuildRowsUptoSaid : Prop := rebuildRowsUptoRow.holds Try.pinned (OpenSpec.upto rebuildRowsSpec)

/-- 'wattlelaw16.RebuildErrors', WHERE WHAT IT READS IS OF BULK AT MOST 1048576: true; the input reads as it did. -/
def rebuildErrorsUptoRow : OpenClaim := { program := "ytadmofpipfdedaa", sum := "4e37fff6c802a0fb19e1335ffd76a14707a08c4cc229f08154c3df019d426eef", func := "wattle/wattlelaw16.RebuildErrors", spec := "rebuildErrors", unfollowed := true, recurses := true, apart := false, narrowed := true }
def RebuildErrorsUptoSaid : Prop := rebuildErrorsUptoRow.holds Try.pinned (OpenSpec.upto rebuildErrorsSpec)

/-- 'wattlelaw16.RebuildTwo', WHERE WHAT IT READS IS OF BULK AT MOST 1048576: true; the input reads as it did. -/
def rebuildTwoUptoRow : OpenClaim := { program := "ytadmofpipfdedaa", sum := "4e37fff6c802a0fb19e1335ffd76a14707a08c4cc229f08154c3df019d426eef", func := "wattle/wattlelaw16.RebuildTwo", spec := "rebuildTwo", unfollowed := true, recurses := true, apart := false, narrowed := true }
def RebuildTwoUptoSaid : Prop := rebuildTwoUptoRow.holds Try.pinned (OpenSpec.upto rebuildTwoSpec)

/-- 'wattlelaw17.ScrubErrors', WHERE WHAT IT READS IS OF BULK AT MOST 1048576: true; the input reads as it did. -/
def scrubErrorsUptoRow : OpenClaim := { program := "ytadmofpipfdedaa", sum := "4e37fff6c802a0fb19e1335ffd76a14707a08c4cc229f08154c3df019d426eef", func := "wattle/wattlelaw17.ScrubErrors", spec := "scrubErrors", unfollowed := true, recurses := true, apart := false, narrowed := true }
def ScrubErrorsUptoSaid : Prop := scrubErrorsUptoRow.holds Try.pinned (OpenSpec.upto scrubErrorsSpec)

/-- 'wattlelaw17.ScrubFinds', WHERE WHAT IT READS IS OF BULK AT MOST 1048576: true; the input reads as it did. -/
def scrubFindsUptoRow : OpenClaim := { program := "ytadmofpipfdedaa", sum := "4e37fff6c802a0fb19e1335ffd76a14707a08c4cc229f08154c3df019d426eef", func := "wattle/wattlelaw17.ScrubFinds", spec := "scrubFinds", unfollowed := true, recurses := true, apart := false, narrowed := true }
def ScrubFindsUptoSaid : Prop := scrubFindsUptoRow.holds Try.pinned (OpenSpec.upto scrubFindsSpec)

/-- 'wattlelaw17.ScrubAll', WHERE WHAT IT READS IS OF BULK AT MOST 1048576: true; the input reads as it did. -/
def scrubAllUptoRow : OpenClaim := { program := "ytadmofpipfdedaa", sum := "4e37fff6c802a0fb19e1335ffd76a14707a08c4cc229f08154c3df019d426eef", func := "wattle/wattlelaw17.ScrubAll", spec := "scrubAll", unfollowed := true, recurses := true, apart := false, narrowed := true }
def ScrubAllUptoSaid : Prop := scrubAllUptoRow.holds Try.pinned (OpenSpec.upto scrubAllSpec)

end Rows
end Go.Proofs.Ytadmofpipfdedaa
