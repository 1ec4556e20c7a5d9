/-
  No cell of these rows narrows 'for every input' (looked for: loops, veiled, ifaces, maps, wideKeys, modest, calm, conditions, laid).
  DERIVED. THE GIVEN ROWS OF THIS SEAT. 3 by the template 'for every input the law returns true; each argument reads behind the call as it read before'; 0 by the template 'total and deterministic' (their statements: YtldfoadildaljaaTotals.lean).
  GIVEN WITH THE SEED: the statements are not yours to turn. If you find one false, say at which input.
  Laid BY PROGRAM, IN A SANDBOX (cutbox-rows.mjs): the forced cells as the released guide's own fill.sh prints them over the translation e61b6d1a455fe006… (all of the seat's roots in one cut). By AI agents, Wed Nov 11 2026. No macro, syntax, notation, axiom, sorry.
-/
import Derived.Test.YtldfoadildaljaaChecked
import GoSem.Claim
import GoSem.ClaimJoined
import GoSem.ClaimMapViews
import Derived.JoinedTies
import Derived.KernelRfl
namespace Go.Proofs.Ytldfoadildaljaa
/- THE CELL 'sum', in the pinned program and in every row, IS THE sha256 OF THE DUMP (.gsa) THAT YtldfoadildaljaaProg.lean LOADS. Nothing in Lean hashes anything: it is a label: what it is worth is what the hold of that sum in a sandbox is worth. -/
noncomputable def Try.pinned : Pinned := { name := "ytldfoadildaljaa", sum := "e61b6d1a455fe006d808848e648397dd63e5f8997ba40cec096f85861bdba4cb", checked := Try.checked }
namespace Rows
def none {H : Type} : Left H := { results := [], args := [] }

/-- 'wattlelaw20.WindowErrors': WHATEVER THE INPUT: true; the input reads as it did. -/
def windowErrorsSpec : ChangeSpec := { name := "windowErrors", fn := fun _ => fun
  | [d1, d2, d3, d4] => { results := [.lit (.bool true)], args := [d1, d2, d3, d4] }
  | _ => none }
def windowErrorsRow : OpenClaim := { program := "ytldfoadildaljaa", sum := "e61b6d1a455fe006d808848e648397dd63e5f8997ba40cec096f85861bdba4cb", func := "wattle/wattlelaw20.WindowErrors", spec := "windowErrors", unfollowed := true, recurses := true, apart := false }
def WindowErrorsSaid : Prop := windowErrorsRow.holds Try.pinned (OpenSpec.ofChange windowErrorsSpec)

/-- ITS FALSE NEIGHBOUR: 'it returns false'. Refute it at one input. -/
def windowErrorsWrong : ChangeSpec := { name := "windowErrors", fn := fun _ => fun
  | [d1, d2, d3, d4] => { results := [.lit (.bool false)], args := [d1, d2, d3, d4] }
  | _ => none }
def WindowErrorsWrongFalsely : Prop := windowErrorsRow.holds Try.pinned (OpenSpec.ofChange windowErrorsWrong)

/-- 'wattlelaw20.WindowLost': WHATEVER THE INPUT: true; the input reads as it did. -/
def windowLostSpec : ChangeSpec := { name := "windowLost", fn := fun _ => fun
  | [d1, d2, d3, d4, d5, d6] => { results := [.lit (.bool true)], args := [d1, d2, d3, d4, d5, d6] }
  | _ => none }
def windowLostRow : OpenClaim := { program := "ytldfoadildaljaa", sum := "e61b6d1a455fe006d808848e648397dd63e5f8997ba40cec096f85861bdba4cb", func := "wattle/wattlelaw20.WindowLost", spec := "windowLost", unfollowed := true, recurses := true, apart := false }
def WindowLostSaid : Prop := windowLostRow.holds Try.pinned (OpenSpec.ofChange windowLostSpec)

/-- ITS FALSE NEIGHBOUR: 'it returns false'. Refute it at one input. -/
def windowLostWrong : ChangeSpec := { name := "windowLost", fn := fun _ => fun
  | [d1, d2, d3, d4, d5, d6] => { results := [.lit (.bool false)], args := [d1, d2, d3, d4, d5, d6] }
  | _ => none }
def WindowLostWrongFalsely : Prop := windowLostRow.holds Try.pinned (OpenSpec.ofChange windowLostWrong)

/-- 'wattlelaw20.WindowWrites': WHATEVER THE INPUT: true; the input reads as it did. -/
def windowWritesSpec : ChangeSpec := { name := "windowWrites", fn := fun _ => fun
  | [d1, d2, d3, d4, d5] => { results := [.lit (.bool true)], args := [d1, d2, d3, d4, d5] }
  | _ => none }
def windowWritesRow : OpenClaim := { program := "ytldfoadildaljaa", sum := "e61b6d1a455fe006d808848e648397dd63e5f8997ba40cec096f85861bdba4cb", func := "wattle/wattlelaw20.WindowWrites", spec := "windowWrites", unfollowed := true, recurses := true, apart := false }
def WindowWritesSaid : Prop := windowWritesRow.holds Try.pinned (OpenSpec.ofChange windowWritesSpec)

/-- ITS FALSE NEIGHBOUR: 'it returns false'. Refute it at one input. -/
def windowWritesWrong : ChangeSpec := { name := "windowWrites", fn := fun _ => fun
  | [d1, d2, d3, d4, d5] => { results := [.lit (.bool false)], args := [d1, d2, d3, d4, d5] }
  | _ => none }
def WindowWritesWrongFalsely : Prop := windowWritesRow.holds Try.pinned (OpenSpec.ofChange windowWritesWrong)

/- THE SECOND FORM. 'bulk': how many values and letters a reading holds, each counted each time it is reached (what is shared counts as often as it is met; a slice's spare places count too). A statement '..UptoSaid' is the law's where the arguments, and the package variables that the reading takes, are together of bulk at most 1048576: NARROWER than '..Said'. Prove '..Said' where nothing that the law and all that it calls make is longer than what came in: it says more and counts as full. Else prove '..UptoSaid'. A law counts once. -/
mutual
def uptoBulk {H : Type} : DataW H → Nat
  | .lit (.string bytes) => bytes.length + 1
  | .lit _ => 1
  | .nil => 1
  | .ptr d => uptoBulk d + 1
  | .slice elems spare => uptoBulkAll elems + uptoBulkAll spare + 1
  | .agg parts => uptoBulkAll parts + 1
  | .iface _ d => uptoBulk d + 1
  | .map entries => uptoBulkEntries entries + 1
  | .held _ => 1
def uptoBulkAll {H : Type} : List (DataW H) → Nat
  | [] => 0
  | d :: r => uptoBulk d + uptoBulkAll r
def uptoBulkEntries {H : Type} : List (Lit × DataW H) → Nat
  | [] => 0
  | x :: r => uptoBulkEntry x + uptoBulkEntries r
def uptoBulkEntry {H : Type} : Lit × DataW H → Nat
  | (.string bytes, d) => bytes.length + uptoBulk d + 1
  | (_, d) => uptoBulk d + 1
 end
def uptoSmall : (H : Type) → List (DataW H) → Bool := fun _ ds => decide (uptoBulkAll ds ≤ 1048576)
def OpenSpec.upto (s : _root_.Go.ChangeSpec) : _root_.Go.OpenSpec := { _root_.Go.OpenSpec.ofChange s with cond := some uptoSmall }

/-- 'wattlelaw20.WindowErrors', WHERE WHAT IT READS IS OF BULK AT MOST 1048576: true; the input reads as it did. -/
def windowErrorsUptoRow : OpenClaim := { program := "ytldfoadildaljaa", sum := "e61b6d1a455fe006d808848e648397dd63e5f8997ba40cec096f85861bdba4cb", func := "wattle/wattlelaw20.WindowErrors", spec := "windowErrors", unfollowed := true, recurses := true, apart := false, narrowed := true }
def WindowErrorsUptoSaid : Prop := windowErrorsUptoRow.holds Try.pinned (OpenSpec.upto windowErrorsSpec)

/-- 'wattlelaw20.WindowLost', WHERE WHAT IT READS IS OF BULK AT MOST 1048576: true; the input reads as it did. -/
def windowLostUptoRow : OpenClaim := { program := "ytldfoadildaljaa", sum := "e61b6d1a455fe006d808848e648397dd63e5f8997ba40cec096f85861bdba4cb", func := "wattle/wattlelaw20.WindowLost", spec := "windowLost", unfollowed := true, recurses := true, apart := false, narrowed := true }
def WindowLostUptoSaid : Prop := windowLostUptoRow.holds Try.pinned (OpenSpec.upto windowLostSpec)

/-- 'wattlelaw20.WindowWrites', WHERE WHAT IT READS IS OF BULK AT MOST 1048576: true; the input reads as it did. -/
def windowWritesUptoRow : OpenClaim := { program := "ytldfoadildaljaa", sum := "e61b6d1a455fe006d808848e648397dd63e5f8997ba40cec096f85861bdba4cb", func := "wattle/wattlelaw20.WindowWrites", spec := "windowWrites", unfollowed := true, recurses := true, apart := false, narrowed := true }
def WindowWritesUptoSaid : Prop := windowWritesUptoRow.holds Try.pinned (OpenSpec.upto windowWritesSpec)

end Rows
end Go.Proofs.Ytldfoadildaljaa
