/-
  No cell of these rows narrows 'for every input' (looked for: loops, veiled, ifaces, maps, wideKeys, modest, calm, conditions, laid).
  DERIVED. THE GIVEN ROWS OF THIS SEAT. 5 by the template 'for every input the law returns true; each argument reads behind the call as it read before'; 0 by the template 'total and deterministic' (their statements: YthhmalmkengfmaaTotals.lean).
  GIVEN WITH THE SEED: the statements are not yours to turn. If you find one false, say at which input.
  Laid BY PROGRAM, IN A SANDBOX (cutbox-rows.mjs): the forced cells as the released guide's own fill.sh prints them over the translation 20d3d28f290b160b… (all of the seat's roots in one cut). By AI agents, Wed Nov 11 2026. No macro, syntax, notation, axiom, sorry.
-/
import Derived.Test.YthhmalmkengfmaaChecked
import GoSem.Claim
import GoSem.ClaimJoined
import GoSem.ClaimMapViews
import Derived.JoinedTies
import Derived.KernelRfl
namespace Go.Proofs.Ythhmalmkengfmaa
/- THE CELL 'sum', in the pinned program and in every row, IS THE sha256 OF THE DUMP (.gsa) THAT YthhmalmkengfmaaProg.lean LOADS. Nothing in Lean hashes anything: it is a label: what it is worth is what the hold of that sum in a sandbox is worth. -/
noncomputable def Try.pinned : Pinned := { name := "ythhmalmkengfmaa", sum := "20d3d28f290b160b19c922725b1cc5efe8013c435d96e31e6c9c067882e8396a", checked := Try.checked }
namespace Rows
def none {H : Type} : Left H := { results := [], args := [] }

/-- 'wattlelaw02.GfForms': WHATEVER THE INPUT: true; the input reads as it did. -/
def gfFormsSpec : ChangeSpec := { name := "gfForms", fn := fun _ => fun
  | [d] => { results := [.lit (.bool true)], args := [d] }
  | _ => none }
def gfFormsRow : OpenClaim := { program := "ythhmalmkengfmaa", sum := "20d3d28f290b160b19c922725b1cc5efe8013c435d96e31e6c9c067882e8396a", func := "wattle/wattlelaw02.GfForms", spec := "gfForms", apart := false }
def GfFormsSaid : Prop := gfFormsRow.holds Try.pinned (OpenSpec.ofChange gfFormsSpec)

/-- ITS FALSE NEIGHBOUR: 'it returns false'. Refute it at one input. -/
def gfFormsWrong : ChangeSpec := { name := "gfForms", fn := fun _ => fun
  | [d] => { results := [.lit (.bool false)], args := [d] }
  | _ => none }
def GfFormsWrongFalsely : Prop := gfFormsRow.holds Try.pinned (OpenSpec.ofChange gfFormsWrong)

/-- 'wattlelaw02.GfAll': WHATEVER THE INPUT: true; the input reads as it did. -/
def gfAllSpec : ChangeSpec := { name := "gfAll", fn := fun _ => fun
  | [d] => { results := [.lit (.bool true)], args := [d] }
  | _ => none }
def gfAllRow : OpenClaim := { program := "ythhmalmkengfmaa", sum := "20d3d28f290b160b19c922725b1cc5efe8013c435d96e31e6c9c067882e8396a", func := "wattle/wattlelaw02.GfAll", spec := "gfAll", apart := false }
def GfAllSaid : Prop := gfAllRow.holds Try.pinned (OpenSpec.ofChange gfAllSpec)

/-- ITS FALSE NEIGHBOUR: 'it returns false'. Refute it at one input. -/
def gfAllWrong : ChangeSpec := { name := "gfAll", fn := fun _ => fun
  | [d] => { results := [.lit (.bool false)], args := [d] }
  | _ => none }
def GfAllWrongFalsely : Prop := gfAllRow.holds Try.pinned (OpenSpec.ofChange gfAllWrong)

/-- 'wattlelaw02.GfTells': WHATEVER THE INPUT: true; the input reads as it did. -/
def gfTellsSpec : ChangeSpec := { name := "gfTells", fn := fun _ => fun
  | [d1, d2, d3] => { results := [.lit (.bool true)], args := [d1, d2, d3] }
  | _ => none }
def gfTellsRow : OpenClaim := { program := "ythhmalmkengfmaa", sum := "20d3d28f290b160b19c922725b1cc5efe8013c435d96e31e6c9c067882e8396a", func := "wattle/wattlelaw02.GfTells", spec := "gfTells", apart := false }
def GfTellsSaid : Prop := gfTellsRow.holds Try.pinned (OpenSpec.ofChange gfTellsSpec)

/-- ITS FALSE NEIGHBOUR: 'it returns false'. Refute it at one input. -/
def gfTellsWrong : ChangeSpec := { name := "gfTells", fn := fun _ => fun
  | [d1, d2, d3] => { results := [.lit (.bool false)], args := [d1, d2, d3] }
  | _ => none }
def GfTellsWrongFalsely : Prop := gfTellsRow.holds Try.pinned (OpenSpec.ofChange gfTellsWrong)

/-- 'wattlelaw02.GfField': WHATEVER THE INPUT: true; the input reads as it did. -/
def gfFieldSpec : ChangeSpec := { name := "gfField", fn := fun _ => fun
  | [d1, d2, d3, d4, d5] => { results := [.lit (.bool true)], args := [d1, d2, d3, d4, d5] }
  | _ => none }
def gfFieldRow : OpenClaim := { program := "ythhmalmkengfmaa", sum := "20d3d28f290b160b19c922725b1cc5efe8013c435d96e31e6c9c067882e8396a", func := "wattle/wattlelaw02.GfField", spec := "gfField", apart := false }
def GfFieldSaid : Prop := gfFieldRow.holds Try.pinned (OpenSpec.ofChange gfFieldSpec)

/-- ITS FALSE NEIGHBOUR: 'it returns false'. Refute it at one input. -/
def gfFieldWrong : ChangeSpec := { name := "gfField", fn := fun _ => fun
  | [d1, d2, d3, d4, d5] => { results := [.lit (.bool false)], args := [d1, d2, d3, d4, d5] }
  | _ => none }
def GfFieldWrongFalsely : Prop := gfFieldRow.holds Try.pinned (OpenSpec.ofChange gfFieldWrong)

/-- 'wattlelaw02.GfSquares': WHATEVER THE INPUT: true; the input reads as it did. -/
def gfSquaresSpec : ChangeSpec := { name := "gfSquares", fn := fun _ => fun
  | [d1, d2] => { results := [.lit (.bool true)], args := [d1, d2] }
  | _ => none }
def gfSquaresRow : OpenClaim := { program := "ythhmalmkengfmaa", sum := "20d3d28f290b160b19c922725b1cc5efe8013c435d96e31e6c9c067882e8396a", func := "wattle/wattlelaw02.GfSquares", spec := "gfSquares", apart := false }
def GfSquaresSaid : Prop := gfSquaresRow.holds Try.pinned (OpenSpec.ofChange gfSquaresSpec)

/-- ITS FALSE NEIGHBOUR: 'it returns false'. Refute it at one input. -/
def gfSquaresWrong : ChangeSpec := { name := "gfSquares", fn := fun _ => fun
  | [d1, d2] => { results := [.lit (.bool false)], args := [d1, d2] }
  | _ => none }
def GfSquaresWrongFalsely : Prop := gfSquaresRow.holds Try.pinned (OpenSpec.ofChange gfSquaresWrong)

/- THE SECOND FORM. 'bulk': how many values and letters a reading holds, each counted each time it is reached (what is shared counts as often as it is met; a slice's spare places count too). A statement '..UptoSaid' is the law's where the arguments, and the package variables that the reading takes, are together of bulk at most 1048576: NARROWER than '..Said'. Prove '..Said' where nothing that the law and all that it calls make is longer than what came in: it says more and counts as full. Else prove '..UptoSaid'. A law counts once. -/
mutual
def uptoBulk {H : Type} : DataW H → Nat
  | .lit (.string bytes) => bytes.length + 1
  | .lit _ => 1
  | .nil => 1
  | .ptr d => uptoBulk d + 1
  | .slice elems spare => uptoBulkAll elems + uptoBulkAll spare + 1
  | .agg parts => uptoBulkAll parts + 1
  | .iface _ d => uptoBulk d + 1
  | .map entries => uptoBulkEntries entries + 1
  | .held _ => 1
def uptoBulkAll {H : Type} : List (DataW H) → Nat
  | [] => 0
  | d :: r => uptoBulk d + uptoBulkAll r
def uptoBulkEntries {H : Type} : List (Lit × DataW H) → Nat
  | [] => 0
  | x :: r => uptoBulkEntry x + uptoBulkEntries r
def uptoBulkEntry {H : Type} : Lit × DataW H → Nat
  | (.string bytes, d) => bytes.length + uptoBulk d + 1
  | (_, d) => uptoBulk d + 1
 end
def uptoSmall : (H : Type) → List (DataW H) → Bool := fun _ ds => decide (uptoBulkAll ds ≤ 1048576)
def OpenSpec.upto (s : _root_.Go.ChangeSpec) : _root_.Go.OpenSpec := { _root_.Go.OpenSpec.ofChange s with cond := some uptoSmall }

/-- 'wattlelaw02.GfForms', WHERE WHAT IT READS IS OF BULK AT MOST 1048576: true; the input reads as it did. -/
def gfFormsUptoRow : OpenClaim := { program := "ythhmalmkengfmaa", sum := "20d3d28f290b160b19c922725b1cc5efe8013c435d96e31e6c9c067882e8396a", func := "wattle/wattlelaw02.GfForms", spec := "gfForms", apart := false, narrowed := true }
def GfFormsUptoSaid : Prop := gfFormsUptoRow.holds Try.pinned (OpenSpec.upto gfFormsSpec)

/-- 'wattlelaw02.GfAll', WHERE WHAT IT READS IS OF BULK AT MOST 1048576: true; the input reads as it did. -/
def gfAllUptoRow : OpenClaim := { program := "ythhmalmkengfmaa", sum := "20d3d28f290b160b19c922725b1cc5efe8013c435d96e31e6c9c067882e8396a", func := "wattle/wattlelaw02.GfAll", spec := "gfAll", apart := false, narrowed := true }
def GfAllUptoSaid : Prop := gfAllUptoRow.holds Try.pinned (OpenSpec.upto gfAllSpec)

/-- 'wattlelaw02.GfTells', WHERE WHAT IT READS IS OF BULK AT MOST 1048576: true; the input reads as it did. -/
def gfTellsUptoRow : OpenClaim := { program := "ythhmalmkengfmaa", sum := "20d3d28f290b160b19c922725b1cc5efe8013c435d96e31e6c9c067882e8396a", func := "wattle/wattlelaw02.GfTells", spec := "gfTells", apart := false, narrowed := true }
def GfTellsUptoSaid : Prop := gfTellsUptoRow.holds Try.pinned (OpenSpec.upto gfTellsSpec)

/-- 'wattlelaw02.GfField', WHERE WHAT IT READS IS OF BULK AT MOST 1048576: true; the input reads as it did. -/
def gfFieldUptoRow : OpenClaim := { program := "ythhmalmkengfmaa", sum := "20d3d28f290b160b19c922725b1cc5efe8013c435d96e31e6c9c067882e8396a", func := "wattle/wattlelaw02.GfField", spec := "gfField", apart := false, narrowed := true }
def GfFieldUptoSaid : Prop := gfFieldUptoRow.holds Try.pinned (OpenSpec.upto gfFieldSpec)

/-- 'wattlelaw02.GfSquares', WHERE WHAT IT READS IS OF BULK AT MOST 1048576: true; the input reads as it did. -/
def gfSquaresUptoRow : OpenClaim := { program := "ythhmalmkengfmaa", sum := "20d3d28f290b160b19c922725b1cc5efe8013c435d96e31e6c9c067882e8396a", func := "wattle/wattlelaw02.GfSquares", spec := "gfSquares", apart := false, narrowed := true }
def GfSquaresUptoSaid : Prop := gfSquaresUptoRow.holds Try.pinned (OpenSpec.upto gfSquaresSpec)

end Rows
end Go.Proofs.Ythhmalmkengfmaa
