/-
  No cell of these rows narrows 'for every input' (looked for: loops, veiled, ifaces, maps, wideKeys, modest, calm, conditions, laid).
  DERIVED. THE GIVEN ROWS OF THIS SEAT. 4 by the template 'for every input the law returns true; each argument reads behind the call as it read before'; 0 by the template 'total and deterministic' (their statements: YtfhbdfhndgfneaaTotals.lean).
  GIVEN WITH THE SEED: the statements are not yours to turn. If you find one false, say at which input.
  Laid BY PROGRAM, IN A SANDBOX (cutbox-rows.mjs): the forced cells as the released guide's own fill.sh prints them over the translation 4685e05ac7951d6d… (all of the seat's roots in one cut). By AI agents, Wed Nov 11 2026. No macro, syntax, notation, axiom, sorry.
-/
import Derived.Test.YtfhbdfhndgfneaaChecked
import GoSem.Claim
import GoSem.ClaimJoined
import GoSem.ClaimMapViews
import Derived.JoinedTies
import Derived.KernelRfl
namespace Go.Proofs.Ytfhbdfhndgfneaa
/- THE CELL 'sum', in the pinned program and in every row, IS THE sha256 OF THE DUMP (.gsa) THAT YtfhbdfhndgfneaaProg.lean LOADS. Nothing in Lean hashes anything: it is a label: what it is worth is what the hold of that sum in a sandbox is worth. -/
noncomputable def Try.pinned : Pinned := { name := "ytfhbdfhndgfneaa", sum := "4685e05ac7951d6dca0e7eb8b5ce21a6eea7b0227590ae1726734453f699aec4", checked := Try.checked }
namespace Rows
def none {H : Type} : Left H := { results := [], args := [] }

/-- 'wattlelaw03.SyndForms': WHATEVER THE INPUT: true; the input reads as it did. -/
def syndFormsSpec : ChangeSpec := { name := "syndForms", fn := fun _ => fun
  | [d] => { results := [.lit (.bool true)], args := [d] }
  | _ => none }
def syndFormsRow : OpenClaim := { program := "ytfhbdfhndgfneaa", sum := "4685e05ac7951d6dca0e7eb8b5ce21a6eea7b0227590ae1726734453f699aec4", func := "wattle/wattlelaw03.SyndForms", spec := "syndForms", apart := false }
def SyndFormsSaid : Prop := syndFormsRow.holds Try.pinned (OpenSpec.ofChange syndFormsSpec)

/-- ITS FALSE NEIGHBOUR: 'it returns false'. Refute it at one input. -/
def syndFormsWrong : ChangeSpec := { name := "syndForms", fn := fun _ => fun
  | [d] => { results := [.lit (.bool false)], args := [d] }
  | _ => none }
def SyndFormsWrongFalsely : Prop := syndFormsRow.holds Try.pinned (OpenSpec.ofChange syndFormsWrong)

/-- 'wattlelaw03.SyndMemory': WHATEVER THE INPUT: true; the input reads as it did. -/
def syndMemorySpec : ChangeSpec := { name := "syndMemory", fn := fun _ => fun
  | [d1, d2] => { results := [.lit (.bool true)], args := [d1, d2] }
  | _ => none }
def syndMemoryRow : OpenClaim := { program := "ytfhbdfhndgfneaa", sum := "4685e05ac7951d6dca0e7eb8b5ce21a6eea7b0227590ae1726734453f699aec4", func := "wattle/wattlelaw03.SyndMemory", spec := "syndMemory", apart := false }
def SyndMemorySaid : Prop := syndMemoryRow.holds Try.pinned (OpenSpec.ofChange syndMemorySpec)

/-- ITS FALSE NEIGHBOUR: 'it returns false'. Refute it at one input. -/
def syndMemoryWrong : ChangeSpec := { name := "syndMemory", fn := fun _ => fun
  | [d1, d2] => { results := [.lit (.bool false)], args := [d1, d2] }
  | _ => none }
def SyndMemoryWrongFalsely : Prop := syndMemoryRow.holds Try.pinned (OpenSpec.ofChange syndMemoryWrong)

/-- 'wattlelaw03.SyndTells': WHATEVER THE INPUT: true; the input reads as it did. -/
def syndTellsSpec : ChangeSpec := { name := "syndTells", fn := fun _ => fun
  | [d1, d2, d3] => { results := [.lit (.bool true)], args := [d1, d2, d3] }
  | _ => none }
def syndTellsRow : OpenClaim := { program := "ytfhbdfhndgfneaa", sum := "4685e05ac7951d6dca0e7eb8b5ce21a6eea7b0227590ae1726734453f699aec4", func := "wattle/wattlelaw03.SyndTells", spec := "syndTells", apart := false }
def SyndTellsSaid : Prop := syndTellsRow.holds Try.pinned (OpenSpec.ofChange syndTellsSpec)

/-- ITS FALSE NEIGHBOUR: 'it returns false'. Refute it at one input. -/
def syndTellsWrong : ChangeSpec := { name := "syndTells", fn := fun _ => fun
  | [d1, d2, d3] => { results := [.lit (.bool false)], args := [d1, d2, d3] }
  | _ => none }
def SyndTellsWrongFalsely : Prop := syndTellsRow.holds Try.pinned (OpenSpec.ofChange syndTellsWrong)

/-- 'wattlelaw03.SyndSplit': WHATEVER THE INPUT: true; the input reads as it did. -/
def syndSplitSpec : ChangeSpec := { name := "syndSplit", fn := fun _ => fun
  | [d1, d2, d3] => { results := [.lit (.bool true)], args := [d1, d2, d3] }
  | _ => none }
def syndSplitRow : OpenClaim := { program := "ytfhbdfhndgfneaa", sum := "4685e05ac7951d6dca0e7eb8b5ce21a6eea7b0227590ae1726734453f699aec4", func := "wattle/wattlelaw03.SyndSplit", spec := "syndSplit", apart := false }
def SyndSplitSaid : Prop := syndSplitRow.holds Try.pinned (OpenSpec.ofChange syndSplitSpec)

/-- ITS FALSE NEIGHBOUR: 'it returns false'. Refute it at one input. -/
def syndSplitWrong : ChangeSpec := { name := "syndSplit", fn := fun _ => fun
  | [d1, d2, d3] => { results := [.lit (.bool false)], args := [d1, d2, d3] }
  | _ => none }
def SyndSplitWrongFalsely : Prop := syndSplitRow.holds Try.pinned (OpenSpec.ofChange syndSplitWrong)

/- THE SECOND FORM. 'bulk': how many values and letters a reading holds, each counted each time it is reached (what is shared counts as often as it is met; a slice's spare places count too). A statement '..UptoSaid' is the law's where the arguments, and the package variables that the reading takes, are together of bulk at most 1048576: NARROWER than '..Said'. Prove '..Said' where nothing that the law and all that it calls make is longer than what came in: it says more and counts as full. Else prove '..UptoSaid'. A law counts once. -/
mutual
def uptoBulk {H : Type} : DataW H → Nat
  | .lit (.string bytes) => bytes.length + 1
  | .lit _ => 1
  | .nil => 1
  | .ptr d => uptoBulk d + 1
  | .slice elems spare => uptoBulkAll elems + uptoBulkAll spare + 1
  | .agg parts => uptoBulkAll parts + 1
  | .iface _ d => uptoBulk d + 1
  | .map entries => uptoBulkEntries entries + 1
  | .held _ => 1
def uptoBulkAll {H : Type} : List (DataW H) → Nat
  | [] => 0
  | d :: r => uptoBulk d + uptoBulkAll r
def uptoBulkEntries {H : Type} : List (Lit × DataW H) → Nat
  | [] => 0
  | x :: r => uptoBulkEntry x + uptoBulkEntries r
def uptoBulkEntry {H : Type} : Lit × DataW H → Nat
  | (.string bytes, d) => bytes.length + uptoBulk d + 1
  | (_, d) => uptoBulk d + 1
 end
def uptoSmall : (H : Type) → List (DataW H) → Bool := fun _ ds => decide (uptoBulkAll ds ≤ 1048576)
def OpenSpec.upto (s : _root_.Go.ChangeSpec) : _root_.Go.OpenSpec := { _root_.Go.OpenSpec.ofChange s with cond := some uptoSmall }

/-- 'wattlelaw03.SyndForms', WHERE WHAT IT READS IS OF BULK AT MOST 1048576: true; the input reads as it did. -/
def syndFormsUptoRow : OpenClaim := { program := "ytfhbdfhndgfneaa", sum := "4685e05ac7951d6dca0e7eb8b5ce21a6eea7b0227590ae1726734453f699aec4", func := "wattle/wattlelaw03.SyndForms", spec := "syndForms", apart := false, narrowed := true }
def SyndFormsUptoSaid : Prop := syndFormsUptoRow.holds Try.pinned (OpenSpec.upto syndFormsSpec)

/-- 'wattlelaw03.SyndMemory', WHERE WHAT IT READS IS OF BULK AT MOST 1048576: true; the input reads as it did. -/
def syndMemoryUptoRow : OpenClaim := { program := "ytfhbdfhndgfneaa", sum := "4685e05ac7951d6dca0e7eb8b5ce21a6eea7b0227590ae1726734453f699aec4", func := "wattle/wattlelaw03.SyndMemory", spec := "syndMemory", apart := false, narrowed := true }
def SyndMemoryUptoSaid : Prop := syndMemoryUptoRow.holds Try.pinned (OpenSpec.upto syndMemorySpec)

/-- 'wattlelaw03.SyndTells', WHERE WHAT IT READS IS OF BULK AT MOST 1048576: true; the input reads as it did. -/
def syndTellsUptoRow : OpenClaim := { program := "ytfhbdfhndgfneaa", sum := "4685e05ac7951d6dca0e7eb8b5ce21a6eea7b0227590ae1726734453f699aec4", func := "wattle/wattlelaw03.SyndTells", spec := "syndTells", apart := false, narrowed := true }
def SyndTellsUptoSaid : Prop := syndTellsUptoRow.holds Try.pinned (OpenSpec.upto syndTellsSpec)

/-- 'wattlelaw03.SyndSplit', WHERE WHAT IT READS IS OF BULK AT MOST 1048576: true; the input reads as it did. -/
def syndSplitUptoRow : OpenClaim := { program := "ytfhbdfhndgfneaa", sum := "4685e05ac7951d6dca0e7eb8b5ce21a6eea7b0227590ae1726734453f699aec4", func := "wattle/wattlelaw03.SyndSplit", spec := "syndSplit", apart := false, narrowed := true }
def SyndSplitUptoSaid : Prop := syndSplitUptoRow.holds Try.pinned (OpenSpec.upto syndSplitSpec)

end Rows
end Go.Proofs.Ytfhbdfhndgfneaa
