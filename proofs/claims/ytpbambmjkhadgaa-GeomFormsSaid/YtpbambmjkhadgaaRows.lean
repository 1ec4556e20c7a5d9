/-
  No cell of these rows narrows 'for every input' (looked for: loops, veiled, ifaces, maps, wideKeys, modest, calm, conditions, laid).
  DERIVED. THE GIVEN ROWS OF THIS SEAT. 3 by the template 'for every input the law returns true; each argument reads behind the call as it read before'; 0 by the template 'total and deterministic' (their statements: YtpbambmjkhadgaaTotals.lean).
  GIVEN WITH THE SEED: the statements are not yours to turn. If you find one false, say at which input.
  Laid BY PROGRAM, IN A SANDBOX (cutbox-rows.mjs): the forced cells as the released guide's own fill.sh prints them over the translation 10a39f0031fda472… (all of the seat's roots in one cut). By AI agents, Wed Nov 11 2026. No macro, syntax, notation, axiom, sorry.
-/
import Derived.Test.YtpbambmjkhadgaaChecked
import GoSem.Claim
import GoSem.ClaimJoined
import GoSem.ClaimMapViews
import Derived.JoinedTies
import Derived.KernelRfl
namespace Go.Proofs.Ytpbambmjkhadgaa
/- THE CELL 'sum', in the pinned program and in every row, IS THE sha256 OF THE DUMP (.gsa) THAT YtpbambmjkhadgaaProg.lean LOADS. Nothing in Lean hashes anything: it is a label: what it is worth is what the hold of that sum in a sandbox is worth. -/
noncomputable def Try.pinned : Pinned := { name := "ytpbambmjkhadgaa", sum := "10a39f0031fda4722365445de034ee48939a0fcbaec01f73d275a0be69b7ee2a", checked := Try.checked }
namespace Rows
def none {H : Type} : Left H := { results := [], args := [] }

/-- 'wattlelaw07.GeomForms': WHATEVER THE INPUT: true; the input reads as it did. -/
def geomFormsSpec : ChangeSpec := { name := "geomForms", fn := fun _ => fun
  | [d] => { results := [.lit (.bool true)], args := [d] }
  | _ => none }
def geomFormsRow : OpenClaim := { program := "ytpbambmjkhadgaa", sum := "10a39f0031fda4722365445de034ee48939a0fcbaec01f73d275a0be69b7ee2a", func := "wattle/wattlelaw07.GeomForms", spec := "geomForms", apart := false }
def GeomFormsSaid : Prop := geomFormsRow.holds Try.pinned (OpenSpec.ofChange geomFormsSpec)

/-- ITS FALSE NEIGHBOUR: 'it returns false'. Refute it at one input. -/
def geomFormsWrong : ChangeSpec := { name := "geomForms", fn := fun _ => fun
  | [d] => { results := [.lit (.bool false)], args := [d] }
  | _ => none }
def GeomFormsWrongFalsely : Prop := geomFormsRow.holds Try.pinned (OpenSpec.ofChange geomFormsWrong)

/-- 'wattlelaw07.GeomTells': WHATEVER THE INPUT: true; the input reads as it did. -/
def geomTellsSpec : ChangeSpec := { name := "geomTells", fn := fun _ => fun
  | [d1, d2, d3, d4, d5] => { results := [.lit (.bool true)], args := [d1, d2, d3, d4, d5] }
  | _ => none }
def geomTellsRow : OpenClaim := { program := "ytpbambmjkhadgaa", sum := "10a39f0031fda4722365445de034ee48939a0fcbaec01f73d275a0be69b7ee2a", func := "wattle/wattlelaw07.GeomTells", spec := "geomTells", unfollowed := true, recurses := true, apart := false }
def GeomTellsSaid : Prop := geomTellsRow.holds Try.pinned (OpenSpec.ofChange geomTellsSpec)

/-- ITS FALSE NEIGHBOUR: 'it returns false'. Refute it at one input. -/
def geomTellsWrong : ChangeSpec := { name := "geomTells", fn := fun _ => fun
  | [d1, d2, d3, d4, d5] => { results := [.lit (.bool false)], args := [d1, d2, d3, d4, d5] }
  | _ => none }
def GeomTellsWrongFalsely : Prop := geomTellsRow.holds Try.pinned (OpenSpec.ofChange geomTellsWrong)

/-- 'wattlelaw07.GeomLaws': WHATEVER THE INPUT: true; the input reads as it did. -/
def geomLawsSpec : ChangeSpec := { name := "geomLaws", fn := fun _ => fun
  | [d1, d2, d3] => { results := [.lit (.bool true)], args := [d1, d2, d3] }
  | _ => none }
def geomLawsRow : OpenClaim := { program := "ytpbambmjkhadgaa", sum := "10a39f0031fda4722365445de034ee48939a0fcbaec01f73d275a0be69b7ee2a", func := "wattle/wattlelaw07.GeomLaws", spec := "geomLaws", unfollowed := true, recurses := true, apart := false }
def GeomLawsSaid : Prop := geomLawsRow.holds Try.pinned (OpenSpec.ofChange geomLawsSpec)

/-- ITS FALSE NEIGHBOUR: 'it returns false'. Refute it at one input. -/
def geomLawsWrong : ChangeSpec := { name := "geomLaws", fn := fun _ => fun
  | [d1, d2, d3] => { results := [.lit (.bool false)], args := [d1, d2, d3] }
  | _ => none }
def GeomLawsWrongFalsely : Prop := geomLawsRow.holds Try.pinned (OpenSpec.ofChange geomLawsWrong)

/- THE SECOND FORM. 'bulk': how many values and letters a reading holds, each counted each time it is reached (what is shared counts as often as it is met; a slice's spare places count too). A statement '..UptoSaid' is the law's where the arguments, and the package variables that the reading takes, are together of bulk at most 1048576: NARROWER than '..Said'. Prove '..Said' where nothing that the law and all that it calls make is longer than what came in: it says more and counts as full. Else prove '..UptoSaid'. A law counts once. -/
mutual
def uptoBulk {H : Type} : DataW H → Nat
  | .lit (.string bytes) => bytes.length + 1
  | .lit _ => 1
  | .nil => 1
  | .ptr d => uptoBulk d + 1
  | .slice elems spare => uptoBulkAll elems + uptoBulkAll spare + 1
  | .agg parts => uptoBulkAll parts + 1
  | .iface _ d => uptoBulk d + 1
  | .map entries => uptoBulkEntries entries + 1
  | .held _ => 1
def uptoBulkAll {H : Type} : List (DataW H) → Nat
  | [] => 0
  | d :: r => uptoBulk d + uptoBulkAll r
def uptoBulkEntries {H : Type} : List (Lit × DataW H) → Nat
  | [] => 0
  | x :: r => uptoBulkEntry x + uptoBulkEntries r
def uptoBulkEntry {H : Type} : Lit × DataW H → Nat
  | (.string bytes, d) => bytes.length + uptoBulk d + 1
  | (_, d) => uptoBulk d + 1
 end
def uptoSmall : (H : Type) → List (DataW H) → Bool := fun _ ds => decide (uptoBulkAll ds ≤ 1048576)
def OpenSpec.upto (s : _root_.Go.ChangeSpec) : _root_.Go.OpenSpec := { _root_.Go.OpenSpec.ofChange s with cond := some uptoSmall }

/-- 'wattlelaw07.GeomForms', WHERE WHAT IT READS IS OF BULK AT MOST 1048576: true; the input reads as it did. -/
def geomFormsUptoRow : OpenClaim := { program := "ytpbambmjkhadgaa", sum := "10a39f0031fda4722365445de034ee48939a0fcbaec01f73d275a0be69b7ee2a", func := "wattle/wattlelaw07.GeomForms", spec := "geomForms", apart := false, narrowed := true }
def GeomFormsUptoSaid : Prop := geomFormsUptoRow.holds Try.pinned (OpenSpec.upto geomFormsSpec)

/-- 'wattlelaw07.GeomTells', WHERE WHAT IT READS IS OF BULK AT MOST 1048576: true; the input reads as it did. -/
def geomTellsUptoRow : OpenClaim := { program := "ytpbambmjkhadgaa", sum := "10a39f0031fda4722365445de034ee48939a0fcbaec01f73d275a0be69b7ee2a", func := "wattle/wattlelaw07.GeomTells", spec := "geomTells", unfollowed := true, recurses := true, apart := false, narrowed := true }
def GeomTellsUptoSaid : Prop := geomTellsUptoRow.holds Try.pinned (OpenSpec.upto geomTellsSpec)

/-- 'wattlelaw07.GeomLaws', WHERE WHAT IT READS IS OF BULK AT MOST 1048576: true; the input reads as it did. -/
def geomLawsUptoRow : OpenClaim := { program := "ytpbambmjkhadgaa", sum := "10a39f0031fda4722365445de034ee48939a0fcbaec01f73d275a0be69b7ee2a", func := "wattle/wattlelaw07.GeomLaws", spec := "geomLaws", unfollowed := true, recurses := true, apart := false, narrowed := true }
def GeomLawsUptoSaid : Prop := geomLawsUptoRow.holds Try.pinned (OpenSpec.upto geomLawsSpec)

end Rows
end Go.Proofs.Ytpbambmjkhadgaa
