/-
  No cell of these rows narrows 'for every input' (looked for: loops, veiled, ifaces, maps, wideKeys, modest, calm, conditions, laid).
  DERIVED. THE GIVEN ROWS OF THIS SEAT. 5 by the template 'for every input the law returns true; each argument reads behind the call as it read before'; 0 by the template 'total and deterministic' (their statements: YtpaegibaikpikaaTotals.lean).
  GIVEN WITH THE SEED: the statements are not yours to turn. If you find one false, say at which input.
  Laid BY PROGRAM, IN A SANDBOX (cutbox-rows.mjs): the forced cells as the released guide's own fill.sh prints them over the translation c694689d2997c77e… (all of the seat's roots in one cut). By AI agents, Wed Nov 11 2026. No macro, syntax, notation, axiom, sorry.
-/
import Derived.Test.YtpaegibaikpikaaChecked
import GoSem.Claim
import GoSem.ClaimJoined
import GoSem.ClaimMapViews
import Derived.JoinedTies
import Derived.KernelRfl
namespace Go.Proofs.Ytpaegibaikpikaa
/- THE CELL 'sum', in the pinned program and in every row, IS THE sha256 OF THE DUMP (.gsa) THAT YtpaegibaikpikaaProg.lean LOADS. Nothing in Lean hashes anything: it is a label: what it is worth is what the hold of that sum in a sandbox is worth. -/
noncomputable def Try.pinned : Pinned := { name := "ytpaegibaikpikaa", sum := "c694689d2997c77e73d77fab59ca88c1c11cfbfce56bc9f0821971da9cf7c3e6", checked := Try.checked }
namespace Rows
def none {H : Type} : Left H := { results := [], args := [] }

/-- 'wattlelaw14.StripeBack': WHATEVER THE INPUT: true; the input reads as it did. -/
def stripeBackSpec : ChangeSpec := { name := "stripeBack", fn := fun _ => fun
  | [d1, d2, d3, d4, d5, d6] => { results := [.lit (.bool true)], args := [d1, d2, d3, d4, d5, d6] }
  | _ => none }
def stripeBackRow : OpenClaim := { program := "ytpaegibaikpikaa", sum := "c694689d2997c77e73d77fab59ca88c1c11cfbfce56bc9f0821971da9cf7c3e6", func := "wattle/wattlelaw14.StripeBack", spec := "stripeBack", unfollowed := true, recurses := true, apart := false }
def StripeBackSaid : Prop := stripeBackRow.holds Try.pinned (OpenSpec.ofChange stripeBackSpec)

/-- ITS FALSE NEIGHBOUR: 'it returns false'. Refute it at one input. -/
def stripeBackWrong : ChangeSpec := { name := "stripeBack", fn := fun _ => fun
  | [d1, d2, d3, d4, d5, d6] => { results := [.lit (.bool false)], args := [d1, d2, d3, d4, d5, d6] }
  | _ => none }
def StripeBackWrongFalsely : Prop := stripeBackRow.holds Try.pinned (OpenSpec.ofChange stripeBackWrong)

/-- 'wattlelaw14.StripeErrors': WHATEVER THE INPUT: true; the input reads as it did. -/
def stripeErrorsSpec : ChangeSpec := { name := "stripeErrors", fn := fun _ => fun
  | [d] => { results := [.lit (.bool true)], args := [d] }
  | _ => none }
def stripeErrorsRow : OpenClaim := { program := "ytpaegibaikpikaa", sum := "c694689d2997c77e73d77fab59ca88c1c11cfbfce56bc9f0821971da9cf7c3e6", func := "wattle/wattlelaw14.StripeErrors", spec := "stripeErrors", unfollowed := true, recurses := true, apart := false }
def StripeErrorsSaid : Prop := stripeErrorsRow.holds Try.pinned (OpenSpec.ofChange stripeErrorsSpec)

/-- ITS FALSE NEIGHBOUR: 'it returns false'. Refute it at one input. -/
def stripeErrorsWrong : ChangeSpec := { name := "stripeErrors", fn := fun _ => fun
  | [d] => { results := [.lit (.bool false)], args := [d] }
  | _ => none }
def StripeErrorsWrongFalsely : Prop := stripeErrorsRow.holds Try.pinned (OpenSpec.ofChange stripeErrorsWrong)

/-- 'wattlelaw14.StripeReads': WHATEVER THE INPUT: true; the input reads as it did. -/
def stripeReadsSpec : ChangeSpec := { name := "stripeReads", fn := fun _ => fun
  | [d1, d2, d3, d4, d5, d6, d7] => { results := [.lit (.bool true)], args := [d1, d2, d3, d4, d5, d6, d7] }
  | _ => none }
def stripeReadsRow : OpenClaim := { program := "ytpaegibaikpikaa", sum := "c694689d2997c77e73d77fab59ca88c1c11cfbfce56bc9f0821971da9cf7c3e6", func := "wattle/wattlelaw14.StripeReads", spec := "stripeReads", unfollowed := true, recurses := true, apart := false }
def StripeReadsSaid : Prop := stripeReadsRow.holds Try.pinned (OpenSpec.ofChange stripeReadsSpec)

/-- ITS FALSE NEIGHBOUR: 'it returns false'. Refute it at one input. -/
def stripeReadsWrong : ChangeSpec := { name := "stripeReads", fn := fun _ => fun
  | [d1, d2, d3, d4, d5, d6, d7] => { results := [.lit (.bool false)], args := [d1, d2, d3, d4, d5, d6, d7] }
  | _ => none }
def StripeReadsWrongFalsely : Prop := stripeReadsRow.holds Try.pinned (OpenSpec.ofChange stripeReadsWrong)

/-- 'wattlelaw14.StripeWrites': WHATEVER THE INPUT: true; the input reads as it did. -/
def stripeWritesSpec : ChangeSpec := { name := "stripeWrites", fn := fun _ => fun
  | [d1, d2, d3, d4, d5, d6, d7] => { results := [.lit (.bool true)], args := [d1, d2, d3, d4, d5, d6, d7] }
  | _ => none }
def stripeWritesRow : OpenClaim := { program := "ytpaegibaikpikaa", sum := "c694689d2997c77e73d77fab59ca88c1c11cfbfce56bc9f0821971da9cf7c3e6", func := "wattle/wattlelaw14.StripeWrites", spec := "stripeWrites", unfollowed := true, recurses := true, apart := false }
def StripeWritesSaid : Prop := stripeWritesRow.holds Try.pinned (OpenSpec.ofChange stripeWritesSpec)

/-- ITS FALSE NEIGHBOUR: 'it returns false'. Refute it at one input. -/
def stripeWritesWrong : ChangeSpec := { name := "stripeWrites", fn := fun _ => fun
  | [d1, d2, d3, d4, d5, d6, d7] => { results := [.lit (.bool false)], args := [d1, d2, d3, d4, d5, d6, d7] }
  | _ => none }
def StripeWritesWrongFalsely : Prop := stripeWritesRow.holds Try.pinned (OpenSpec.ofChange stripeWritesWrong)

/-- 'wattlelaw14.StripeOnes': WHATEVER THE INPUT: true; the input reads as it did. -/
def stripeOnesSpec : ChangeSpec := { name := "stripeOnes", fn := fun _ => fun
  | [d1, d2, d3, d4, d5] => { results := [.lit (.bool true)], args := [d1, d2, d3, d4, d5] }
  | _ => none }
def stripeOnesRow : OpenClaim := { program := "ytpaegibaikpikaa", sum := "c694689d2997c77e73d77fab59ca88c1c11cfbfce56bc9f0821971da9cf7c3e6", func := "wattle/wattlelaw14.StripeOnes", spec := "stripeOnes", unfollowed := true, recurses := true, apart := false }
def StripeOnesSaid : Prop := stripeOnesRow.holds Try.pinned (OpenSpec.ofChange stripeOnesSpec)

/-- ITS FALSE NEIGHBOUR: 'it returns false'. Refute it at one input. -/
def stripeOnesWrong : ChangeSpec := { name := "stripeOnes", fn := fun _ => fun
  | [d1, d2, d3, d4, d5] => { results := [.lit (.bool false)], args := [d1, d2, d3, d4, d5] }
  | _ => none }
def StripeOnesWrongFalsely : Prop := stripeOnesRow.holds Try.pinned (OpenSpec.ofChange stripeOnesWrong)

/- THE SECOND FORM. 'bulk': how many values and letters a reading holds, each counted each time it is reached (what is shared counts as often as it is met; a slice's spare places count too). A statement '..UptoSaid' is the law's where the arguments, and the package variables that the reading takes, are together of bulk at most 1048576: NARROWER than '..Said'. Prove '..Said' where nothing that the law and all that it calls make is longer than what came in: it says more and counts as full. Else prove '..UptoSaid'. A law counts once. -/
mutual
def uptoBulk {H : Type} : DataW H → Nat
  | .lit (.string bytes) => bytes.length + 1
  | .lit _ => 1
  | .nil => 1
  | .ptr d => uptoBulk d + 1
  | .slice elems spare => uptoBulkAll elems + uptoBulkAll spare + 1
  | .agg parts => uptoBulkAll parts + 1
  | .iface _ d => uptoBulk d + 1
  | .map entries => uptoBulkEntries entries + 1
  | .held _ => 1
def uptoBulkAll {H : Type} : List (DataW H) → Nat
  | [] => 0
  | d :: r => uptoBulk d + uptoBulkAll r
def uptoBulkEntries {H : Type} : List (Lit × DataW H) → Nat
  | [] => 0
  | x :: r => uptoBulkEntry x + uptoBulkEntries r
def uptoBulkEntry {H : Type} : Lit × DataW H → Nat
  | (.string bytes, d) => bytes.length + uptoBulk d + 1
  | (_, d) => uptoBulk d + 1
 end
def uptoSmall : (H : Type) → List (DataW H) → Bool := fun _ ds => decide (uptoBulkAll ds ≤ 1048576)
def OpenSpec.upto (s : _root_.Go.ChangeSpec) : _root_.Go.OpenSpec := { _root_.Go.OpenSpec.ofChange s with cond := some uptoSmall }

/-- 'wattlelaw14.StripeBack', WHERE WHAT IT READS IS OF BULK AT MOST 1048576: true; the input reads as it did. -/
def stripeBackUptoRow : OpenClaim := { program := "ytpaegibaikpikaa", sum := "c694689d2997c77e73d77fab59ca88c1c11cfbfce56bc9f0821971da9cf7c3e6", func := "wattle/wattlelaw14.StripeBack", spec := "stripeBack", unfollowed := true, recurses := true, apart := false, narrowed := true }
def StripeBackUptoSaid : Prop := stripeBackUptoRow.holds Try.pinned (OpenSpec.upto stripeBackSpec)

/-- 'wattlelaw14.StripeErrors', WHERE WHAT IT READS IS OF BULK AT MOST 1048576: true; the input reads as it did. -/
def stripeErrorsUptoRow : OpenClaim := { program := "ytpaegibaikpikaa", sum := "c694689d2997c77e73d77fab59ca88c1c11cfbfce56bc9f0821971da9cf7c3e6", func := "wattle/wattlelaw14.StripeErrors", spec := "stripeErrors", unfollowed := true, recurses := true, apart := false, narrowed := true }
def StripeErrorsUptoSaid : Prop := stripeErrorsUptoRow.holds Try.pinned (OpenSpec.upto stripeErrorsSpec)

/-- 'wattlelaw14.StripeReads', WHERE WHAT IT READS IS OF BULK AT MOST 1048576: true; the input reads as it did. -/
def stripeReadsUptoRow : OpenClaim := { program := "ytpaegibaikpikaa", sum := "c694689d2997c77e73d77fab59ca88c1c11cfbfce56bc9f0821971da9cf7c3e6", func := "wattle/wattlelaw14.StripeReads", spec := "stripeReads", unfollowed := true, recurses := true, apart := false, narrowed := true }
def StripeReadsUptoSaid : Prop := stripeReadsUptoRow.holds Try.pinned (OpenSpec.upto stripeReadsSpec)

/-- 'wattlelaw14.StripeWrites', WHERE WHAT IT READS IS OF BULK AT MOST 1048576: true; the input reads as it did. -/
def stripeWritesUptoRow : OpenClaim := { program := "ytpaegibaikpikaa", sum := "c694689d2997c77e73d77fab59ca88c1c11cfbfce56bc9f0821971da9cf7c3e6", func := "wattle/wattlelaw14.StripeWrites", spec := "stripeWrites", unfollowed := true, recurses := true, apart := false, narrowed := true }
def StripeWritesUptoSaid : Prop := stripeWritesUptoRow.holds Try.pinned (OpenSpec.upto stripeWritesSpec)

/-- 'wattlelaw14.StripeOnes', WHERE WHAT IT READS IS OF BULK AT MOST 1048576: true; the input reads as it did. -/
def stripeOnesUptoRow : OpenClaim := { program := "ytpaegibaikpikaa", sum := "c694689d2997c77e73d77fab59ca88c1c11cfbfce56bc9f0821971da9cf7c3e6", func := "wattle/wattlelaw14.StripeOnes", spec := "stripeOnes", unfollowed := true, recurses := true, apart := false, narrowed := true }
def StripeOnesUptoSaid : Prop := stripeOnesUptoRow.holds Try.pinned (OpenSpec.upto stripeOnesSpec)

end Rows
end Go.Proofs.Ytpaegibaikpikaa
