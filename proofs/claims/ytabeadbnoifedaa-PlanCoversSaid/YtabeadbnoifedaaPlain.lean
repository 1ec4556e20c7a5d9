/- What the cards of rows that list no variable share. -/
import Derived.Test.YtabeadbnoifedaaRows
import Derived.Test.YtabeadbnoifedaaLaw
namespace Go.Proofs.Ytabeadbnoifedaa
open Go.ChangeShapes Go.WideShapes Go.ChangeAt Go.RowKit

theorem laidOut : laidOutB Try.prog = true := by kernel_rfl
theorem own : ownKnob Try.prog.godebug = none := by kernel_rfl
theorem below_same {W W' : World} (h : W' = W) : Below W.heap.size W W' := by subst h; exact Below.refl _ _
end Go.Proofs.Ytabeadbnoifedaa
