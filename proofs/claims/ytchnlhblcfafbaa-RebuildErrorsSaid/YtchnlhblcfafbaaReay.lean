/- Texts put together: StpSame, StpFlush, StpWrite, StpOne, StpWakes. -/
import Derived.Test.YtchnlhblcfafbaaRear
import Derived.Test.YtchnlhblcfafbaaReav
import Derived.Test.YtchnlhblcfafbaaReal
import Derived.Test.YtchnlhblcfafbaaReaw
import Derived.Test.YtchnlhblcfafbaaReah
import Derived.Test.YtchnlhblcfafbaaReax
import Derived.Test.YtchnlhblcfafbaaReae
section
set_option maxRecDepth 20000
set_option linter.unusedVariables false
set_option linter.unusedSimpArgs false
namespace Go.Proofs.Ytchnlhblcfafbaa
open Go.RowKit

end Go.Proofs.Ytchnlhblcfafbaa
end
section
set_option maxRecDepth 20000
set_option linter.unusedVariables false
set_option linter.unusedSimpArgs false
namespace Go.Proofs.Ytchnlhblcfafbaa
open Go.RowKit

end Go.Proofs.Ytchnlhblcfafbaa
end
section
set_option maxRecDepth 20000
set_option linter.unusedVariables false
set_option linter.unusedSimpArgs false
namespace Go.Proofs.Ytchnlhblcfafbaa
open Go.RowKit

theorem Rq.rdf {lo : Nat} {W : World} {g cap n : Nat} {xs : List Value} {rs : List (List UInt8)} (h : Rq lo W g cap n xs rs) (hn : n ≤ 1000000) : RdF lo W (some ⟨g, 0, none⟩) rs := by
  obtain ⟨A, c, e, _, hr⟩ := rdf_own h.row (by rw [h.nn]; omega) h.rowsY
  injection e with e _ _
  rw [e]; exact hr
/-- Write's loop: the disks' sectors are written, one by one. -/
def StpW (W w : World) (b : Nat) (H : BH) (n : Nat) (p : Int × Bch) (e : Ending) (w' : World) : Prop := e = .returned (.int .i64 p.1) ∧ BC W w w' b H n p.2
end Go.Proofs.Ytchnlhblcfafbaa
end
section
set_option maxRecDepth 20000
set_option linter.unusedVariables false
set_option linter.unusedSimpArgs false
namespace Go.Proofs.Ytchnlhblcfafbaa
open Go.RowKit

end Go.Proofs.Ytchnlhblcfafbaa
end
section
set_option maxRecDepth 20000
set_option linter.unusedVariables false
set_option linter.unusedSimpArgs false
namespace Go.Proofs.Ytchnlhblcfafbaa
open Go.RowKit

end Go.Proofs.Ytchnlhblcfafbaa
end
