/- Texts put together: StpSame, StpFlush, StpWrite, StpOne, StpWakes. -/
import Derived.Test.YtadmofpipfdedaaRear
import Derived.Test.YtadmofpipfdedaaReav
import Derived.Test.YtadmofpipfdedaaReal
import Derived.Test.YtadmofpipfdedaaReaw
import Derived.Test.YtadmofpipfdedaaReah
import Derived.Test.YtadmofpipfdedaaReax
import Derived.Test.YtadmofpipfdedaaReae
section
set_option maxRecDepth 20000
set_option linter.unusedVariables false
set_option linter.unusedSimpArgs false
namespace Go.Proofs.Ytadmofpipfdedaa
open Go.RowKit

end Go.Proofs.Ytadmofpipfdedaa
end
section
set_option maxRecDepth 20000
set_option linter.unusedVariables false
set_option linter.unusedSimpArgs false
namespace Go.Proofs.Ytadmofpipfdedaa
open Go.RowKit

end Go.Proofs.Ytadmofpipfdedaa
end
section
set_option maxRecDepth 20000
set_option linter.unusedVariables false
set_option linter.unusedSimpArgs false
namespace Go.Proofs.Ytadmofpipfdedaa
open Go.RowKit

theorem Rq.rdf {lo : Nat} {W : World} {g cap n : Nat} {xs : List Value} {rs : List (List UInt8)} (h : Rq lo W g cap n xs rs) (hn : n ≤ 1000000) : RdF lo W (some ⟨g, 0, none⟩) rs := by
  obtain ⟨A, c, e, _, hr⟩ := rdf_own h.row (by rw [h.nn]; omega) h.rowsY
  injection e with e _ _
  rw [e]; exact hr
/-- Write's loop: the disks' sectors are written, one by one. -/
def StpW (W w : World) (b : Nat) (H : BH) (n : Nat) (p : Int × Bch) (e : Ending) (w' : World) : Prop := e = .returned (.int .i64 p.1) ∧ BC W w w' b H n p.2
end Go.Proofs.Ytadmofpipfdedaa
end
section
set_option maxRecDepth 20000
set_option linter.unusedVariables false
set_option linter.unusedSimpArgs false
namespace Go.Proofs.Ytadmofpipfdedaa
open Go.RowKit

end Go.Proofs.Ytadmofpipfdedaa
end
section
set_option maxRecDepth 20000
set_option linter.unusedVariables false
set_option linter.unusedSimpArgs false
namespace Go.Proofs.Ytadmofpipfdedaa
open Go.RowKit

end Go.Proofs.Ytadmofpipfdedaa
end
