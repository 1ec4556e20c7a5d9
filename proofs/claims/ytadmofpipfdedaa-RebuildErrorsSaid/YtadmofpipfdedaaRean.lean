/- Texts put together: DskDmg, DskAllD. -/
import Derived.Test.YtadmofpipfdedaaReal
import Derived.Test.YtadmofpipfdedaaReai
section
set_option maxRecDepth 8000
namespace Go.Proofs.Ytadmofpipfdedaa
open Go.RowKit

section
variable (B b : Nat) (pv : Value) (D : Dsk) (w : World) (h : DskAt w B b pv D)
include h
end
end Go.Proofs.Ytadmofpipfdedaa
end
section
namespace Go.Proofs.Ytadmofpipfdedaa
open Go.RowKit

end Go.Proofs.Ytadmofpipfdedaa
end
