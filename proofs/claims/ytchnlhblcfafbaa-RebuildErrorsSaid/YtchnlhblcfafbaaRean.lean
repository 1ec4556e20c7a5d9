/- Texts put together: DskDmg, DskAllD. -/
import Derived.Test.YtchnlhblcfafbaaReal
import Derived.Test.YtchnlhblcfafbaaReai
section
set_option maxRecDepth 8000
namespace Go.Proofs.Ytchnlhblcfafbaa
open Go.RowKit

section
variable (B b : Nat) (pv : Value) (D : Dsk) (w : World) (h : DskAt w B b pv D)
include h
end
end Go.Proofs.Ytchnlhblcfafbaa
end
section
namespace Go.Proofs.Ytchnlhblcfafbaa
open Go.RowKit

end Go.Proofs.Ytchnlhblcfafbaa
end
