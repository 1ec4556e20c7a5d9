/- Texts put together: DskDmg, DskAllD. -/
import Derived.Test.YtldfoadildaljaaWwao
import Derived.Test.YtldfoadildaljaaWwaj
section
set_option maxRecDepth 8000
namespace Go.Proofs.Ytldfoadildaljaa
open Go.RowKit

section
variable (B b : Nat) (pv : Value) (D : Dsk) (w : World) (h : DskAt w B b pv D)
include h
end
end Go.Proofs.Ytldfoadildaljaa
end
section
namespace Go.Proofs.Ytldfoadildaljaa
open Go.RowKit

end Go.Proofs.Ytldfoadildaljaa
end
