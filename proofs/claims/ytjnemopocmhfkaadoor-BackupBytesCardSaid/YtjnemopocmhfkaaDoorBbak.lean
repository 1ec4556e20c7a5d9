/- Texts put together: DskDmg, DskAllD. -/
import Derived.Test.YtjnemopocmhfkaaDoorBbaj
import Derived.Test.YtjnemopocmhfkaaDoorBbag
section
set_option maxRecDepth 8000
namespace Go.Proofs.YtjnemopocmhfkaaDoor
open Go.RowKit

section
variable (B b : Nat) (pv : Value) (D : Dsk) (w : World) (h : DskAt w B b pv D)
include h
end
end Go.Proofs.YtjnemopocmhfkaaDoor
end
section
namespace Go.Proofs.YtjnemopocmhfkaaDoor
open Go.RowKit

end Go.Proofs.YtjnemopocmhfkaaDoor
end
