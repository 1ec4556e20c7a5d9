/- Texts put together: BchPend. -/
import Derived.Test.YtjnemopocmhfkaaDoorBlau
import Derived.Test.YtjnemopocmhfkaaDoorBlad
section
namespace Go.Proofs.YtjnemopocmhfkaaDoor
open Go.RowKit

end Go.Proofs.YtjnemopocmhfkaaDoor
end
