/- Texts put together: DskAllD. -/
import Derived.Test.YtjnemopocmhfkaaDoorBlam
import Derived.Test.YtjnemopocmhfkaaDoorBlap
section
namespace Go.Proofs.YtjnemopocmhfkaaDoor
open Go.RowKit

end Go.Proofs.YtjnemopocmhfkaaDoor
end
