/- Texts put together: BchClone. -/
import Derived.Test.YtjnemopocmhfkaaDoorBlax
section
set_option linter.unusedSimpArgs false
namespace Go.Proofs.YtjnemopocmhfkaaDoor
open Go.RowKit

end Go.Proofs.YtjnemopocmhfkaaDoor
end
