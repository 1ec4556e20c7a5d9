/- Texts put together: GeoMath. -/
import Derived.WalkKit
section
namespace Go.Proofs.YtkbhnbkjpnigkaaDoor

end Go.Proofs.YtkbhnbkjpnigkaaDoor
end
