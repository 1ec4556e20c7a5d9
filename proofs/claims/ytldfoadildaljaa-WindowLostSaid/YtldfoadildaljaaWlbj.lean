/- Texts put together: RbdFld, RbdRenew, RbdParted, Rbd. -/
import Derived.Test.YtldfoadildaljaaWlbh
import Derived.Test.YtldfoadildaljaaWlbc
import Derived.Test.YtldfoadildaljaaWlbf
import Derived.Test.YtldfoadildaljaaWlaa
import Derived.Test.YtldfoadildaljaaWlaf
section
set_option linter.unusedVariables false
set_option linter.unusedSimpArgs false
namespace Go.Proofs.Ytldfoadildaljaa

end Go.Proofs.Ytldfoadildaljaa
end
section
set_option maxRecDepth 20000
set_option linter.unusedVariables false
set_option linter.unusedSimpArgs false
namespace Go.Proofs.Ytldfoadildaljaa
open Go.RowKit

end Go.Proofs.Ytldfoadildaljaa
end
section
set_option maxRecDepth 20000
set_option linter.unusedVariables false
set_option linter.unusedSimpArgs false
namespace Go.Proofs.Ytldfoadildaljaa
open Go.RowKit

end Go.Proofs.Ytldfoadildaljaa
end
section
set_option maxRecDepth 20000
set_option linter.unusedVariables false
set_option linter.unusedSimpArgs false
namespace Go.Proofs.Ytldfoadildaljaa
open Go.RowKit

end Go.Proofs.Ytldfoadildaljaa
end
