/- Texts put together: RbdFld, RbdRenew, RbdParted, Rbd. -/
import Derived.Test.YtldfoadildaljaaGreatWcbh
import Derived.Test.YtldfoadildaljaaGreatWcbc
import Derived.Test.YtldfoadildaljaaGreatWcbf
import Derived.Test.YtldfoadildaljaaGreatWcaa
import Derived.Test.YtldfoadildaljaaGreatWcaf
section
set_option linter.unusedVariables false
set_option linter.unusedSimpArgs false
namespace Go.Proofs.YtldfoadildaljaaGreat

end Go.Proofs.YtldfoadildaljaaGreat
end
section
set_option maxRecDepth 20000
set_option linter.unusedVariables false
set_option linter.unusedSimpArgs false
namespace Go.Proofs.YtldfoadildaljaaGreat
open Go.RowKit

end Go.Proofs.YtldfoadildaljaaGreat
end
section
set_option maxRecDepth 20000
set_option linter.unusedVariables false
set_option linter.unusedSimpArgs false
namespace Go.Proofs.YtldfoadildaljaaGreat
open Go.RowKit

end Go.Proofs.YtldfoadildaljaaGreat
end
section
set_option maxRecDepth 20000
set_option linter.unusedVariables false
set_option linter.unusedSimpArgs false
namespace Go.Proofs.YtldfoadildaljaaGreat
open Go.RowKit

end Go.Proofs.YtldfoadildaljaaGreat
end
