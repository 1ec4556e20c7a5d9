/- Texts put together: RbdFld, RbdRenew, RbdParted, Rbd. -/
import Derived.Test.YtldfoadildaljaaWwbf
import Derived.Test.YtldfoadildaljaaWwba
import Derived.Test.YtldfoadildaljaaWwbd
import Derived.Test.YtldfoadildaljaaWwaa
import Derived.Test.YtldfoadildaljaaWwae
section
set_option linter.unusedVariables false
set_option linter.unusedSimpArgs false
namespace Go.Proofs.Ytldfoadildaljaa

theorem sec_zeroS {k : Nat} (hk : k < 52) : secAt zeroS k = zeroL 32 := by
  apply List.ext_getElem?
  intro i
  rw [secAt_get]
  unfold zeroS zeroL
  split
  · next h => rw [List.getElem?_replicate, if_pos (by omega), List.getElem?_replicate, if_pos h]
  · next h => rw [List.getElem?_replicate, if_neg h]
end Go.Proofs.Ytldfoadildaljaa
end
section
set_option maxRecDepth 20000
set_option linter.unusedVariables false
set_option linter.unusedSimpArgs false
namespace Go.Proofs.Ytldfoadildaljaa
open Go.RowKit

end Go.Proofs.Ytldfoadildaljaa
end
section
set_option maxRecDepth 20000
set_option linter.unusedVariables false
set_option linter.unusedSimpArgs false
namespace Go.Proofs.Ytldfoadildaljaa
open Go.RowKit

end Go.Proofs.Ytldfoadildaljaa
end
section
set_option maxRecDepth 20000
set_option linter.unusedVariables false
set_option linter.unusedSimpArgs false
namespace Go.Proofs.Ytldfoadildaljaa
open Go.RowKit

end Go.Proofs.Ytldfoadildaljaa
end
