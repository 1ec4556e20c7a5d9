/- Texts put together: RowRight, RowWakes. -/
import Derived.Test.YtenkkdnepmoihaaGreatDoorUeaq
import Derived.Test.YtenkkdnepmoihaaGreatDoorUeaf
import Derived.Test.YtenkkdnepmoihaaGreatDoorUeal
import Derived.Test.YtenkkdnepmoihaaGreatDoorUeap
import Derived.Test.YtenkkdnepmoihaaGreatDoorUeag
import Derived.Test.YtenkkdnepmoihaaGreatDoorUead
section
set_option maxRecDepth 8000
set_option linter.unusedVariables false
set_option linter.unusedSimpArgs false
namespace Go.Proofs.YtenkkdnepmoihaaGreatDoor
open Go.RowKit

end Go.Proofs.YtenkkdnepmoihaaGreatDoor
end
section
set_option maxRecDepth 8000
set_option linter.unusedVariables false
set_option linter.unusedSimpArgs false
namespace Go.Proofs.YtenkkdnepmoihaaGreatDoor
open Go.RowKit

end Go.Proofs.YtenkkdnepmoihaaGreatDoor
end
