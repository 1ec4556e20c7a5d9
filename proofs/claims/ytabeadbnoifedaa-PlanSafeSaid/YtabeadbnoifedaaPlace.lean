/- What place's functions compute. -/
import Derived.Test.YtabeadbnoifedaaGeo
import Derived.Test.YtabeadbnoifedaaPlaceMath
set_option linter.unusedVariables false
set_option linter.unusedSimpArgs false
namespace Go.Proofs.Ytabeadbnoifedaa
open Go.RowKit

end Go.Proofs.Ytabeadbnoifedaa
