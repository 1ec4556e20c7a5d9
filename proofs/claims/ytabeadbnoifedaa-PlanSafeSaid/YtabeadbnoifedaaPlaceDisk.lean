/- Where data chunks stand, and which numbers: first, number, Disk. -/
import Derived.Test.YtabeadbnoifedaaPlace
set_option linter.unusedVariables false
set_option linter.unusedSimpArgs false
namespace Go.Proofs.Ytabeadbnoifedaa
open Go.RowKit

end Go.Proofs.Ytabeadbnoifedaa
