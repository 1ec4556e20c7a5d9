/- Texts put together: UpdFound, UpdLog. -/
import Derived.Test.YtenkkdnepmoihaaGreatDoorUebm
import Derived.Test.YtenkkdnepmoihaaGreatDoorUebh
import Derived.Test.YtenkkdnepmoihaaGreatDoorUeaz
section
set_option linter.unusedVariables false
set_option linter.unusedSimpArgs false
namespace Go.Proofs.YtenkkdnepmoihaaGreatDoor

end Go.Proofs.YtenkkdnepmoihaaGreatDoor
end
section
set_option maxRecDepth 20000
set_option linter.unusedVariables false
set_option linter.unusedSimpArgs false
namespace Go.Proofs.YtenkkdnepmoihaaGreatDoor
open Go.RowKit

section
variable {W w : World} {b : Nat} {H : BH} {N : Bch} {K : List (Nat × Obj)} {R : List (Option Addr × List (List UInt8))} {S : List (Option Addr × List UInt8)} {I : List (Option Addr × List It)} (h : KU W w b H N K R S I)
include h
end
end Go.Proofs.YtenkkdnepmoihaaGreatDoor
end
