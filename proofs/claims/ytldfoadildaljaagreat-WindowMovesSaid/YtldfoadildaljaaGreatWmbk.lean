/- Texts put together: RbdFld, RbdRenew, RbdParted, Rbd, UpdSpec, UpdArr, UpdKit. -/
import Derived.Test.YtldfoadildaljaaGreatWmbi
import Derived.Test.YtldfoadildaljaaGreatWmbb
import Derived.Test.YtldfoadildaljaaGreatWmbf
import Derived.Test.YtldfoadildaljaaGreatWmaa
import Derived.Test.YtldfoadildaljaaGreatWmaf
import Derived.Test.YtldfoadildaljaaGreatWmbg
import Derived.Test.YtldfoadildaljaaGreatWmbh
section
set_option linter.unusedVariables false
set_option linter.unusedSimpArgs false
namespace Go.Proofs.YtldfoadildaljaaGreat
end Go.Proofs.YtldfoadildaljaaGreat
end
section
set_option maxRecDepth 20000
set_option linter.unusedVariables false
set_option linter.unusedSimpArgs false
namespace Go.Proofs.YtldfoadildaljaaGreat
open Go.RowKit
end Go.Proofs.YtldfoadildaljaaGreat
end
section
set_option maxRecDepth 20000
set_option linter.unusedVariables false
set_option linter.unusedSimpArgs false
namespace Go.Proofs.YtldfoadildaljaaGreat
open Go.RowKit
end Go.Proofs.YtldfoadildaljaaGreat
end
section
set_option maxRecDepth 20000
set_option linter.unusedVariables false
set_option linter.unusedSimpArgs false
namespace Go.Proofs.YtldfoadildaljaaGreat
open Go.RowKit
end Go.Proofs.YtldfoadildaljaaGreat
end
section
set_option maxRecDepth 20000
set_option linter.unusedVariables false
set_option linter.unusedSimpArgs false
namespace Go.Proofs.YtldfoadildaljaaGreat
open Go.RowKit
section
variable {W w w':World} {b:Nat} {H:BH} {N:Bch} {K:List (Nat × Obj)} {R:List (Option Addr × List (List UInt8))} {S:List (Option Addr × List UInt8)} {I:List (Option Addr × List It)}
section
variable (h:KS W w b H N K R S)
include h
end
end
end Go.Proofs.YtldfoadildaljaaGreat
end
section
set_option linter.unusedVariables false
set_option linter.unusedSimpArgs false
namespace Go.Proofs.YtldfoadildaljaaGreat
section
variable {N:Bch} {D:Nat} {lv:List Bool} {nn l c r:Int} {F W ρ k:Nat} {ds:Nat→List (List UInt8)} {x:List UInt8} {s:Int}
end
end Go.Proofs.YtldfoadildaljaaGreat
end
section
set_option maxRecDepth 20000
set_option linter.unusedVariables false
set_option linter.unusedSimpArgs false
namespace Go.Proofs.YtldfoadildaljaaGreat
open Go.RowKit
end Go.Proofs.YtldfoadildaljaaGreat
end
