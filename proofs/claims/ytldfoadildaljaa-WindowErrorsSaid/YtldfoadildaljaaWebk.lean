/- Texts put together: RbdFr, RbdPut. -/
import Derived.Test.YtldfoadildaljaaWebj
import Derived.Test.YtldfoadildaljaaWebg
section
set_option linter.unusedVariables false
set_option linter.unusedSimpArgs false
namespace Go.Proofs.Ytldfoadildaljaa
open Go.RowKit

section
variable {W w : World} {b : Nat} {H : BH} {N : Bch} {K : List (Nat × Obj)} {R : List (Option Addr × List (List UInt8))} {S : List (Option Addr × List UInt8)}
end
section
variable {N : Bch} {m k : Nat} {G : RG} {zs : List Int}
end
end Go.Proofs.Ytldfoadildaljaa
end
section
set_option linter.unusedVariables false
set_option linter.unusedSimpArgs false
namespace Go.Proofs.Ytldfoadildaljaa
open Go.RowKit

end Go.Proofs.Ytldfoadildaljaa
end
