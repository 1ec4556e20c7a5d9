/- Texts put together: LogKeep, LogKr. -/
import Derived.Test.YtldfoadildaljaaGreatWmaz
import Derived.Test.YtldfoadildaljaaGreatWmbd
import Derived.Test.YtldfoadildaljaaGreatWmbe
import Derived.Test.YtldfoadildaljaaGreatWmbb
section
set_option maxRecDepth 8000
set_option linter.unusedVariables false
set_option linter.unusedSimpArgs false
namespace Go.Proofs.YtldfoadildaljaaGreat
open Go.RowKit
section
variable {W w:World} {b:Nat} {H:BH} {N:Bch} {K:List (Nat × Obj)} (h:KX W w b H N K)
include h
end
end Go.Proofs.YtldfoadildaljaaGreat
end
section
set_option maxRecDepth 8000
set_option linter.unusedVariables false
set_option linter.unusedSimpArgs false
namespace Go.Proofs.YtldfoadildaljaaGreat
open Go.RowKit
structure KR (W w:World) (b:Nat) (H:BH) (N:Bch) (K:List (Nat × Obj)) (R:List (Option Addr × List It)) (X:Nat→Prop):Prop where
 kx:KX W w b H N K
 it:∀ p ∈ R,RdIF w (fun k=>BF b H N.n k∨X k) p.1 p.2
section
variable {W w w':World} {b:Nat} {H:BH} {N:Bch} {K:List (Nat × Obj)} {R:List (Option Addr × List It)} {X:Nat→Prop}
section
variable (h:KR W w b H N K R X)
include h
end
end
end Go.Proofs.YtldfoadildaljaaGreat
end
