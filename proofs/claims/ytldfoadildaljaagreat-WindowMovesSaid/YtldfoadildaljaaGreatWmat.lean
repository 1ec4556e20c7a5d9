/- Texts put together: RowRight, RowWakes. -/
import Derived.Test.YtldfoadildaljaaGreatWmaq
import Derived.Test.YtldfoadildaljaaGreatWmah
import Derived.Test.YtldfoadildaljaaGreatWmam
import Derived.Test.YtldfoadildaljaaGreatWmap
import Derived.Test.YtldfoadildaljaaGreatWmaj
import Derived.Test.YtldfoadildaljaaGreatWmag
section
set_option maxRecDepth 8000
set_option linter.unusedVariables false
set_option linter.unusedSimpArgs false
namespace Go.Proofs.YtldfoadildaljaaGreat
open Go.RowKit
end Go.Proofs.YtldfoadildaljaaGreat
end
section
set_option maxRecDepth 8000
set_option linter.unusedVariables false
set_option linter.unusedSimpArgs false
namespace Go.Proofs.YtldfoadildaljaaGreat
open Go.RowKit
theorem sameT_any {A A':Option Addr} {n n' c c':Nat} {bs:List UInt8} {w:World} (hn:n=bs.length) (hn':n'=bs.length) (hr:RdB w w.heap.size A bs) (hr':RdB w w.heap.size A' bs) :
    Calls Tryz.prog 19 #[.slice A n c,.slice A' n' c'] w fun e w'=>e=.returned (.bool true)∧∃ m,w'=w.drewN m :=
 (same_any A A' n n' c c' _ bs bs w hn hn' hr hr').mono fun _ _ ⟨he,hw⟩=>⟨by rw [he,decide_eq_true rfl],hw⟩
end Go.Proofs.YtldfoadildaljaaGreat
end
