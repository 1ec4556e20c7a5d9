/- Texts put together: RbdFr, RbdPut, WinFail. -/
import Derived.Test.YtldfoadildaljaaGreatWcbm
import Derived.Test.YtldfoadildaljaaGreatWcbj
import Derived.Test.YtldfoadildaljaaGreatWcbl
section
set_option linter.unusedVariables false
set_option linter.unusedSimpArgs false
namespace Go.Proofs.YtldfoadildaljaaGreat
open Go.RowKit

section
variable {W w : World} {b : Nat} {H : BH} {N : Bch} {K : List (Nat × Obj)} {R : List (Option Addr × List (List UInt8))} {S : List (Option Addr × List UInt8)}
end
section
variable {N : Bch} {m k : Nat} {G : RG} {zs : List Int}
end
end Go.Proofs.YtldfoadildaljaaGreat
end
section
set_option linter.unusedVariables false
set_option linter.unusedSimpArgs false
namespace Go.Proofs.YtldfoadildaljaaGreat
open Go.RowKit

end Go.Proofs.YtldfoadildaljaaGreat
end
section
set_option linter.unusedVariables false
set_option linter.unusedSimpArgs false
namespace Go.Proofs.YtldfoadildaljaaGreat
open Go.RowKit

theorem wdat_rows (l d : Int) (zs : List Int) : ∀ t, t < 16 → (datL zs t (roW l d)).length = roW l d ∧ ∀ x ∈ datL zs t (roW l d), x.length = 32 := fun t _ => ⟨datL_len _ _ _, datL_mem⟩
end Go.Proofs.YtldfoadildaljaaGreat
end
