/- Texts put together: StpKeep, StpFilledLoops. -/
import Derived.Test.YtldfoadildaljaaWwbc
import Derived.Test.YtldfoadildaljaaWwas
import Derived.Test.YtldfoadildaljaaWwbb
import Derived.Test.YtldfoadildaljaaWway
import Derived.Test.YtldfoadildaljaaWwba
import Derived.Test.YtldfoadildaljaaWwap
import Derived.Test.YtldfoadildaljaaWwaf
import Derived.Test.YtldfoadildaljaaWwaa
section
set_option maxRecDepth 20000
set_option linter.unusedVariables false
set_option linter.unusedSimpArgs false
namespace Go.Proofs.Ytldfoadildaljaa
open Go.RowKit

section
variable {W w w' : World} {b : Nat} {H : BH} {N : Bch} {K : List (Nat × Obj)} {R : List (Option Addr × List (List UInt8))} {S : List (Option Addr × List UInt8)}
theorem KS.gat (h : KS W w b H N K R S) {g : Nat} {l d c : Int} {t : TypeId} {f : Nat × Nat} (hm : (g, Obj.cells #[.int .i64 l, .int .i64 d, .int .i64 c] t f) ∈ K) : GAt w g l d c := by
  have h1 := (h.kx.kp _ hm).1
  exact ⟨cell_of_row w g 0 _ t f h1, cell_of_row w g 1 _ t f h1, cell_of_row w g 2 _ t f h1⟩
theorem sflS_n (N : Bch) (lv : List Bool) : (sflS N lv).2.n = N.n := flushed_n _
end
section
variable {W w : World} {b : Nat} {H : BH} {N : Bch} {K : List (Nat × Obj)} {R : List (Option Addr × List (List UInt8))} {S : List (Option Addr × List UInt8)} (h : KS W w b H N K R S)
include h
theorem ks_flush (lv : List Bool) (A : Option Addr) (m cp : Nat) (hm : m = lv.length) (hv : RdOX (BF b H N.n) w A lv) :
    Calls Try.prog 39 #[.pointer (some ⟨b, 0, none⟩), .slice A m cp] w fun e w' => e = .returned (.int .i64 (sflS N lv).1) ∧ ∃ H', KS W w' b H' (sflS N lv).2 K R S := by
  refine (stpFlush_any W w b H N h.bp lv A m cp hm hv).mono ?_
  rintro e w' ⟨rfl, ht⟩
  obtain ⟨H', k'⟩ := h.bc ht (sflS_n _ _)
  exact ⟨rfl, H', k'⟩
end
end Go.Proofs.Ytldfoadildaljaa
end
section
set_option linter.unusedVariables false
set_option linter.unusedSimpArgs false
namespace Go.Proofs.Ytldfoadildaljaa
open Go.RowKit

end Go.Proofs.Ytldfoadildaljaa
end
