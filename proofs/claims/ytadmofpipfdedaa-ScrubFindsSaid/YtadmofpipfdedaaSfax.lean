/- Texts put together: StpSame, StpFlush, StpWrite, StpOne, StpWakes. -/
import Derived.Test.YtadmofpipfdedaaSfar
import Derived.Test.YtadmofpipfdedaaSfaw
import Derived.Test.YtadmofpipfdedaaSfam
import Derived.Test.YtadmofpipfdedaaSfav
import Derived.Test.YtadmofpipfdedaaSfah
import Derived.Test.YtadmofpipfdedaaSfaf
section
set_option maxRecDepth 20000
set_option linter.unusedVariables false
set_option linter.unusedSimpArgs false
namespace Go.Proofs.Ytadmofpipfdedaa
open Go.RowKit

theorem RdZ.drop {w : World} {B : Nat} {A : Option Addr} {zs : List Int} (h : RdZ w B A zs) (k cap : Nat) (hc : zs.length ≤ cap) : RdZ w B (if cap = k then A else A.map (·.add k)) (zs.drop k) :=
  ⟨by have := h.1; simp; omega, fun z hz => h.2.1 z (List.mem_of_mem_drop hz), fun hn => by
    have hn' : k < zs.length := by simp at hn; omega
    obtain ⟨b, off, rfl, hb, hc⟩ := h.2.2 (by omega)
    rw [if_neg (by omega)]
    refine ⟨b, off + k, ?_, hb, fun j hj => ?_⟩
    · unfold Addr.add; by_cases hk0 : k = 0 <;> simp [hk0]
    · have hj' : k + j < zs.length := by simp at hj; omega
      rw [Nat.add_assoc, hc (k + j) hj']
      simp⟩
/-- The data of a row of a filled bench. -/
def datL (zs : List Int) (ρ W : Nat) : List (List UInt8) := sectorsB (zs.drop (min ρ zs.length)) W
theorem datL_len (zs : List Int) (ρ W : Nat) : (datL zs ρ W).length = W := sectorsB_len _ _
theorem datL_mem {zs : List Int} {ρ W : Nat} : ∀ x ∈ datL zs ρ W, x.length = 32 := sectorsB_mem
end Go.Proofs.Ytadmofpipfdedaa
end
section
set_option maxRecDepth 20000
set_option linter.unusedVariables false
set_option linter.unusedSimpArgs false
namespace Go.Proofs.Ytadmofpipfdedaa
open Go.RowKit

end Go.Proofs.Ytadmofpipfdedaa
end
section
set_option maxRecDepth 20000
set_option linter.unusedVariables false
set_option linter.unusedSimpArgs false
namespace Go.Proofs.Ytadmofpipfdedaa
open Go.RowKit

theorem Rq.rdf {lo : Nat} {W : World} {g cap n : Nat} {xs : List Value} {rs : List (List UInt8)} (h : Rq lo W g cap n xs rs) (hn : n ≤ 1000000) : RdF lo W (some ⟨g, 0, none⟩) rs := by
  obtain ⟨A, c, e, _, hr⟩ := rdf_own h.row (by rw [h.nn]; omega) h.rowsY
  injection e with e _ _
  rw [e]; exact hr
end Go.Proofs.Ytadmofpipfdedaa
end
section
set_option maxRecDepth 20000
set_option linter.unusedVariables false
set_option linter.unusedSimpArgs false
namespace Go.Proofs.Ytadmofpipfdedaa
open Go.RowKit

end Go.Proofs.Ytadmofpipfdedaa
end
section
set_option maxRecDepth 20000
set_option linter.unusedVariables false
set_option linter.unusedSimpArgs false
namespace Go.Proofs.Ytadmofpipfdedaa
open Go.RowKit

end Go.Proofs.Ytadmofpipfdedaa
end
