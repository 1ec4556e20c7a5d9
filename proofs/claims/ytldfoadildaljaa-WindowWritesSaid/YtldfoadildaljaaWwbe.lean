/- Texts put together: StpLawKit, StpOneMath, KsFar. -/
import Derived.Test.YtldfoadildaljaaWwbd
import Derived.Test.YtldfoadildaljaaWwba
import Derived.Test.YtldfoadildaljaaWwbc
import Derived.Test.YtldfoadildaljaaWwam
import Derived.Test.YtldfoadildaljaaWwaw
section
set_option maxRecDepth 20000
set_option linter.unusedVariables false
set_option linter.unusedSimpArgs false
namespace Go.Proofs.Ytldfoadildaljaa
open Go.RowKit

section
variable {W w : World} {b : Nat} {H : BH} {N : Bch} {K : List (Nat × Obj)} {R : List (Option Addr × List (List UInt8))} {S : List (Option Addr × List UInt8)} (h : KS W w b H N K R S)
include h
end
end Go.Proofs.Ytldfoadildaljaa
end
section
set_option linter.unusedVariables false
set_option linter.unusedSimpArgs false
namespace Go.Proofs.Ytldfoadildaljaa
open Go.RowKit

theorem row_setCell {w : World} {b k : Nat} {cur : Array Value} {u : Value} {t : TypeId} (h : w.heap[b]? = some (.cells cur t (0, 0))) : (w.setCell ⟨b, k, none⟩ u).heap[b]? = some (.cells (cur.setIfInBounds k u) t (0, 0)) := by
  obtain ⟨hlt, hb⟩ := Array.getElem?_eq_some_iff.1 h
  show (w.heap.modify b _)[b]? = _
  rw [Array.getElem?_eq_getElem (by simpa using hlt), Array.getElem_modify_self, hb]
  rfl
theorem row_frozen {w : World} {b k : Nat} {cur : Array Value} {t : TypeId} (h : w.heap[b]? = some (.cells cur t (0, 0))) : w.frozen? ⟨b, k, none⟩ = false := by
  simp [World.frozen?, h]
theorem lv_setCell {w : World} {g d : Nat} {lv : List Bool} {t : TypeId} (h : w.heap[g]? = some (.cells (lv.map Value.bool).toArray t (0, 0))) (hd : d < lv.length) (v : Bool) : w.cell? ⟨g, d, none⟩ = some (.bool (lv.getD d false)) ∧ w.frozen? ⟨g, d, none⟩ = false ∧ (w.setCell ⟨g, d, none⟩ (.bool v)).heap[g]? = some (.cells ((lv.set d v).map Value.bool).toArray t (0, 0)) ∧ w.grownBy (w.setCell ⟨g, d, none⟩ (.bool v)) (some g) := by
  refine ⟨?_, row_frozen h, ?_, ⟨rfl, rfl, rfl, by simp, fun k _ hne => Below.heap_setCell w _ _ k (fun e => hne (by rw [e]))⟩⟩
  · rw [cell_of_row w g d _ t _ h, List.getElem?_toArray, List.getElem?_map, List.getElem?_eq_getElem hd]
    simp [List.getD_eq_getElem?_getD, hd]
  · rw [row_setCell h, List.setIfInBounds_toArray, List.map_set]
end Go.Proofs.Ytldfoadildaljaa
end
section
set_option maxRecDepth 20000
set_option linter.unusedVariables false
set_option linter.unusedSimpArgs false
namespace Go.Proofs.Ytldfoadildaljaa
open Go.RowKit

section
variable {W w w' : World} {b : Nat} {H : BH} {N : Bch} {K : List (Nat × Obj)} {R : List (Option Addr × List (List UInt8))} {S : List (Option Addr × List UInt8)}
end
end Go.Proofs.Ytldfoadildaljaa
end
