/- Texts put together: StpLawKit, StpOneMath, KsFar. -/
import Derived.Test.YtadmofpipfdedaaSeaz
import Derived.Test.YtadmofpipfdedaaSeax
import Derived.Test.YtadmofpipfdedaaSeay
import Derived.Test.YtadmofpipfdedaaSeaw
import Derived.Test.YtadmofpipfdedaaSeaj
import Derived.Test.YtadmofpipfdedaaSeau
section
set_option maxRecDepth 20000
set_option linter.unusedVariables false
set_option linter.unusedSimpArgs false
namespace Go.Proofs.Ytadmofpipfdedaa
open Go.RowKit

section
variable {W w w' : World} {b : Nat} {H : BH} {N : Bch} {K : List (Nat × Obj)} {R : List (Option Addr × List (List UInt8))} {S : List (Option Addr × List UInt8)}
/-- A block that was made since. -/
theorem KS.block (h : KS W w b H N K R S) (hb : Below w.heap.size w w') {g : Nat} {o : Obj} (hg : w'.heap[g]? = some o) (hw : w.heap.size ≤ g) : KS W w' b H N ((g, o) :: K) R S := by
  have h' := h.below hb
  refine ⟨⟨h'.bp, fun p hp => ?_⟩, h'.rx, h'.sx⟩
  rcases List.mem_cons.1 hp with rfl | hp
  · exact ⟨hg, fun e => by have := h.flt _ e; omega, by have := h.bp.bel.size; omega⟩
  · exact h'.kx.kp p hp
end
section
variable {W w : World} {b : Nat} {H : BH} {N : Bch} {K : List (Nat × Obj)} {R : List (Option Addr × List (List UInt8))} {S : List (Option Addr × List UInt8)} (h : KS W w b H N K R S)
include h
theorem ks_live (n : Int) (d : Nat) (hn : (-9223372036854775808 ≤ n ∧ n ≤ 9223372036854775807)) (hd : 1 ≤ d ∧ d ≤ 8) :
    Calls Try.prog 14 #[.int .i64 n, .int .i64 (d : Int)] w fun e w' => ∃ g, e = .returned (.slice (some ⟨g, 0, none⟩) d d) ∧ KS W w' b H N ((g, Obj.cells ((liveL n d).map Value.bool).toArray 4 (0, 0)) :: K) R S := by
  refine (live_any n d w hn hd).mono ?_
  rintro e w' ⟨g, rfl, hg, hw, hb⟩
  exact ⟨g, rfl, h.block hb hg hw⟩
end
theorem live0 {d i : Nat} (hi : i < d) : (liveL 0 d).getD i false = true := by
  rw [liveL_get 0 hi]
  unfold liveB
  rw [if_neg, if_neg]
  · rintro ⟨h, _⟩; revert h; decide
  · rintro ⟨h, _⟩; revert h; decide
end Go.Proofs.Ytadmofpipfdedaa
end
section
set_option linter.unusedVariables false
set_option linter.unusedSimpArgs false
namespace Go.Proofs.Ytadmofpipfdedaa
open Go.RowKit

end Go.Proofs.Ytadmofpipfdedaa
end
section
set_option maxRecDepth 20000
set_option linter.unusedVariables false
set_option linter.unusedSimpArgs false
namespace Go.Proofs.Ytadmofpipfdedaa
open Go.RowKit

section
variable {W w w' : World} {b : Nat} {H : BH} {N : Bch} {K : List (Nat × Obj)} {R : List (Option Addr × List (List UInt8))} {S : List (Option Addr × List UInt8)}
end
end Go.Proofs.Ytadmofpipfdedaa
end
