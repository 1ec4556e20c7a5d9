/- Texts put together: StpSame, StpFlush, StpWrite, StpOne, StpWakes, LogGet. -/
import Derived.Test.YtenkkdnepmoihaaGreatDoorUeav
import Derived.Test.YtenkkdnepmoihaaGreatDoorUeba
import Derived.Test.YtenkkdnepmoihaaGreatDoorUeap
import Derived.Test.YtenkkdnepmoihaaGreatDoorUebc
import Derived.Test.YtenkkdnepmoihaaGreatDoorUeai
import Derived.Test.YtenkkdnepmoihaaGreatDoorUebb
import Derived.Test.YtenkkdnepmoihaaGreatDoorUead
section
set_option maxRecDepth 20000
set_option linter.unusedVariables false
set_option linter.unusedSimpArgs false
namespace Go.Proofs.YtenkkdnepmoihaaGreatDoor
open Go.RowKit

theorem RdZ.drop {w : World} {B : Nat} {A : Option Addr} {zs : List Int} (h : RdZ w B A zs) (k cap : Nat) (hc : zs.length ≤ cap) : RdZ w B (if cap = k then A else A.map (·.add k)) (zs.drop k) :=
  ⟨by have := h.1; simp; omega, fun z hz => h.2.1 z (List.mem_of_mem_drop hz), fun hn => by
    have hn' : k < zs.length := by simp at hn; omega
    obtain ⟨b, off, rfl, hb, hc⟩ := h.2.2 (by omega)
    rw [if_neg (by omega)]
    refine ⟨b, off + k, ?_, hb, fun j hj => ?_⟩
    · unfold Addr.add; by_cases hk0 : k = 0 <;> simp [hk0]
    · have hj' : k + j < zs.length := by simp at hj; omega
      rw [Nat.add_assoc, hc (k + j) hj']
      simp⟩
/-- The data of a row of a filled bench. -/
def datL (zs : List Int) (ρ W : Nat) : List (List UInt8) := sectorsB (zs.drop (min ρ zs.length)) W
theorem datL_len (zs : List Int) (ρ W : Nat) : (datL zs ρ W).length = W := sectorsB_len _ _
theorem datL_mem {zs : List Int} {ρ W : Nat} : ∀ x ∈ datL zs ρ W, x.length = 32 := sectorsB_mem
end Go.Proofs.YtenkkdnepmoihaaGreatDoor
end
section
set_option maxRecDepth 20000
set_option linter.unusedVariables false
set_option linter.unusedSimpArgs false
namespace Go.Proofs.YtenkkdnepmoihaaGreatDoor
open Go.RowKit

end Go.Proofs.YtenkkdnepmoihaaGreatDoor
end
section
set_option maxRecDepth 20000
set_option linter.unusedVariables false
set_option linter.unusedSimpArgs false
namespace Go.Proofs.YtenkkdnepmoihaaGreatDoor
open Go.RowKit

theorem Rq.rdf {lo : Nat} {W : World} {g cap n : Nat} {xs : List Value} {rs : List (List UInt8)} (h : Rq lo W g cap n xs rs) (hn : n ≤ 1000000) : RdF lo W (some ⟨g, 0, none⟩) rs := by
  obtain ⟨A, c, e, _, hr⟩ := rdf_own h.row (by rw [h.nn]; omega) h.rowsY
  injection e with e _ _
  rw [e]; exact hr
end Go.Proofs.YtenkkdnepmoihaaGreatDoor
end
section
set_option maxRecDepth 20000
set_option linter.unusedVariables false
set_option linter.unusedSimpArgs false
namespace Go.Proofs.YtenkkdnepmoihaaGreatDoor
open Go.RowKit

theorem solveB_len {N : Nat} {p q : List UInt8} {rs L : List (List UInt8)} (h : solveB N p q rs = some L) : L.length = rs.length := by
  unfold solveB at h
  split at h
  · injection h with h
    subst h
    rcases hm : missB rs with _ | ⟨i, _ | ⟨j, ms⟩⟩ <;> simp only [toldB, List.length_set, filledB_len]
  · cases h
theorem roTake_len {l d c r : Int} {xs L : List (List UInt8)} (h : roTake l d c r xs = some L) : L.length = roW l d := by
  unfold roTake at h
  split at h
  · rw [solveB_len h, dataL_len]
  · cases h
theorem srdL_len {N : Bch} {lv : List Bool} {l d c r : Int} (h : srdE N lv l d c r = 0) : (srdL N lv l d c r).length = roW l d := by
  unfold srdL
  rw [if_pos h]
  unfold srdE at h
  split at h
  · cases h
  · split at h
    · cases h
    · split at h
      · next hs =>
        obtain ⟨L, hL⟩ := Option.isSome_iff_exists.1 hs
        rw [hL]; exact roTake_len hL
      · cases h
/-- Where a number stands in its row. -/
theorem nums_at {l d c n : Int} (h : plOfOk l d c n = true) : plOk l d c (plOfR l d c n) = true ∧ kOf l d c n < roW l d ∧ (plNums l d c (plOfR l d c n)).length = roW l d ∧ (plNums l d c (plOfR l d c n)).getD (kOf l d c n) 0 = n ∧ (∀ j, j < kOf l d c n → (plNums l d c (plOfR l d c n)).getD j 0 ≠ n) ∧ plOfD l d c n = plD l d c (plOfR l d c n) (kOf l d c n : Nat) := by
  have hg := plOfOk_ok h
  obtain ⟨h0, h1⟩ := plOfOk_yes h
  obtain ⟨r0, r1, k0, k1, _, hN⟩ := of_row hg h0 h1
  obtain ⟨_, hr, hd, hk⟩ := of_yes hg h0 h1
  have hT := (plDok_yes hk).1
  have hw : gWid l d c = d - (l - 4) := gWid_yes hg
  have hW : ((roW l d : Nat) : Int) = d - (l - 4) := by unfold roW; omega
  have hK : ((kOf l d c n : Nat) : Int) = n / c % (d - (l - 4)) := by unfold kOf; omega
  rw [hr]
  refine ⟨hT, by omega, by rw [plNums_len hT, hw]; unfold roW; rfl, ?_, fun j hj e => ?_, by rw [hd, hK]⟩
  · rw [plNums_get hT (by omega), hK]; exact hN
  · rw [plNums_get hT (by omega)] at e
    have := (num_row (plDok_mk (k := (j : Int)) hT (by omega) (by omega))).2.2.2
    rw [e] at this
    omega
end Go.Proofs.YtenkkdnepmoihaaGreatDoor
end
section
set_option maxRecDepth 20000
set_option linter.unusedVariables false
set_option linter.unusedSimpArgs false
namespace Go.Proofs.YtenkkdnepmoihaaGreatDoor
open Go.RowKit

end Go.Proofs.YtenkkdnepmoihaaGreatDoor
end
section
set_option maxRecDepth 8000
set_option linter.unusedVariables false
set_option linter.unusedSimpArgs false
namespace Go.Proofs.YtenkkdnepmoihaaGreatDoor
open Go.RowKit

section
variable {w V V' : World} {s : Int} {A : Option Addr} {c : Nat} {l : List It}
end
end Go.Proofs.YtenkkdnepmoihaaGreatDoor
end
