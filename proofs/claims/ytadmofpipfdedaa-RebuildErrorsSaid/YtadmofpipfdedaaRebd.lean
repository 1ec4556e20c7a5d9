/- Texts put together: RbdFld. -/
import Derived.Test.YtadmofpipfdedaaRebb
import Derived.Test.YtadmofpipfdedaaReax
import Derived.Test.YtadmofpipfdedaaReaz
section
set_option linter.unusedVariables false
set_option linter.unusedSimpArgs false
namespace Go.Proofs.Ytadmofpipfdedaa

theorem sec_zeroS {k : Nat} (hk : k < 52) : secAt zeroS k = zeroL 32 := by
  apply List.ext_getElem?
  intro i
  rw [secAt_get]
  unfold zeroS zeroL
  split
  · next h => rw [List.getElem?_replicate, if_pos (by omega), List.getElem?_replicate, if_pos h]
  · next h => rw [List.getElem?_replicate, if_neg h]
/-- Each row's geometry. -/
theorem RG.gr {G : RG} (h : G.ok = true) {t : Nat} (ht : t < 16) : ∃ D : Nat, G.D t = (D : Int) ∧ Gr 0 (G.L t) (G.C t) (t : Int) D (roF (G.L t) (G.D t) (G.C t) (t : Int)) (roW (G.L t) (G.D t)) := by
  have hg := RG.good h t
  have hb := gOk_bd hg
  obtain ⟨D, hD⟩ : ∃ D : Nat, G.D t = (D : Int) := ⟨(G.D t).toNat, by omega⟩
  rw [hD] at hg ⊢
  exact ⟨D, rfl, gr_mk hg (by omega) (by omega)⟩
end Go.Proofs.Ytadmofpipfdedaa
end
