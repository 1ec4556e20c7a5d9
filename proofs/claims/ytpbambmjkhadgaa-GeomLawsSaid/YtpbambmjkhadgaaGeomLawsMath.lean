/- What follows of one geometry becoming another one. -/
import Derived.Test.YtpbambmjkhadgaaGeoMath
namespace Go.Proofs.Ytpbambmjkhadgaa

theorem gCan_self (l d c : Int) : gCan l d c l d c = false := by unfold gCan; rw [gEq_refl, Bool.not_true, Bool.and_false, Bool.false_and]
theorem gWid_gBud {l d c : Int} (h : gOk l d c = true) : gWid l d c + gBud l d c = d ∧ gBud l d c = l - 4 := by rw [gWid_yes h, gBud_yes h]; omega
theorem gCan_grows {l d c l' d' c' : Int} (h : gCan l d c l' d' c' = true) : gCap l d c ≤ gCap l' d' c' ∧ gBud l d c ≤ gBud l' d' c' ∧ d ≤ d' := by
  obtain ⟨h1, h2, h3, h4, h5, h6⟩ := gCan_parts h
  refine ⟨by unfold gCap; omega, ?_, h4⟩
  rw [gBud_yes h1, gBud_yes h2]; omega
theorem gEq_false {l d c l' d' c' : Int} (h : ¬ (l = l' ∧ d = d' ∧ c = c')) : gEq l d c l' d' c' = false := decide_eq_false h
theorem gCan_back {l d c l' d' c' : Int} (h : gCan l d c l' d' c' = true) : gCan l' d' c' l d c = decide (l = l' ∧ d = d') := by
  obtain ⟨h1, h2, h3, h4, h5, h6⟩ := gCan_parts h
  by_cases e : l = l' ∧ d = d'
  · rw [decide_eq_true e]
    obtain ⟨rfl, rfl⟩ := e
    have := gEq_no h3
    refine gCan_mk ⟨h2, h1, gEq_false (by omega), Int.le_refl _, Int.le_refl _, ?_⟩
    rw [gWid_yes h1, gWid_yes h2]; omega
  · rw [decide_eq_false e, ← Bool.not_eq_true]
    intro h'
    have := gCan_parts h'
    omega
theorem gCan_on {l d c l' d' c' l2 d2 c2 : Int} (h : gCan l d c l' d' c' = true) (k : gCan l' d' c' l2 d2 c2 = true) : gCan l d c l2 d2 c2 = !gEq l d c l2 d2 c2 := by
  obtain ⟨h1, h2, h3, h4, h5, h6⟩ := gCan_parts h
  obtain ⟨k1, k2, k3, k4, k5, k6⟩ := gCan_parts k
  cases e : gEq l d c l2 d2 c2
  · exact gCan_mk ⟨h1, k2, e, by omega, by omega, by omega⟩
  · obtain ⟨rfl, rfl, rfl⟩ := gEq_yes e
    exact gCan_self _ _ _
theorem gNe_cases (l d c l' d' c' : Int) : ((!gEq l d c l' d' c') = false ∧ l = l' ∧ d = d' ∧ c = c') ∨ ((!gEq l d c l' d' c') = true ∧ ((¬ l = l') ∨ (l = l' ∧ ¬ d = d') ∨ (l = l' ∧ d = d' ∧ ¬ c = c'))) := by
  cases e : gEq l d c l' d' c'
  · exact .inr ⟨rfl, by have := gEq_no e; omega⟩
  · exact .inl ⟨rfl, gEq_yes e⟩
end Go.Proofs.Ytpbambmjkhadgaa
