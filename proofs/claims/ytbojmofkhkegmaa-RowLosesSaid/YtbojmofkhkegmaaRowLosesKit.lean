/- RowLoses: its loops. -/
import Derived.Test.YtbojmofkhkegmaaRaaj
import Derived.Test.YtbojmofkhkegmaaSetN
import Derived.Maps.RangeWalk
set_option linter.unusedVariables false
set_option linter.unusedSimpArgs false
namespace Go.Proofs.Ytbojmofkhkegmaa
open Go.RowKit

noncomputable def codeRL : Code := Try.f6.body.getD .skip
theorem SetN.mono {w : World} {B n n' : Nat} {xs : List Int} (h : SetN w B n xs) (hn : n ≤ n') : SetN w B n' xs := by
  obtain ⟨D, ⟨es, clock, h1, h2, h3, h4⟩, r⟩ := h
  exact ⟨D, ⟨es, clock, h1, h2, Nat.le_trans h3 hn, h4⟩, r⟩
def kv (a b : Int) (j : Nat) : Int := if j = 0 then a else b
/-- A row some of whose sectors are gone. -/
def goneL (fl : List (List UInt8)) (xs : List Int) (left : Lit → Bool) (D : Nat) (rs : List (List UInt8)) : Prop := ∀ i : Nat, i < D → rs.getD i [] = if (i : Int) ∈ xs ∧ left (.int .i64 (i : Int)) = false then [] else fl.getD i []
theorem goneL_start {fl : List (List UInt8)} {xs : List Int} {left : Lit → Bool} {D : Nat} (h : ∀ z : Int, left (.int .i64 z) = decide (z ∈ xs)) : goneL fl xs left D fl := fun i hi => by
  rw [if_neg]
  rintro ⟨h1, h2⟩
  rw [h, decide_eq_true h1] at h2
  cases h2
theorem goneL_step {fl rs : List (List UInt8)} {xs : List Int} {left : Lit → Bool} {D k : Nat} (h : goneL fl xs left D rs) (hl : rs.length = D) (hk : k < D) (hm : (k : Int) ∈ xs) : goneL fl xs (fun z => left z && !z.sameKey (.int .i64 (k : Int))) D (rs.set k []) := fun i hi => by
  have hsk : (Lit.int .i64 (i : Int)).sameKey (.int .i64 (k : Int)) = decide (i = k) := by
    show decide (IntKind.i64 = IntKind.i64 ∧ (i : Int) = (k : Int)) = _
    by_cases e : i = k
    · rw [decide_eq_true e, decide_eq_true ⟨rfl, by omega⟩]
    · rw [decide_eq_false e, decide_eq_false fun h => e (by omega)]
  by_cases e : k = i
  · subst e
    rw [getD_set_same (by omega), if_pos ⟨hm, by simp only [hsk]; simp⟩]
  · rw [getD_set_other e, h i hi]
    have e2 : decide (i = k) = false := decide_eq_false (fun h => e h.symm)
    simp only [hsk, e2, Bool.not_false, Bool.and_true]
/-- With none left: what is missing is what was struck. -/
theorem goneL_end {fl rs : List (List UInt8)} {xs : List Int} {left : Lit → Bool} {D : Nat} (h : goneL fl xs left D rs) (hl : ∀ kl, left kl = false) {i : Nat} (hi : i < D) : rs.getD i [] = if (i : Int) ∈ xs then [] else fl.getD i [] := by
  rw [h i hi]
  by_cases hm : (i : Int) ∈ xs
  · rw [if_pos ⟨hm, hl _⟩, if_pos hm]
  · rw [if_neg fun e => hm e.1, if_neg hm]
end Go.Proofs.Ytbojmofkhkegmaa
