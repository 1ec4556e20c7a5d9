/- Texts put together: StpMath, SlotMath, LogMath, BchDown. -/
import Derived.Test.YtenkkdnepmoihaaUpah
import Derived.Test.YtenkkdnepmoihaaUpat
import Derived.Test.YtenkkdnepmoihaaUpaf
section
set_option linter.unusedVariables false
set_option linter.unusedSimpArgs false
namespace Go.Proofs.Ytenkkdnepmoihaa

/-- A disk of the bench that is live; and has not failed. -/
def livD (N : Bch) (lv : List Bool) (i : Nat) : Bool := decide (i < N.n) && lv.getD i false
def srvD (N : Bch) (lv : List Bool) (i : Nat) : Bool := livD N lv i && !(N.D i).f
theorem srvD_yes {N : Bch} {lv : List Bool} {i : Nat} (h : srvD N lv i = true) : i < N.n ∧ lv.getD i false = true ∧ (N.D i).f = false := by
  unfold srvD livD at h
  simp only [Bool.and_eq_true, decide_eq_true_eq, Bool.not_eq_true'] at h
  exact ⟨h.1.1, h.1.2, h.2⟩
theorem srvD_mk {N : Bch} {lv : List Bool} {i : Nat} (h1 : i < N.n) (h2 : lv.getD i false = true) (h3 : (N.D i).f = false) : srvD N lv i = true := by
  unfold srvD livD; rw [h2, h3, decide_eq_true h1]; rfl
theorem srvD_no {N : Bch} {lv : List Bool} {i : Nat} (h : ¬ (i < N.n ∧ lv.getD i false = true ∧ (N.D i).f = false)) : srvD N lv i = false := by
  cases e : srvD N lv i with
  | false => rfl
  | true => exact absurd (srvD_yes e) h
/-- The sectors of a row, as far as disk k was asked. -/
def ssTo (N : Bch) (lv : List Bool) (a D k : Nat) : List (List UInt8) := (List.range D).map fun i => if i < k ∧ srvD N lv i = true then secAt (N.D i).now a else []
def ssL (N : Bch) (lv : List Bool) (a D : Nat) : List (List UInt8) := ssTo N lv a D D
theorem ssTo_len (N : Bch) (lv : List Bool) (a D k : Nat) : (ssTo N lv a D k).length = D := by simp [ssTo]
theorem ssL_len (N : Bch) (lv : List Bool) (a D : Nat) : (ssL N lv a D).length = D := ssTo_len _ _ _ _ _
theorem ssTo_get {N : Bch} {lv : List Bool} {a D k i : Nat} (hi : i < D) : (ssTo N lv a D k).getD i [] = if i < k ∧ srvD N lv i = true then secAt (N.D i).now a else [] := by
  simp [ssTo, List.getD_eq_getElem?_getD, hi]
theorem ssL_get {N : Bch} {lv : List Bool} {a D i : Nat} (hi : i < D) : (ssL N lv a D).getD i [] = if srvD N lv i = true then secAt (N.D i).now a else [] := by
  unfold ssL; rw [ssTo_get hi]; simp only [hi, true_and]
theorem ssTo_zero (N : Bch) (lv : List Bool) (a D : Nat) : ssTo N lv a D 0 = List.replicate D [] := by
  apply List.ext_getElem (by simp [ssTo])
  intro i h1 h2
  simp [ssTo]
theorem ssTo_skip {N : Bch} {lv : List Bool} {a D k : Nat} (hs : srvD N lv k = false) : ssTo N lv a D (k + 1) = ssTo N lv a D k := ext_getD (by rw [ssTo_len, ssTo_len]) fun i hi => by
  rw [ssTo_len] at hi
  rw [ssTo_get hi, ssTo_get hi]
  by_cases e : i = k
  · subst e; rw [if_neg (by rw [hs]; simp), if_neg (by omega)]
  · by_cases h : i < k
    · simp only [h, show i < k + 1 by omega]
    · rw [if_neg (by omega), if_neg (by omega)]
theorem ssTo_goes {N : Bch} {lv : List Bool} {a D k : Nat} (hk : k < D) (hs : srvD N lv k = true) : (ssTo N lv a D k).set k (secAt (N.D k).now a) = ssTo N lv a D (k + 1) := ext_getD (by rw [List.length_set, ssTo_len, ssTo_len]) fun i hi => by
  rw [List.length_set, ssTo_len] at hi
  rw [ssTo_get hi]
  by_cases e : k = i
  · subst e
    rw [getD_set_same (by rw [ssTo_len]; exact hi), if_pos ⟨by omega, hs⟩]
  · rw [getD_set_other e, ssTo_get hi]
    by_cases h : i < k
    · simp only [h, show i < k + 1 by omega]
    · rw [if_neg (by omega), if_neg (by omega)]
/-- What Read tells. -/
def anyS (N : Bch) (lv : List Bool) (k : Nat) : Bool := (List.range k).any (srvD N lv)
theorem anyS_no {N : Bch} {lv : List Bool} {k : Nat} (h : ∀ i, i < k → srvD N lv i = false) : anyS N lv k = false := by
  unfold anyS
  rw [List.any_eq_false]
  intro i hi
  simp [h i (List.mem_range.1 hi)]
theorem anyS_yes {N : Bch} {lv : List Bool} {k i : Nat} (hi : i < k) (h : srvD N lv i = true) : anyS N lv k = true := by
  unfold anyS
  rw [List.any_eq_true]
  exact ⟨i, List.mem_range.2 hi, h⟩
def srdE (N : Bch) (lv : List Bool) (l d c r : Int) : Int :=
  if plOk l d c r = false then 1 else if N.down = true ∧ anyS N lv (roD d) = true then 6 else if (roTake l d c r (ssL N lv (36 + r.toNat) (roD d))).isSome = true then 0 else 7
def srdL (N : Bch) (lv : List Bool) (l d c r : Int) : List (List UInt8) := if srdE N lv l d c r = 0 then (roTake l d c r (ssL N lv (36 + r.toNat) (roD d))).getD [] else []
theorem srdE_bad {N : Bch} {lv : List Bool} {l d c r : Int} (h : plOk l d c r = false) : srdE N lv l d c r = 1 ∧ srdL N lv l d c r = [] := by
  have e : srdE N lv l d c r = 1 := if_pos h
  exact ⟨e, by unfold srdL; rw [e]; rfl⟩
theorem srdE_down {N : Bch} {lv : List Bool} {l d c r : Int} (h : plOk l d c r = true) (hd : N.down = true) (ha : anyS N lv (roD d) = true) : srdE N lv l d c r = 6 ∧ srdL N lv l d c r = [] := by
  have e : srdE N lv l d c r = 6 := by unfold srdE; rw [if_neg (by simp [h]), if_pos ⟨hd, ha⟩]
  exact ⟨e, by unfold srdL; rw [e]; rfl⟩
theorem srdE_lost {N : Bch} {lv : List Bool} {l d c r : Int} (h : plOk l d c r = true) (hd : N.down = false ∨ anyS N lv (roD d) = false) (ht : roTake l d c r (ssL N lv (36 + r.toNat) (roD d)) = none) : srdE N lv l d c r = 7 ∧ srdL N lv l d c r = [] := by
  have e : srdE N lv l d c r = 7 := by
    unfold srdE; rw [if_neg (by simp [h]), if_neg, ht]; rfl
    rintro ⟨h1, h2⟩
    rcases hd with e | e
    · rw [e] at h1; cases h1
    · rw [e] at h2; cases h2
  exact ⟨e, by unfold srdL; rw [e]; rfl⟩
theorem srdE_ok {N : Bch} {lv : List Bool} {l d c r : Int} {rs : List (List UInt8)} (h : plOk l d c r = true) (hd : N.down = false ∨ anyS N lv (roD d) = false) (ht : roTake l d c r (ssL N lv (36 + r.toNat) (roD d)) = some rs) : srdE N lv l d c r = 0 ∧ srdL N lv l d c r = rs := by
  have e : srdE N lv l d c r = 0 := by
    unfold srdE; rw [if_neg (by simp [h]), if_neg, ht]; rfl
    rintro ⟨h1, h2⟩
    rcases hd with e | e
    · rw [e] at h1; cases h1
    · rw [e] at h2; cases h2
  exact ⟨e, by unfold srdL; rw [if_pos e, ht]; rfl⟩
/-- What One tells. -/
def kOf (l d c n : Int) : Nat := (n / c % (d - (l - 4))).toNat
section
variable {lv : List Bool} {a : Nat} {xs : List (List UInt8)} {N : Bch}
end
end Go.Proofs.Ytenkkdnepmoihaa
end
section
set_option linter.unusedVariables false
set_option linter.unusedSimpArgs false
namespace Go.Proofs.Ytenkkdnepmoihaa

end Go.Proofs.Ytenkkdnepmoihaa
end
section
set_option linter.unusedVariables false
set_option linter.unusedSimpArgs false
namespace Go.Proofs.Ytenkkdnepmoihaa

section
variable {f : Bch → It → Int × Bch} {l : List It} {N : Bch}
end
section
variable {l : List It} {N : Bch}
end
/-! What is put. -/
/-! What is applied. -/
/-! What is found. -/
end Go.Proofs.Ytenkkdnepmoihaa
end
section
namespace Go.Proofs.Ytenkkdnepmoihaa
open Go.RowKit

section
variable (B b : Nat) (H : BH) (N : Bch) (w : World) (h : BAt w B b H N)
include h
end
end Go.Proofs.Ytenkkdnepmoihaa
end
