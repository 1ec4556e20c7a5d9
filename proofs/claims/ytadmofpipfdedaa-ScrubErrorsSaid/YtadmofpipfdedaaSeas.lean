/- Texts put together: StpMath, BchDown. -/
import Derived.Test.YtadmofpipfdedaaSeah
import Derived.Test.YtadmofpipfdedaaSeap
section
set_option linter.unusedVariables false
set_option linter.unusedSimpArgs false
namespace Go.Proofs.Ytadmofpipfdedaa

/-- A disk of the bench that is live; and has not failed. -/
def livD (N : Bch) (lv : List Bool) (i : Nat) : Bool := decide (i < N.n) && lv.getD i false
def srvD (N : Bch) (lv : List Bool) (i : Nat) : Bool := livD N lv i && !(N.D i).f
theorem srvD_yes {N : Bch} {lv : List Bool} {i : Nat} (h : srvD N lv i = true) : i < N.n ∧ lv.getD i false = true ∧ (N.D i).f = false := by
  unfold srvD livD at h
  simp only [Bool.and_eq_true, decide_eq_true_eq, Bool.not_eq_true'] at h
  exact ⟨h.1.1, h.1.2, h.2⟩
theorem srvD_mk {N : Bch} {lv : List Bool} {i : Nat} (h1 : i < N.n) (h2 : lv.getD i false = true) (h3 : (N.D i).f = false) : srvD N lv i = true := by
  unfold srvD livD; rw [h2, h3, decide_eq_true h1]; rfl
/-- The sectors of a row, as far as disk k was asked. -/
def ssTo (N : Bch) (lv : List Bool) (a D k : Nat) : List (List UInt8) := (List.range D).map fun i => if i < k ∧ srvD N lv i = true then secAt (N.D i).now a else []
def ssL (N : Bch) (lv : List Bool) (a D : Nat) : List (List UInt8) := ssTo N lv a D D
theorem ssTo_len (N : Bch) (lv : List Bool) (a D k : Nat) : (ssTo N lv a D k).length = D := by simp [ssTo]
theorem ssL_len (N : Bch) (lv : List Bool) (a D : Nat) : (ssL N lv a D).length = D := ssTo_len _ _ _ _ _
theorem ssTo_get {N : Bch} {lv : List Bool} {a D k i : Nat} (hi : i < D) : (ssTo N lv a D k).getD i [] = if i < k ∧ srvD N lv i = true then secAt (N.D i).now a else [] := by
  simp [ssTo, List.getD_eq_getElem?_getD, hi]
theorem ssL_get {N : Bch} {lv : List Bool} {a D i : Nat} (hi : i < D) : (ssL N lv a D).getD i [] = if srvD N lv i = true then secAt (N.D i).now a else [] := by
  unfold ssL; rw [ssTo_get hi]; simp only [hi, true_and]
theorem ssTo_zero (N : Bch) (lv : List Bool) (a D : Nat) : ssTo N lv a D 0 = List.replicate D [] := by
  apply List.ext_getElem (by simp [ssTo])
  intro i h1 h2
  simp [ssTo]
theorem ssTo_goes {N : Bch} {lv : List Bool} {a D k : Nat} (hk : k < D) (hs : srvD N lv k = true) : (ssTo N lv a D k).set k (secAt (N.D k).now a) = ssTo N lv a D (k + 1) := ext_getD (by rw [List.length_set, ssTo_len, ssTo_len]) fun i hi => by
  rw [List.length_set, ssTo_len] at hi
  rw [ssTo_get hi]
  by_cases e : k = i
  · subst e
    rw [getD_set_same (by rw [ssTo_len]; exact hi), if_pos ⟨by omega, hs⟩]
  · rw [getD_set_other e, ssTo_get hi]
    by_cases h : i < k
    · simp only [h, show i < k + 1 by omega]
    · rw [if_neg (by omega), if_neg (by omega)]
section
variable {lv : List Bool} {a : Nat} {xs : List (List UInt8)} {N : Bch}
end
end Go.Proofs.Ytadmofpipfdedaa
end
section
namespace Go.Proofs.Ytadmofpipfdedaa
open Go.RowKit

section
variable (B b : Nat) (H : BH) (N : Bch) (w : World) (h : BAt w B b H N)
include h
theorem bch_down_any : Calls Try.prog 19 #[ptr b] w fun e w' => e = .returned (.bool N.down) ∧ w' = w := by
  have hc := h.cell 2 _ rfl
  clear h
  unfold ptr
  go_enter Try.func19, Try.ntmps19
  go_wp2
  go_ret
  exact ⟨rfl, rfl⟩
end
end Go.Proofs.Ytadmofpipfdedaa
end
