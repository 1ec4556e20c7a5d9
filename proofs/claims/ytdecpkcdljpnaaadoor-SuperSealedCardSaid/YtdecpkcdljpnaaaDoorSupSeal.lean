/- A Super's sector, one byte turned, sealed again: plain. -/
import Derived.Test.YtdecpkcdljpnaaaDoorSupMath
namespace Go.Proofs.YtdecpkcdljpnaaaDoor

def resealed (s : Su) (k : Nat) (c : UInt8) : List UInt8 := stamped ((suB s).set k ((suB s).getD k 0 ^^^ c)) []
theorem resealed_len (s : Su) (k : Nat) (c : UInt8) : (resealed s k c).length = 32 := stamped_len _ _ (by simp [suB_len])
theorem stamped_get (bs : List UInt8) (rs : List (List UInt8)) (k : Nat) (hk : k < 28) (hl : bs.length = 32) : (stamped bs rs).getD k 0 = bs.getD k 0 := by
  unfold stamped
  rw [List.getD_eq_getElem?_getD, List.getElem?_append_left (by simp; omega), List.getElem?_take, if_pos hk, List.getD_eq_getElem?_getD]
theorem resealed_get (s : Su) (k : Nat) (c : UInt8) (hk : k < 28) : (resealed s k c).getD k 0 = (suB s).getD k 0 ^^^ c := by
  unfold resealed
  rw [stamped_get _ _ k hk (by simp [suB_len])]
  rw [List.getD_eq_getElem?_getD, List.getElem?_set_self (by rw [suB_len]; omega)]
  rfl
theorem resealed_zero (s : Su) (k : Nat) (hk : k < 28) : resealed s k 0 = suB s := by
  have e : (suB s).set k ((suB s).getD k 0 ^^^ 0) = suB s := by
    rw [UInt8.xor_zero]
    apply List.ext_getElem (by simp)
    intro n h1 h2
    rw [List.getElem_set]
    split
    · subst_vars; simp [List.getD_eq_getElem?_getD, h2]
    · rfl
  unfold resealed
  rw [e]
  exact restamped _ _ _ (suFull_len s)
theorem body_const (s t : Su) (k : Nat) (hk : k < 28) (h : k < 4 ∨ 19 ≤ k) : (suBody s).getD k 0 = (suBody t).getD k 0 := by
  have hh : k = 0 ∨ k = 1 ∨ k = 2 ∨ k = 3 ∨ k = 19 ∨ k = 20 ∨ k = 21 ∨ k = 22 ∨ k = 23 ∨ k = 24 ∨ k = 25 ∨ k = 26 ∨ k = 27 := by omega
  rcases hh with rfl | rfl | rfl | rfl | rfl | rfl | rfl | rfl | rfl | rfl | rfl | rfl | rfl <;> rfl
theorem resealed_none (s : Su) (k : Nat) (c : UInt8) (hk : k < 28) (hc : c ≠ 0) (h : k < 4 ∨ 19 ≤ k) : decO (resealed s k c) = false := by
  rw [← Bool.not_eq_true]
  intro hd
  have h1 := ((decO_iff _).1 hd).2.2
  have h2 := suB_get (flds (resealed s k c)) k hk
  rw [h1, resealed_get s k c hk, suB_get s k hk, body_const (flds (resealed s k c)) s k hk h] at h2
  exact hc (xor_zero h2)
theorem resealed_other (s : Su) (k : Nat) (c : UInt8) (hk : k < 28) (hc : c ≠ 0) (hd : decO (resealed s k c) = true) : flds (resealed s k c) ≠ s := by
  intro h
  have h1 := ((decO_iff _).1 hd).2.2
  rw [h] at h1
  have h2 := resealed_get s k c hk
  rw [← h1] at h2
  exact hc (xor_zero h2.symm)
end Go.Proofs.YtdecpkcdljpnaaaDoor
