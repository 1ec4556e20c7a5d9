/- One data sector changed: what each disk's sector changes by. Mostly plain. -/
import Derived.Test.YtbojmofkhkegmaaRowKit2
set_option maxRecDepth 8000
set_option linter.unusedVariables false
set_option linter.unusedSimpArgs false
namespace Go.Proofs.Ytbojmofkhkegmaa
open Go.RowKit

def qOf (l : Int) (D F W : Nat) : Int := if l = 6 then ((roS D F (W + 1) : Nat) : Int) else -1
def chW (l : Int) (D F W k : Nat) (ch : List UInt8) (j : Nat) : List UInt8 := if j = roS D F k ∨ j = roS D F W then ch else if (j : Int) = qOf l D F W then scaleL ch (gpow (k : Int)) else zeroL 32
theorem change_all {l : Int} {D F W k j : Nat} (hF : F < D) (hlv : (l = 5 ∧ D = W + 1) ∨ (l = 6 ∧ D = W + 2)) {rs : List (List UInt8)} (hl : rs.length = W) (ha : ∀ x ∈ rs, x.length = 32) (hk : k < W) {y : List UInt8} (hy : y.length = 32) (hj : j < D) :
    pB [(fillL D F rs).getD j [], (fillL D F (rs.set k y)).getD j []] = chW l D F W k (pB [rs.getD k [], y]) j := by
  have hm := roI_lt hF hj
  have hjm := roS_roI hF hj
  have hl2 : (rs.set k y).length = W := by rw [List.length_set]; exact hl
  have hx := mem_getD ha (show k < rs.length by omega)
  have hlow := allL_32 (rs := rs) (by omega) ha (k := roI D F j) (by omega)
  have inj : ∀ a b, a < D → b < D → a ≠ b → roS D F a ≠ roS D F b := fun a b h1 h2 h3 h4 => h3 (roS_inj hF h1 h2 h4)
  rw [fillL_get hF hj, fillL_get hF hj]
  unfold chW qOf
  rw [← hjm]
  rw [roI_roS hF hm]
  generalize roI D F j = m at hm hlow
  have p1 := allL_p rs
  have p2 := allL_p (rs.set k y)
  have q1 := allL_q rs
  have q2 := allL_q (rs.set k y)
  rw [hl] at p1 q1
  rw [hl2] at p2 q2
  have hkD : k < D := by omega
  have hWD : W < D := by omega
  by_cases h1 : m < W
  · rw [allL_data (by omega)] at hlow ⊢
    rw [allL_data (by omega)]
    by_cases h2 : m = k
    · subst h2
      rw [if_pos (.inl rfl), getD_set_same (by omega)]
    · rw [getD_set_other (fun e => h2 e.symm), pB_two rfl, xorL_self, hlow]
      have n1 := inj m k hm hkD h2
      have n2 := inj m W hm hWD (by omega)
      rw [if_neg (by omega), if_neg]
      intro e
      split at e
      · next h6 =>
        have : W + 1 < D := by omega
        have n3 := inj m (W + 1) hm this (by omega)
        omega
      · omega
  · by_cases h2 : m = W
    · subst h2
      have lp : (pB rs).length = 32 := pB_len (by omega) ha
      have lp2 : (pB (rs.set k y)).length = 32 := pB_len (by omega) (set_alike ha hy)
      rw [p1, p2, if_pos (.inr rfl), pB_two (lp.trans lp2.symm), pB_two (hx.trans hy.symm)]
      exact change_p ha (by omega) hy
    · have hW1 : m = W + 1 := by omega
      subst hW1
      have h6 : l = 6 := by omega
      have lp : (qB rs).length = 32 := qB_len (by omega) ha
      have lp2 : (qB (rs.set k y)).length = 32 := qB_len (by omega) (set_alike ha hy)
      have n1 := inj (W + 1) k hm hkD (by omega)
      have n2 := inj (W + 1) W hm hWD (by omega)
      rw [q1, q2, if_neg (by omega), if_pos (by rw [if_pos h6]), pB_two (lp.trans lp2.symm), pB_two (hx.trans hy.symm)]
      exact change_q ha (by omega) hy
/-- A sector times f, as far as byte k. -/
def wcTo (y : List UInt8) (f k : Nat) : List UInt8 := (scaleL y f).take k ++ zeroL (32 - k)
theorem wcTo_len {y : List UInt8} {f k : Nat} (hy : y.length = 32) (hk : k ≤ 32) : (wcTo y f k).length = 32 := by
  simp [wcTo, scaleL_len, zeroL, hy]; omega
theorem wcTo_zero (y : List UInt8) (f : Nat) : wcTo y f 0 = zeroL 32 := rfl
theorem wcTo_all {y : List UInt8} {f : Nat} (hy : y.length = 32) : wcTo y f 32 = scaleL y f := by
  unfold wcTo
  rw [List.take_of_length_le (by rw [scaleL_len, hy]; exact Nat.le_refl _)]
  simp [zeroL]
theorem wcTo_succ {y : List UInt8} {f k : Nat} (hy : y.length = 32) (hk : k < 32) : (wcTo y f k).set k (mulU (y.getD k 0) f) = wcTo y f (k + 1) := by
  have hl : ((scaleL y f).take k).length = k := by rw [List.length_take, scaleL_len, hy]; omega
  have hk2 : k < (scaleL y f).length := by rw [scaleL_len, hy]; exact hk
  unfold wcTo zeroL
  rw [List.set_append_right _ _ (by omega), hl, Nat.sub_self, show 32 - k = (32 - (k + 1)) + 1 from by omega, List.replicate_succ, List.set_cons_zero, List.take_succ_eq_append_getElem hk2, List.append_assoc]
  have e : (scaleL y f)[k] = mulU (y.getD k 0) f := by
    have := scaleL_get y f k
    rw [List.getD_eq_getElem?_getD, List.getElem?_eq_getElem hk2] at this
    exact this
  rw [e]
  rfl
theorem RowsY.fresh {w w' : World} {lo g : Nat} {ob : Option Nat} {xs : List Value} {rs : List (List UInt8)} (h : RowsY w lo ob xs rs) (hb : Below w.heap.size w w') (hg : w.heap.size ≤ g) : RowsY w' lo (some g) xs rs :=
  ⟨h.1, fun k hk => by
    obtain ⟨A, c, h1, h2, h3⟩ := h.2 k hk
    refine ⟨A, c, h1, h2.keep hb.size (fun p _ hp => hb.cell hp), fun h0 a ha e => ?_⟩
    obtain ⟨b, off, e2, hb2, _⟩ := h2.2 h0
    rw [ha] at e2
    injection e2 with e2
    subst e2
    injection e with e
    have : b = g := e
    omega⟩
theorem below_of_none {w w' : World} (hg : w.grownBy w' none) : Below w.heap.size w w' := (Below.refl w.heap.size w).grown hg (Nat.le_refl _) (fun j hj => by cases hj)
end Go.Proofs.Ytbojmofkhkegmaa
