/- Places in plain numbers: where parity stands, and data; what stands at each place. -/
import Derived.Test.YtabeadbnoifedaaGeoMath
namespace Go.Proofs.Ytabeadbnoifedaa

/-- A row of a geometry that may be. -/
def plOk (l d c r : Int) : Bool := gOk l d c && decide (0 ≤ r ∧ r < 16)
def plP (l d c r : Int) : Int := if plOk l d c r = true then d - 1 - r / c % d else -1
def plQ (l d c r : Int) : Int := if plOk l d c r = true then (if l = 6 then (d - 1 - r / c % d + 1) % d else -1) else -1
/-- The disk of data chunk 0. -/
def plF (l d c r : Int) : Int := (d - 1 - r / c % d + (l - 4)) % d
def plDok (l d c r k : Int) : Bool := plOk l d c r && decide (0 ≤ k ∧ k < gWid l d c)
def plD (l d c r k : Int) : Int := if plDok l d c r k = true then (plF l d c r + k) % d else -1
def plOfOk (l d c n : Int) : Bool := decide (0 ≤ n ∧ n < gCap l d c)
def plRow (l d c n : Int) : Int := n / c / (d - (l - 4)) * c + n % c
def plOfD (l d c n : Int) : Int := if plOfOk l d c n = true then plD l d c (plRow l d c n) (n / c % (d - (l - 4))) else 0
def plOfR (l d c n : Int) : Int := if plOfOk l d c n = true then plRow l d c n else 0
def plN (l d c r k : Int) : Int := (r / c * (d - (l - 4)) + k) * c + r % c
def plNums (l d c r : Int) : List Int := if plOk l d c r = true then (List.range (d - (l - 4)).toNat).map (fun k : Nat => plN l d c r (k : Int)) else []
def plBOk (l d c i r : Int) : Bool := plOk l d c r && decide (0 ≤ i ∧ i < d)
def plBk (l d c i r : Int) : Int := if plBOk l d c i r = true then (if i = plP l d c r then 1 else if i = plQ l d c r then 2 else 0) else 0
def plK (l d c i r : Int) : Int := (i - plF l d c r + d) % d
def plBn (l d c i r : Int) : Int := if plBOk l d c i r = true then (if i = plP l d c r then 0 else if i = plQ l d c r then 0 else plN l d c r (plK l d c i r)) else 0

theorem plOk_yes {l d c r : Int} (h : plOk l d c r = true) : gOk l d c = true ∧ 0 ≤ r ∧ r < 16 := by
  simp [plOk] at h
  exact h
theorem plOk_mk {l d c r : Int} (h : gOk l d c = true) (h0 : 0 ≤ r) (h1 : r < 16) : plOk l d c r = true := by
  simp [plOk, h, h0, h1]
theorem plOk_no {l d c r : Int} (h : ¬ (gOk l d c = true ∧ 0 ≤ r ∧ r < 16)) : plOk l d c r = false := by
  rw [← Bool.not_eq_true]; intro h'; exact h (plOk_yes h')
theorem plDok_yes {l d c r k : Int} (h : plDok l d c r k = true) : plOk l d c r = true ∧ 0 ≤ k ∧ k < gWid l d c := by
  simp [plDok] at h
  exact h
theorem plDok_no {l d c r k : Int} (h : ¬ (plOk l d c r = true ∧ 0 ≤ k ∧ k < gWid l d c)) : plDok l d c r k = false := by
  rw [← Bool.not_eq_true]; intro h'; exact h (plDok_yes h')
theorem plBOk_yes {l d c i r : Int} (h : plBOk l d c i r = true) : plOk l d c r = true ∧ 0 ≤ i ∧ i < d := by
  simp [plBOk] at h
  exact h
theorem plBOk_no {l d c i r : Int} (h : ¬ (plOk l d c r = true ∧ 0 ≤ i ∧ i < d)) : plBOk l d c i r = false := by
  rw [← Bool.not_eq_true]; intro h'; exact h (plBOk_yes h')
theorem plOfOk_yes {l d c n : Int} (h : plOfOk l d c n = true) : 0 ≤ n ∧ n < gCap l d c := by
  simpa [plOfOk] using h
theorem plOfOk_no {l d c n : Int} (h : ¬ (0 ≤ n ∧ n < gCap l d c)) : plOfOk l d c n = false := by
  rw [← Bool.not_eq_true]; intro h'; exact h (plOfOk_yes h')
theorem plP_yes {l d c r : Int} (h : plOk l d c r = true) : plP l d c r = d - 1 - r / c % d := if_pos h
theorem plP_no {l d c r : Int} (h : plOk l d c r = false) : plP l d c r = -1 := if_neg (by rw [h]; decide)
theorem plQ_6 {d c r : Int} (h : plOk 6 d c r = true) : plQ 6 d c r = (d - 1 - r / c % d + 1) % d := by rw [plQ, if_pos h, if_pos rfl]
theorem plQ_5 {d c r : Int} : plQ 5 d c r = -1 := by unfold plQ; split <;> simp
theorem plQ_no {l d c r : Int} (h : plOk l d c r = false) : plQ l d c r = -1 := if_neg (by rw [h]; decide)
theorem plD_yes {l d c r k : Int} (h : plDok l d c r k = true) : plD l d c r k = (plF l d c r + k) % d := if_pos h
theorem plD_no {l d c r k : Int} (h : plDok l d c r k = false) : plD l d c r k = -1 := if_neg (by rw [h]; decide)
/-- Quotients of rows, and of numbers, by a chunk's size. -/
theorem quo_bd {r c : Int} (n : Int) (h0 : 0 ≤ r) (h1 : r < n) (hc : 1 ≤ c) : 0 ≤ r / c ∧ r / c < n := by
  have a := Int.ediv_nonneg h0 (show 0 ≤ c by omega)
  have b := Int.ediv_le_self c h0
  omega
theorem rem_bd (r : Int) {d : Int} (hd : 1 ≤ d) : 0 ≤ r % d ∧ r % d < d := ⟨Int.emod_nonneg _ (by omega), Int.emod_lt_of_pos _ (by omega)⟩
theorem plF_bd (l c r : Int) {d : Int} (hd : 1 ≤ d) : 0 ≤ plF l d c r ∧ plF l d c r < d := rem_bd _ hd
theorem gCap_yes {l d c : Int} (h : gOk l d c = true) : gCap l d c = (d - (l - 4)) * 16 := by rw [gCap, gWid_yes h]
theorem gCap_no {l d c : Int} (h : gOk l d c = false) : gCap l d c = 0 := by rw [gCap, gWid_no h]; rfl
theorem gCap_bd (l d c : Int) : 0 ≤ gCap l d c ∧ gCap l d c ≤ 112 := by
  have := gWid_bd l d c
  unfold gCap; omega
theorem plOfOk_ok {l d c n : Int} (h : plOfOk l d c n = true) : gOk l d c = true := by
  cases hg : gOk l d c
  · have := plOfOk_yes h
    rw [gCap_no hg] at this
    omega
  · rfl
end Go.Proofs.Ytabeadbnoifedaa
