/- Windows between two geometries in plain numbers: how many rows one has, how many there are, what each moves, up to where. No program here. -/
import Derived.Test.YtabeadbnoifedaaPlaceAll
set_option linter.unusedVariables false
set_option linter.unusedSimpArgs false
namespace Go.Proofs.Ytabeadbnoifedaa

/-- Of chunks 1, 2, 4 the least number that both divide is the greater one. -/
def pnR (l d c l' d' c' : Int) : Int := if gCan l d c l' d' c' = true then (if c ≤ c' then c' else c) else 0
def pnW (l d c l' d' c' : Int) : Int := if gCan l d c l' d' c' = true then 16 / pnR l d c l' d' c' else 0
/-- How many sectors a window moves. -/
def pnN (l d c l' d' c' : Int) : Int := pnR l d c l' d' c' * gWid l' d' c'
def pnSok (l d c l' d' c' k : Int) : Bool := decide (0 ≤ k ∧ k < pnW l d c l' d' c')
def pnF (l d c l' d' c' k : Int) : Int := if pnSok l d c l' d' c' k = true then k * pnN l d c l' d' c' else 0
def pnT (l d c l' d' c' k : Int) : Int := if pnSok l d c l' d' c' k = true then (k + 1) * pnN l d c l' d' c' else 0
def pnCok (l d c l' d' c' k : Int) : Bool := decide (0 ≤ k ∧ k ≤ pnW l d c l' d' c')
def pnC (l d c l' d' c' k : Int) : Int := if pnCok l d c l' d' c' k = true then (if k * pnN l d c l' d' c' ≤ gCap l d c then k * pnN l d c l' d' c' else gCap l d c) else 0
/-- Two that a reshape can go between. -/
structure Pn (l d c l' d' c' R K w w' : Int) : Prop where
  a : gOk l d c = true
  b : gOk l' d' c' = true
  r : R = 1 ∨ R = 2 ∨ R = 4
  rc : c = 1 ∧ (R = 1 ∨ R = 2 ∨ R = 4) ∨ c = 2 ∧ (R = 2 ∨ R = 4) ∨ c = 4 ∧ R = 4
  rc' : c' = 1 ∧ (R = 1 ∨ R = 2 ∨ R = 4) ∨ c' = 2 ∧ (R = 2 ∨ R = 4) ∨ c' = 4 ∧ R = 4
  rk : R = 1 ∧ K = 16 ∨ R = 2 ∧ K = 8 ∨ R = 4 ∧ K = 4
  eR : pnR l d c l' d' c' = R
  eK : pnW l d c l' d' c' = K
  ew : d - (l - 4) = w
  ew' : d' - (l' - 4) = w'
  wc : w = 2 ∨ w = 3 ∨ w = 4 ∨ w = 5 ∨ w = 6 ∨ w = 7
  wc' : w' = 2 ∨ w' = 3 ∨ w' = 4 ∨ w' = 5 ∨ w' = 6 ∨ w' = 7
  le : w ≤ w'
  gw : gWid l d c = w
  gw' : gWid l' d' c' = w'
theorem pn_of {l d c l' d' c' : Int} (h : gCan l d c l' d' c' = true) : ∃ R K w w', Pn l d c l' d' c' R K w w' := by
  have h0 := h
  unfold gCan at h0
  simp only [Bool.and_eq_true] at h0
  obtain ⟨⟨⟨ha, hb⟩, _⟩, hge⟩ := h0
  have hle : gWid l d c ≤ gWid l' d' c' := by
    unfold gGe at hge
    exact (of_decide_eq_true hge).2.2
  have ha' := gOk_yes ha
  have hb' := gOk_yes hb
  have hw := (wd_cases ha).1
  have hw' := (wd_cases hb).1
  have e1 := gWid_yes ha
  have e2 := gWid_yes hb
  have eR : pnR l d c l' d' c' = if c ≤ c' then c' else c := if_pos h
  obtain ⟨R, hR⟩ : ∃ R, pnR l d c l' d' c' = R := ⟨_, rfl⟩
  have eK : pnW l d c l' d' c' = 16 / R := by unfold pnW; rw [if_pos h, hR]
  have hr : R = if c ≤ c' then c' else c := hR.symm.trans eR
  have hc := ha'.2.2
  have hc' := hb'.2.2
  have hr2 : (c ≤ c' ∧ R = c') ∨ (c' < c ∧ R = c) := by
    by_cases q : c ≤ c'
    · rw [if_pos q] at hr; exact .inl ⟨q, hr⟩
    · rw [if_neg q] at hr; exact .inr ⟨by omega, hr⟩
  clear hr eR
  exact ⟨R, 16 / R, d - (l - 4), d' - (l' - 4), ha, hb, by omega, by omega, by omega, by
    have : R = 1 ∨ R = 2 ∨ R = 4 := by omega
    rcases this with rfl | rfl | rfl <;> simp, hR, eK, rfl, rfl, hw, hw', by omega, e1, e2⟩
section
variable {l d c l' d' c' R K w w' : Int}
theorem Pn.rows (h : Pn l d c l' d' c' R K w w') : 1 ≤ R ∧ R ≤ 4 ∧ R * K = 16 ∧ R % c = 0 ∧ R % c' = 0 ∧ 4 ≤ K ∧ K ≤ 16 := by
  have hc := (gOk_yes h.a).2.2
  have hc' := (gOk_yes h.b).2.2
  have h1 := h.rc
  have h2 := h.rc'
  rcases h.rk with ⟨rfl, rfl⟩ | ⟨rfl, rfl⟩ | ⟨rfl, rfl⟩ <;> rcases hc with rfl | rfl | rfl <;> rcases hc' with rfl | rfl | rfl <;> omega
theorem Pn.n (h : Pn l d c l' d' c' R K w w') : pnN l d c l' d' c' = R * w' := by unfold pnN; rw [h.eR, h.gw']
theorem Pn.n_bd (h : Pn l d c l' d' c' R K w w') : 2 ≤ R * w' ∧ R * w' ≤ 28 ∧ R * w' * K = 16 * w' := by
  rcases h.rk with ⟨rfl, rfl⟩ | ⟨rfl, rfl⟩ | ⟨rfl, rfl⟩ <;> rcases h.wc' with rfl | rfl | rfl | rfl | rfl | rfl <;> omega
/-- A number in row r, of a geometry with chunks c that R is a multiple of. -/
theorem pn_num {wd c R k r j : Int} (hw : wd = 2 ∨ wd = 3 ∨ wd = 4 ∨ wd = 5 ∨ wd = 6 ∨ wd = 7) (hc : c = 1 ∧ (R = 1 ∨ R = 2 ∨ R = 4) ∨ c = 2 ∧ (R = 2 ∨ R = 4) ∨ c = 4 ∧ R = 4) (h0 : k * R ≤ r) (h1 : r < (k + 1) * R) (j0 : 0 ≤ j) (j1 : j < wd) :
    k * (R * wd) ≤ (r / c * wd + j) * c + r % c ∧ (r / c * wd + j) * c + r % c < (k + 1) * (R * wd) := by
  rcases hc with ⟨rfl, rfl | rfl | rfl⟩ | ⟨rfl, rfl | rfl⟩ | ⟨rfl, rfl⟩ <;> rcases hw with rfl | rfl | rfl | rfl | rfl | rfl <;> omega
/-- The row of a number. -/
theorem pn_row {wd c R k n : Int} (hw : wd = 2 ∨ wd = 3 ∨ wd = 4 ∨ wd = 5 ∨ wd = 6 ∨ wd = 7) (hc : c = 1 ∧ (R = 1 ∨ R = 2 ∨ R = 4) ∨ c = 2 ∧ (R = 2 ∨ R = 4) ∨ c = 4 ∧ R = 4) (h0 : 0 ≤ n) (k0 : 0 ≤ k) :
    (n < k * (R * wd) → n / c / wd * c + n % c < k * R) ∧ (k * (R * wd) ≤ n → k * R ≤ n / c / wd * c + n % c) := by
  rcases hc with ⟨rfl, rfl | rfl | rfl⟩ | ⟨rfl, rfl | rfl⟩ | ⟨rfl, rfl⟩ <;> rcases hw with rfl | rfl | rfl | rfl | rfl | rfl <;> omega
/-- P18.2. -/
theorem Pn.safe (h : Pn l d c l' d' c' R K w w') {k r j : Int} (k0 : 0 ≤ k) (h0 : k * R ≤ r) (h1 : r < (k + 1) * R) (j0 : 0 ≤ j) (j1 : j < w) : plN l d c r j < (k + 1) * (R * w') := by
  have h2 := (pn_num h.wc h.rc h0 h1 j0 j1).2
  unfold plN
  rw [h.ew]
  have hle := h.le
  have h3 : (k + 1) * (R * w) ≤ (k + 1) * (R * w') := Int.mul_le_mul_of_nonneg_left (Int.mul_le_mul_of_nonneg_left hle (by have := h.rows.1; omega)) (by omega)
  omega
theorem Pn.span (h : Pn l d c l' d' c' R K w w') {k r j : Int} (h0 : k * R ≤ r) (h1 : r < (k + 1) * R) (j0 : 0 ≤ j) (j1 : j < w') : k * (R * w') ≤ plN l' d' c' r j ∧ plN l' d' c' r j < (k + 1) * (R * w') := by
  unfold plN
  rw [h.ew']
  exact pn_num h.wc' h.rc' h0 h1 j0 j1
/-- Below the cursor in rows that are written, from it on in rows that are not. -/
theorem Pn.covers (h : Pn l d c l' d' c' R K w w') {k n : Int} (k0 : 0 ≤ k) (n0 : 0 ≤ n) : (n < k * (R * w') → plRow l' d' c' n < k * R) ∧ (k * (R * w') ≤ n → k * R ≤ plRow l d c n) := by
  refine ⟨fun hn => ?_, fun hn => ?_⟩
  · unfold plRow
    rw [h.ew']
    exact (pn_row h.wc' h.rc' n0 k0).1 hn
  · unfold plRow
    rw [h.ew]
    have hle := h.le
    have h3 : k * (R * w) ≤ k * (R * w') := Int.mul_le_mul_of_nonneg_left (Int.mul_le_mul_of_nonneg_left hle (by have := h.rows.1; omega)) (by omega)
    exact (pn_row h.wc h.rc n0 k0).2 (by omega)
end
end Go.Proofs.Ytabeadbnoifedaa
