/- Geometries in plain numbers: which may be, what each bears and holds, which may become which. -/
import Derived.WalkKit
namespace Go.Proofs.Ytabeadbnoifedaa

/-- A geometry (level, disks, chunk) that may be. -/
def lvB (l d : Int) : Bool := decide (((l = 5 ∧ 3 ≤ d) ∨ (l = 6 ∧ 4 ≤ d)) ∧ d ≤ 8)
def chB (c : Int) : Bool := decide (c = 1 ∨ c = 2 ∨ c = 4)
def gOk (l d c : Int) : Bool := lvB l d && chB c
def gBud (l d c : Int) : Int := if gOk l d c = true then l - 4 else 0
def gWid (l d c : Int) : Int := if gOk l d c = true then d - (l - 4) else 0
def gCap (l d c : Int) : Int := gWid l d c * 16
def gEq (l d c l' d' c' : Int) : Bool := decide (l = l' ∧ d = d' ∧ c = c')
def gGe (l d c l' d' c' : Int) : Bool := decide (d ≤ d' ∧ l ≤ l' ∧ gWid l d c ≤ gWid l' d' c')
def gCan (l d c l' d' c' : Int) : Bool := gOk l d c && gOk l' d' c' && !gEq l d c l' d' c' && gGe l d c l' d' c'

def gErr (l d c : Int) : Int := if gOk l d c = true then 0 else 1
theorem gErr_yes {l d c : Int} (h : gOk l d c = true) : gErr l d c = 0 := if_pos h
theorem gErr_no {l d c : Int} (h : gOk l d c = false) : gErr l d c = 1 := if_neg (by rw [h]; decide)
theorem lvB_no {l d : Int} (h : ¬ (((l = 5 ∧ 3 ≤ d) ∨ (l = 6 ∧ 4 ≤ d)) ∧ d ≤ 8)) : lvB l d = false := decide_eq_false h
theorem lvB_5 {d : Int} (h : ¬ 8 < d) : lvB 5 d = decide (3 ≤ d) := by simp [lvB]; omega
theorem lvB_6 {d : Int} (h : ¬ 8 < d) : lvB 6 d = decide (4 ≤ d) := by simp [lvB]; omega
theorem chB_no {c : Int} (h : ¬ (c = 1 ∨ c = 2 ∨ c = 4)) : chB c = false := decide_eq_false h
theorem chB_yes {c : Int} (h : c = 1 ∨ c = 2 ∨ c = 4) : chB c = true := decide_eq_true h
theorem gGe_eq (l d c l' d' c' : Int) : gGe l d c l' d' c' = decide (d ≤ d' ∧ l ≤ l' ∧ gWid l d c ≤ gWid l' d' c') := rfl
theorem gOk_yes {l d c : Int} (h : gOk l d c = true) : ((l = 5 ∧ 3 ≤ d) ∨ (l = 6 ∧ 4 ≤ d)) ∧ d ≤ 8 ∧ (c = 1 ∨ c = 2 ∨ c = 4) := by
  simp [gOk, lvB, chB] at h
  omega
theorem gOk_mk {l d c : Int} (h : ((l = 5 ∧ 3 ≤ d) ∨ (l = 6 ∧ 4 ≤ d)) ∧ d ≤ 8 ∧ (c = 1 ∨ c = 2 ∨ c = 4)) : gOk l d c = true := by
  simp [gOk, lvB, chB]
  omega
theorem gOk_no {l d c : Int} (h : ¬ (((l = 5 ∧ 3 ≤ d) ∨ (l = 6 ∧ 4 ≤ d)) ∧ d ≤ 8 ∧ (c = 1 ∨ c = 2 ∨ c = 4))) : gOk l d c = false := by
  rw [← Bool.not_eq_true]; intro h'; exact h (gOk_yes h')
theorem gOk_bd {l d c : Int} (h : gOk l d c = true) : 5 ≤ l ∧ l ≤ 6 ∧ 3 ≤ d ∧ d ≤ 8 ∧ 1 ≤ c ∧ c ≤ 4 := by
  have := gOk_yes h
  omega
theorem gBud_yes {l d c : Int} (h : gOk l d c = true) : gBud l d c = l - 4 := if_pos h
theorem gBud_no {l d c : Int} (h : gOk l d c = false) : gBud l d c = 0 := if_neg (by rw [h]; decide)
theorem gWid_yes {l d c : Int} (h : gOk l d c = true) : gWid l d c = d - (l - 4) := if_pos h
theorem gWid_no {l d c : Int} (h : gOk l d c = false) : gWid l d c = 0 := if_neg (by rw [h]; decide)
theorem gBud_bd (l d c : Int) : 0 ≤ gBud l d c ∧ gBud l d c ≤ 2 := by
  cases h : gOk l d c
  · rw [gBud_no h]; omega
  · have := gOk_bd h; rw [gBud_yes h]; omega
theorem gWid_bd (l d c : Int) : 0 ≤ gWid l d c ∧ gWid l d c ≤ 7 := by
  cases h : gOk l d c
  · rw [gWid_no h]; omega
  · have := gOk_yes h; rw [gWid_yes h]; omega
theorem gEq_yes {l d c l' d' c' : Int} (h : gEq l d c l' d' c' = true) : l = l' ∧ d = d' ∧ c = c' := by simpa [gEq] using h
theorem gEq_no {l d c l' d' c' : Int} (h : gEq l d c l' d' c' = false) : ¬ (l = l' ∧ d = d' ∧ c = c') := by simpa [gEq] using h
theorem gEq_refl (l d c : Int) : gEq l d c l d c = true := by simp [gEq]
theorem gCan_parts {l d c l' d' c' : Int} (h : gCan l d c l' d' c' = true) : gOk l d c = true ∧ gOk l' d' c' = true ∧ gEq l d c l' d' c' = false ∧ d ≤ d' ∧ l ≤ l' ∧ gWid l d c ≤ gWid l' d' c' := by
  simp [gCan, gGe] at h
  exact ⟨h.1.1.1, h.1.1.2, h.1.2, h.2.1, h.2.2.1, h.2.2.2⟩
theorem gCan_mk {l d c l' d' c' : Int} (h : gOk l d c = true ∧ gOk l' d' c' = true ∧ gEq l d c l' d' c' = false ∧ d ≤ d' ∧ l ≤ l' ∧ gWid l d c ≤ gWid l' d' c') : gCan l d c l' d' c' = true := by
  simp [gCan, gGe]
  exact ⟨⟨⟨h.1, h.2.1⟩, h.2.2.1⟩, h.2.2.2.1, h.2.2.2.2.1, h.2.2.2.2.2⟩
theorem gCan_ok {l d c l' d' c' : Int} (h : gOk l d c = true) (h' : gOk l' d' c' = true) (hn : gEq l d c l' d' c' = false) : gCan l d c l' d' c' = gGe l d c l' d' c' := by
  simp [gCan, h, h', hn]
end Go.Proofs.Ytabeadbnoifedaa
