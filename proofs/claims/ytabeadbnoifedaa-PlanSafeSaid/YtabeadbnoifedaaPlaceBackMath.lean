/- What stands on a disk, in plain numbers: which data chunk it is. -/
import Derived.Test.YtabeadbnoifedaaPlaceMath
namespace Go.Proofs.Ytabeadbnoifedaa

/-- A level and so many disks, one by one. -/
theorem ld_cases {l d c : Int} (h : gOk l d c = true) : (l = 5 ∧ d = 3) ∨ (l = 5 ∧ d = 4) ∨ (l = 5 ∧ d = 5) ∨ (l = 5 ∧ d = 6) ∨ (l = 5 ∧ d = 7) ∨ (l = 5 ∧ d = 8) ∨ (l = 6 ∧ d = 4) ∨ (l = 6 ∧ d = 5) ∨ (l = 6 ∧ d = 6) ∨ (l = 6 ∧ d = 7) ∨ (l = 6 ∧ d = 8) := by
  obtain ⟨h1, h8, _⟩ := gOk_yes h
  rcases h1 with ⟨rfl, h3⟩ | ⟨rfl, h4⟩
  · have hd : d = 3 ∨ d = 4 ∨ d = 5 ∨ d = 6 ∨ d = 7 ∨ d = 8 := by omega
    rcases hd with rfl | rfl | rfl | rfl | rfl | rfl <;> simp
  · have hd : d = 4 ∨ d = 5 ∨ d = 6 ∨ d = 7 ∨ d = 8 := by omega
    rcases hd with rfl | rfl | rfl | rfl | rfl <;> simp
theorem plK_spec {l d c i r : Int} (h : plBOk l d c i r = true) (hp : i ≠ plP l d c r) (hq : i ≠ plQ l d c r) :
    0 ≤ plK l d c i r ∧ plK l d c i r < gWid l d c ∧ plD l d c r (plK l d c i r) = i := by
  obtain ⟨hk, h0, h1⟩ := plBOk_yes h
  obtain ⟨hg, _, _⟩ := plOk_yes hk
  have hm := rem_bd (r / c) (show 1 ≤ d by have := gOk_bd hg; omega)
  rw [plP_yes hk] at hp
  have hw := gWid_yes hg
  have hkk : 0 ≤ plK l d c i r ∧ plK l d c i r < gWid l d c ∧ (plF l d c r + plK l d c i r) % d = i := by
    rw [hw]
    unfold plQ at hq
    rw [if_pos hk] at hq
    unfold plK plF
    generalize r / c % d = m at hm hp hq
    rcases ld_cases hg with ⟨rfl, rfl⟩ | ⟨rfl, rfl⟩ | ⟨rfl, rfl⟩ | ⟨rfl, rfl⟩ | ⟨rfl, rfl⟩ | ⟨rfl, rfl⟩ | ⟨rfl, rfl⟩ | ⟨rfl, rfl⟩ | ⟨rfl, rfl⟩ | ⟨rfl, rfl⟩ | ⟨rfl, rfl⟩ <;> simp at hq <;> omega
  have hd : plDok l d c r (plK l d c i r) = true := by
    unfold plDok
    rw [hk, decide_eq_true ⟨hkk.1, hkk.2.1⟩]; rfl
  exact ⟨hkk.1, hkk.2.1, by rw [plD_yes hd]; exact hkk.2.2⟩
theorem plK_only {l d c i r k : Int} (h : plDok l d c r k = true) (he : plD l d c r k = i) : k = plK l d c i r := by
  obtain ⟨hk, h0, h1⟩ := plDok_yes h
  obtain ⟨hg, _, _⟩ := plOk_yes hk
  have hf := plF_bd l c r (show 1 ≤ d by have := gOk_bd hg; omega)
  rw [plD_yes h] at he
  rw [gWid_yes hg] at h1
  unfold plK
  generalize plF l d c r = f at hf he
  subst he
  rcases ld_cases hg with ⟨rfl, rfl⟩ | ⟨rfl, rfl⟩ | ⟨rfl, rfl⟩ | ⟨rfl, rfl⟩ | ⟨rfl, rfl⟩ | ⟨rfl, rfl⟩ | ⟨rfl, rfl⟩ | ⟨rfl, rfl⟩ | ⟨rfl, rfl⟩ | ⟨rfl, rfl⟩ | ⟨rfl, rfl⟩ <;> omega
end Go.Proofs.Ytabeadbnoifedaa
