/- Places in plain numbers: each sector has one place, each place of a data chunk one sector; each row has all disks. -/
import Derived.Test.YtabeadbnoifedaaPlaceBackMath
namespace Go.Proofs.Ytabeadbnoifedaa

theorem wd_cases {l d c : Int} (h : gOk l d c = true) : (d - (l - 4) = 2 ∨ d - (l - 4) = 3 ∨ d - (l - 4) = 4 ∨ d - (l - 4) = 5 ∨ d - (l - 4) = 6 ∨ d - (l - 4) = 7) ∧ (c = 1 ∨ c = 2 ∨ c = 4) := by
  obtain ⟨h1, h8, hc⟩ := gOk_yes h
  refine ⟨?_, hc⟩
  omega
/-- The place of a sector: its row, its data chunk; and the number that stands there. -/
theorem of_row {l d c n : Int} (hg : gOk l d c = true) (h0 : 0 ≤ n) (h1 : n < gCap l d c) :
    0 ≤ plRow l d c n ∧ plRow l d c n < 16 ∧ 0 ≤ n / c % (d - (l - 4)) ∧ n / c % (d - (l - 4)) < d - (l - 4) ∧ plRow l d c n / c = n / c / (d - (l - 4)) ∧ plN l d c (plRow l d c n) (n / c % (d - (l - 4))) = n := by
  obtain ⟨hw, hc⟩ := wd_cases hg
  rw [gCap_yes hg] at h1
  unfold plN plRow
  generalize d - (l - 4) = wd at hw h1
  rcases hw with rfl | rfl | rfl | rfl | rfl | rfl <;> rcases hc with rfl | rfl | rfl <;> omega
/-- The number in a row, of a data chunk: its place is there. -/
theorem num_row {l d c r k : Int} (h : plDok l d c r k = true) : 0 ≤ plN l d c r k ∧ plN l d c r k < gCap l d c ∧ plRow l d c (plN l d c r k) = r ∧ plN l d c r k / c % (d - (l - 4)) = k := by
  obtain ⟨hk, k0, k1⟩ := plDok_yes h
  obtain ⟨hg, r0, r1⟩ := plOk_yes hk
  obtain ⟨hw, hc⟩ := wd_cases hg
  rw [gWid_yes hg] at k1
  rw [gCap_yes hg]
  unfold plN plRow
  generalize d - (l - 4) = wd at hw k1
  rcases hw with rfl | rfl | rfl | rfl | rfl | rfl <;> rcases hc with rfl | rfl | rfl <;> omega
theorem plDok_mk {l d c r k : Int} (h : plOk l d c r = true) (k0 : 0 ≤ k) (k1 : k < d - (l - 4)) : plDok l d c r k = true := by
  unfold plDok
  rw [h, gWid_yes (plOk_yes h).1, decide_eq_true ⟨k0, k1⟩]; rfl
/-- Data stands on no disk of parity. -/
theorem data_ne {l d c r k : Int} (h : plDok l d c r k = true) : 0 ≤ plD l d c r k ∧ plD l d c r k < d ∧ plD l d c r k ≠ plP l d c r ∧ plD l d c r k ≠ plQ l d c r := by
  obtain ⟨hk, k0, k1⟩ := plDok_yes h
  obtain ⟨hg, _, _⟩ := plOk_yes hk
  have hm := rem_bd (r / c) (show 1 ≤ d by have := gOk_bd hg; omega)
  rw [plD_yes h, plP_yes hk]
  rw [gWid_yes hg] at k1
  unfold plQ plF
  rw [if_pos hk]
  generalize r / c % d = m at hm
  rcases ld_cases hg with ⟨rfl, rfl⟩ | ⟨rfl, rfl⟩ | ⟨rfl, rfl⟩ | ⟨rfl, rfl⟩ | ⟨rfl, rfl⟩ | ⟨rfl, rfl⟩ | ⟨rfl, rfl⟩ | ⟨rfl, rfl⟩ | ⟨rfl, rfl⟩ | ⟨rfl, rfl⟩ | ⟨rfl, rfl⟩ <;> simp <;> omega
theorem parity_in {l d c r : Int} (hk : plOk l d c r = true) : 0 ≤ plP l d c r ∧ plP l d c r < d ∧ (l = 5 → plQ l d c r = -1) ∧ (l = 6 → 0 ≤ plQ l d c r ∧ plQ l d c r < d ∧ plQ l d c r ≠ plP l d c r) := by
  obtain ⟨hg, _, _⟩ := plOk_yes hk
  have hm := rem_bd (r / c) (show 1 ≤ d by have := gOk_bd hg; omega)
  rw [plP_yes hk]
  unfold plQ
  rw [if_pos hk]
  generalize r / c % d = m at hm
  rcases ld_cases hg with ⟨rfl, rfl⟩ | ⟨rfl, rfl⟩ | ⟨rfl, rfl⟩ | ⟨rfl, rfl⟩ | ⟨rfl, rfl⟩ | ⟨rfl, rfl⟩ | ⟨rfl, rfl⟩ | ⟨rfl, rfl⟩ | ⟨rfl, rfl⟩ | ⟨rfl, rfl⟩ | ⟨rfl, rfl⟩ <;> simp <;> omega
/-- What stands at data's place. -/
theorem back_data {l d c r k : Int} (h : plDok l d c r k = true) : plBOk l d c (plD l d c r k) r = true ∧ plBk l d c (plD l d c r k) r = 0 ∧ plBn l d c (plD l d c r k) r = plN l d c r k := by
  obtain ⟨a, b, e1, e2⟩ := data_ne h
  have hk := (plDok_yes h).1
  have hb : plBOk l d c (plD l d c r k) r = true := by unfold plBOk; rw [hk, decide_eq_true ⟨a, b⟩]; rfl
  refine ⟨hb, ?_, ?_⟩
  · unfold plBk; rw [if_pos hb, if_neg e1, if_neg e2]
  · unfold plBn; rw [if_pos hb, if_neg e1, if_neg e2, ← plK_only h rfl]
theorem back_parity {l d c r : Int} (hk : plOk l d c r = true) : plBOk l d c (plP l d c r) r = true ∧ plBk l d c (plP l d c r) r = 1 := by
  obtain ⟨a, b, _⟩ := parity_in hk
  have hb : plBOk l d c (plP l d c r) r = true := by unfold plBOk; rw [hk, decide_eq_true ⟨a, b⟩]; rfl
  exact ⟨hb, by unfold plBk; rw [if_pos hb, if_pos rfl]⟩
theorem of_yes {l d c n : Int} (hg : gOk l d c = true) (h0 : 0 ≤ n) (h1 : n < gCap l d c) :
    plOfOk l d c n = true ∧ plOfR l d c n = plRow l d c n ∧ plOfD l d c n = plD l d c (plRow l d c n) (n / c % (d - (l - 4))) ∧ plDok l d c (plRow l d c n) (n / c % (d - (l - 4))) = true := by
  obtain ⟨a, b, k0, k1, _, _⟩ := of_row hg h0 h1
  have hok : plOfOk l d c n = true := decide_eq_true ⟨h0, h1⟩
  exact ⟨hok, by rw [plOfR, if_pos hok], by rw [plOfD, if_pos hok], plDok_mk (plOk_mk hg a b) k0 k1⟩
theorem of_back {l d c n : Int} (hg : gOk l d c = true) (h0 : 0 ≤ n) (h1 : n < gCap l d c) :
    plOfOk l d c n = true ∧ (0 ≤ plOfD l d c n ∧ plOfD l d c n < d) ∧ (0 ≤ plOfR l d c n ∧ plOfR l d c n < 16) ∧ plBOk l d c (plOfD l d c n) (plOfR l d c n) = true ∧ plBk l d c (plOfD l d c n) (plOfR l d c n) = 0 ∧ plBn l d c (plOfD l d c n) (plOfR l d c n) = n := by
  obtain ⟨a, b, k0, k1, _, hN⟩ := of_row hg h0 h1
  obtain ⟨hok, hr, hd, hk⟩ := of_yes hg h0 h1
  obtain ⟨b1, b2, b3⟩ := back_data hk
  obtain ⟨d0, d1, _, _⟩ := data_ne hk
  rw [hr, hd]
  exact ⟨hok, ⟨d0, d1⟩, ⟨a, b⟩, b1, b2, by rw [b3]; exact hN⟩
theorem of_num {l d c r k : Int} (h : plDok l d c r k = true) : plOfOk l d c (plN l d c r k) = true ∧ plOfD l d c (plN l d c r k) = plD l d c r k ∧ plOfR l d c (plN l d c r k) = r := by
  have hg := (plOk_yes (plDok_yes h).1).1
  obtain ⟨n0, n1, hr, hk⟩ := num_row h
  obtain ⟨hok, h2, h3, _⟩ := of_yes hg n0 n1
  refine ⟨hok, ?_, ?_⟩
  · rw [h3, hr, hk]
  · rw [h2, hr]
/-- Neighbours in a chunk. -/
theorem of_next {l d c n : Int} (hg : gOk l d c = true) (h0 : 0 ≤ n) (h1 : n < gCap l d c) :
    plOfOk l d c (n + 1) = decide (n + 1 < gCap l d c) ∧ ((n + 1) % c = 0 ∨ (plOfD l d c n = plOfD l d c (n + 1) ∧ plOfR l d c (n + 1) = plOfR l d c n + 1)) := by
  refine ⟨?_, ?_⟩
  · by_cases h : n + 1 < gCap l d c
    · rw [decide_eq_true h]; exact decide_eq_true ⟨by omega, h⟩
    · rw [decide_eq_false h]; exact decide_eq_false (by omega)
  · by_cases hm : (n + 1) % c = 0
    · exact .inl hm
    · right
      have h2 : n + 1 < gCap l d c := by
        obtain ⟨hw, hc⟩ := wd_cases hg
        rw [gCap_yes hg] at h1 ⊢
        rcases hc with rfl | rfl | rfl <;> omega
      obtain ⟨_, hr, hd, hk⟩ := of_yes hg h0 h1
      obtain ⟨_, hr', hd', hk'⟩ := of_yes hg (show 0 ≤ n + 1 by omega) h2
      obtain ⟨_, _, _, _, hq, _⟩ := of_row hg h0 h1
      obtain ⟨_, _, _, _, hq', _⟩ := of_row hg (show 0 ≤ n + 1 by omega) h2
      have hcc : (n + 1) / c = n / c ∧ (n + 1) % c = n % c + 1 := by
        obtain ⟨hw, hc⟩ := wd_cases hg
        rcases hc with rfl | rfl | rfl <;> omega
      have hrow : plRow l d c (n + 1) = plRow l d c n + 1 := by unfold plRow; rw [hcc.1, hcc.2]; omega
      rw [hd, hd', hr, hr']
      refine ⟨?_, hrow⟩
      rw [plD_yes hk, plD_yes hk']
      unfold plF
      rw [hq, hq', hcc.1]
end Go.Proofs.Ytabeadbnoifedaa
