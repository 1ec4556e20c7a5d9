/- Counting a row's sectors: disk by disk, or part by part. No program here. -/
import Derived.Test.YtbojmofkhkegmaaRaae
set_option linter.unusedVariables false
set_option linter.unusedSimpArgs false
namespace Go.Proofs.Ytbojmofkhkegmaa

theorem len_le_map {f : Nat → Nat} : ∀ {l1 l2 : List Nat}, l1.Nodup → (∀ a ∈ l1, ∀ b ∈ l1, f a = f b → a = b) → (∀ a ∈ l1, f a ∈ l2) → l1.length ≤ l2.length
  | [], _, _, _, _ => Nat.zero_le _
  | a :: l, l2, hn, hi, hm => by
    obtain ⟨h1, h2⟩ := List.nodup_cons.1 hn
    have ha := hm a (List.mem_cons_self ..)
    have hl := List.length_erase_of_mem ha
    have hp := List.length_pos_of_mem ha
    have := len_le_map (f := f) (l1 := l) (l2 := l2.erase (f a)) h2 (fun b hb c hc => hi b (List.mem_cons_of_mem _ hb) c (List.mem_cons_of_mem _ hc)) fun b hb =>
      (List.mem_erase_of_ne (fun e => h1 (by rw [← hi b (List.mem_cons_of_mem _ hb) a (List.mem_cons_self ..) e]; exact hb))).2 (hm b (List.mem_cons_of_mem _ hb))
    simp only [List.length_cons]
    omega
/-- How many of the first n are so. -/
def cntB (n : Nat) (b : Nat → Bool) : Nat := ((List.range n).filter b).length
theorem cntB_zero (b : Nat → Bool) : cntB 0 b = 0 := rfl
theorem cntB_succ (n : Nat) (b : Nat → Bool) : cntB (n + 1) b = if b n = true then cntB n b + 1 else cntB n b := by
  unfold cntB
  rw [List.range_succ, List.filter_append]
  by_cases h : b n = true
  · rw [if_pos h, List.filter_cons_of_pos h, List.length_append]; rfl
  · rw [if_neg h, List.filter_cons_of_neg h, List.length_append]; rfl
theorem cntB_le (n : Nat) (b : Nat → Bool) : cntB n b ≤ n := by
  have := List.length_filter_le b (List.range n)
  rw [List.length_range] at this
  exact this
theorem cntB_congr {n : Nat} {b b' : Nat → Bool} (h : ∀ i, i < n → b i = b' i) : cntB n b = cntB n b' := by
  unfold cntB
  rw [List.filter_congr fun i hi => h i (List.mem_range.1 hi)]
theorem cntB_roS {D F : Nat} (hF : F < D) (b : Nat → Bool) : cntB D b = cntB D fun k => b (roS D F k) := by
  unfold cntB
  apply Nat.le_antisymm
  · refine len_le_map (f := roI D F) (List.nodup_range.filter _) (fun i hi j hj e => ?_) fun i hi => ?_
    · have h1 := List.mem_range.1 (List.mem_filter.1 hi).1
      have h2 := List.mem_range.1 (List.mem_filter.1 hj).1
      rw [← roS_roI hF h1, e, roS_roI hF h2]
    · obtain ⟨h1, h2⟩ := List.mem_filter.1 hi
      have h1 := List.mem_range.1 h1
      refine List.mem_filter.2 ⟨List.mem_range.2 (roI_lt hF h1), ?_⟩
      rw [roS_roI hF h1]
      exact h2
  · refine len_le_map (f := roS D F) (List.nodup_range.filter _) (fun i hi j hj e => roS_inj hF (List.mem_range.1 (List.mem_filter.1 hi).1) (List.mem_range.1 (List.mem_filter.1 hj).1) e) fun i hi => ?_
    obtain ⟨h1, h2⟩ := List.mem_filter.1 hi
    exact List.mem_filter.2 ⟨List.mem_range.2 (roS_lt hF (List.mem_range.1 h1)), h2⟩
theorem cntB_none {n : Nat} {b : Nat → Bool} (h : ∀ i, i < n → b i = false) : cntB n b = 0 := by
  induction n with
  | zero => rfl
  | succ n ih => rw [cntB_succ, if_neg (by rw [h n (by omega)]; decide), ih fun i hi => h i (by omega)]
theorem cntB_one {n k : Nat} (hk : k < n) : cntB n (fun i => decide (i = k)) = 1 := by
  induction n with
  | zero => omega
  | succ n ih =>
    rw [cntB_succ]
    by_cases h : k = n
    · subst h
      rw [if_pos (by simp), cntB_none fun i hi => by simp; omega]
    · rw [if_neg (by simpa using fun e => h e.symm), ih (by omega)]

/-- Zeros. -/
theorem xorL_zz : xorL (zeroL 32) (zeroL 32) = zeroL 32 := by decide
theorem foldG_zero {g : Nat → List UInt8 → List UInt8} (h0 : ∀ k, g k (zeroL 32) = zeroL 32) : ∀ (n k : Nat), foldG g k (zeroL 32) (List.replicate n (zeroL 32)) = zeroL 32
  | 0, _ => rfl
  | n + 1, k => by rw [List.replicate_succ, foldG, h0, xorL_zz]; exact foldG_zero h0 n (k + 1)
theorem rep_mem {n : Nat} : ∀ x ∈ List.replicate n (zeroL 32), x.length = 32 := fun x hx => by rw [List.eq_of_mem_replicate hx]; rfl
theorem rep_get {n k : Nat} (h : k < n) : (List.replicate n (zeroL 32)).getD k [] = zeroL 32 := by simp [List.getD_eq_getElem?_getD, h]
theorem sumG_zero {g : Nat → List UInt8 → List UInt8} (h0 : ∀ k, g k (zeroL 32) = zeroL 32) {n : Nat} (hn : 0 < n) : sumG g (List.replicate n (zeroL 32)) = zeroL 32 := by
  have h := alikeB_of (rs := List.replicate n (zeroL 32)) (by simpa using hn) rep_mem
  unfold sumG
  rw [if_pos h.1, h.2]
  exact foldG_zero h0 n 0
theorem zeros_all {n k : Nat} (hn : 0 < n) (hk : k < n + 2) : (allL (List.replicate n (zeroL 32))).getD k [] = zeroL 32 := by
  have hl : (List.replicate n (zeroL 32)).length = n := by simp
  by_cases h1 : k < n
  · rw [allL_data (by rw [hl]; exact h1)]; exact rep_get h1
  · by_cases h2 : k = n
    · subst h2
      have := allL_p (List.replicate k (zeroL 32))
      rw [hl] at this
      rw [this]
      exact sumG_zero (gP_zero 32) hn
    · obtain rfl : k = n + 1 := by omega
      have := allL_q (List.replicate n (zeroL 32))
      rw [hl] at this
      rw [this]
      exact sumG_zero (gQ_zero 32) hn
theorem zeros_fill {D F W i : Nat} (hF : F < D) (hW : 0 < W) (hD : D ≤ W + 2) (hi : i < D) : (fillL D F (List.replicate W (zeroL 32))).getD i [] = zeroL 32 := by
  rw [fillL_get hF hi]
  have := roI_lt hF hi
  exact zeros_all hW (by omega)
/-- One of zeros set. -/
theorem set_sum {g : Nat → List UInt8 → List UInt8} (hg : ∀ k r, (g k r).length = r.length) (h0 : ∀ k, g k (zeroL 32) = zeroL 32) {n k : Nat} (hk : k < n) {s : List UInt8} (hs : s.length = 32) : sumG g ((List.replicate n (zeroL 32)).set k s) = g k s := by
  rw [sumG_set hg h0 (by simpa using hk) (rep_get hk) hs rep_mem, sumG_zero h0 (by omega), xorL_comm, xorL_zero _ 32 ((hg _ _).trans hs)]
theorem scale_ne {s : List UInt8} {k : Nat} (hne : s ≠ zeroL 32) : scaleL s (gpow (k : Int)) ≠ zeroL 32 := fun e => hne (by
  have h := (gpow_neg k s).1
  rw [e, scaleL_zero] at h
  exact h.symm)
/-- Not zeros: its own disk's, P, and Q where there is one. -/
theorem zeros_count {D F W k : Nat} {l : Int} (hF : F < D) (hk : k < W) (hlv : (l = 5 ∧ D = W + 1) ∨ (l = 6 ∧ D = W + 2)) {s : List UInt8} (hs : s.length = 32) (hne : s ≠ zeroL 32) :
    ((cntB D fun i => decide ((fillL D F ((List.replicate W (zeroL 32)).set k s)).getD i [] ≠ zeroL 32) : Nat) : Int) = l - 3 := by
  have hl : ((List.replicate W (zeroL 32)).set k s).length = W := by simp
  rw [cntB_roS hF]
  have e : cntB D (fun j => decide ((fillL D F ((List.replicate W (zeroL 32)).set k s)).getD (roS D F j) [] ≠ zeroL 32)) = cntB D fun j => decide ((allL ((List.replicate W (zeroL 32)).set k s)).getD j [] ≠ zeroL 32) :=
    cntB_congr fun j hj => by rw [fillL_at hF hj]
  have eW : cntB W (fun j => decide ((allL ((List.replicate W (zeroL 32)).set k s)).getD j [] ≠ zeroL 32)) = 1 := by
    rw [← cntB_one hk]
    refine cntB_congr fun j hj => ?_
    rw [allL_data (by rw [hl]; exact hj)]
    by_cases h : k = j
    · subst h; rw [getD_set_same (by simpa using hk)]; simp [hne]
    · rw [getD_set_other h, rep_get hj]; simpa using fun e => h e.symm
  have hp := allL_p ((List.replicate W (zeroL 32)).set k s)
  have hq := allL_q ((List.replicate W (zeroL 32)).set k s)
  rw [hl] at hp hq
  have hp2 : pB ((List.replicate W (zeroL 32)).set k s) = s := set_sum gP_len (gP_zero 32) hk hs
  have hq2 : qB ((List.replicate W (zeroL 32)).set k s) = scaleL s (gpow (k : Int)) := set_sum gQ_len (gQ_zero 32) hk hs
  rw [hp2] at hp
  rw [hq2] at hq
  rw [e]
  rcases hlv with ⟨rfl, rfl⟩ | ⟨rfl, rfl⟩
  · rw [cntB_succ, if_pos (by rw [hp]; exact decide_eq_true hne), eW]; rfl
  · rw [cntB_succ, if_pos (by rw [hq]; exact decide_eq_true (scale_ne hne)), cntB_succ, if_pos (by rw [hp]; exact decide_eq_true hne), eW]; rfl
end Go.Proofs.Ytbojmofkhkegmaa
