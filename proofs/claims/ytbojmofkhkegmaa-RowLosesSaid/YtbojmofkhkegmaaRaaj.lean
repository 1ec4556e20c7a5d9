/- Texts put together: RowCount, RowLose, RefPlace, RowKit2, OrdMore. -/
import Derived.Test.YtbojmofkhkegmaaRaae
import Derived.Test.YtbojmofkhkegmaaRaah
import Derived.Test.YtbojmofkhkegmaaRaai
section
set_option linter.unusedVariables false
set_option linter.unusedSimpArgs false
namespace Go.Proofs.Ytbojmofkhkegmaa

theorem len_le_map {f : Nat → Nat} : ∀ {l1 l2 : List Nat}, l1.Nodup → (∀ a ∈ l1, ∀ b ∈ l1, f a = f b → a = b) → (∀ a ∈ l1, f a ∈ l2) → l1.length ≤ l2.length
  | [], _, _, _, _ => Nat.zero_le _
  | a :: l, l2, hn, hi, hm => by
    obtain ⟨h1, h2⟩ := List.nodup_cons.1 hn
    have ha := hm a (List.mem_cons_self ..)
    have hl := List.length_erase_of_mem ha
    have hp := List.length_pos_of_mem ha
    have := len_le_map (f := f) (l1 := l) (l2 := l2.erase (f a)) h2 (fun b hb c hc => hi b (List.mem_cons_of_mem _ hb) c (List.mem_cons_of_mem _ hc)) fun b hb =>
      (List.mem_erase_of_ne (fun e => h1 (by rw [← hi b (List.mem_cons_of_mem _ hb) a (List.mem_cons_self ..) e]; exact hb))).2 (hm b (List.mem_cons_of_mem _ hb))
    simp only [List.length_cons]
    omega
/-- How many of the first n are so. -/
def cntB (n : Nat) (b : Nat → Bool) : Nat := ((List.range n).filter b).length
theorem cntB_zero (b : Nat → Bool) : cntB 0 b = 0 := rfl
theorem cntB_succ (n : Nat) (b : Nat → Bool) : cntB (n + 1) b = if b n = true then cntB n b + 1 else cntB n b := by
  unfold cntB
  rw [List.range_succ, List.filter_append]
  by_cases h : b n = true
  · rw [if_pos h, List.filter_cons_of_pos h, List.length_append]; rfl
  · rw [if_neg h, List.filter_cons_of_neg h, List.length_append]; rfl
theorem cntB_le (n : Nat) (b : Nat → Bool) : cntB n b ≤ n := by
  have := List.length_filter_le b (List.range n)
  rw [List.length_range] at this
  exact this
theorem cntB_congr {n : Nat} {b b' : Nat → Bool} (h : ∀ i, i < n → b i = b' i) : cntB n b = cntB n b' := by
  unfold cntB
  rw [List.filter_congr fun i hi => h i (List.mem_range.1 hi)]
theorem cntB_roS {D F : Nat} (hF : F < D) (b : Nat → Bool) : cntB D b = cntB D fun k => b (roS D F k) := by
  unfold cntB
  apply Nat.le_antisymm
  · refine len_le_map (f := roI D F) (List.nodup_range.filter _) (fun i hi j hj e => ?_) fun i hi => ?_
    · have h1 := List.mem_range.1 (List.mem_filter.1 hi).1
      have h2 := List.mem_range.1 (List.mem_filter.1 hj).1
      rw [← roS_roI hF h1, e, roS_roI hF h2]
    · obtain ⟨h1, h2⟩ := List.mem_filter.1 hi
      have h1 := List.mem_range.1 h1
      refine List.mem_filter.2 ⟨List.mem_range.2 (roI_lt hF h1), ?_⟩
      rw [roS_roI hF h1]
      exact h2
  · refine len_le_map (f := roS D F) (List.nodup_range.filter _) (fun i hi j hj e => roS_inj hF (List.mem_range.1 (List.mem_filter.1 hi).1) (List.mem_range.1 (List.mem_filter.1 hj).1) e) fun i hi => ?_
    obtain ⟨h1, h2⟩ := List.mem_filter.1 hi
    exact List.mem_filter.2 ⟨List.mem_range.2 (roS_lt hF (List.mem_range.1 h1)), h2⟩
theorem cntB_none {n : Nat} {b : Nat → Bool} (h : ∀ i, i < n → b i = false) : cntB n b = 0 := by
  induction n with
  | zero => rfl
  | succ n ih => rw [cntB_succ, if_neg (by rw [h n (by omega)]; decide), ih fun i hi => h i (by omega)]
theorem cntB_one {n k : Nat} (hk : k < n) : cntB n (fun i => decide (i = k)) = 1 := by
  induction n with
  | zero => omega
  | succ n ih =>
    rw [cntB_succ]
    by_cases h : k = n
    · subst h
      rw [if_pos (by simp), cntB_none fun i hi => by simp; omega]
    · rw [if_neg (by simpa using fun e => h e.symm), ih (by omega)]

/-- Zeros. -/
theorem xorL_zz : xorL (zeroL 32) (zeroL 32) = zeroL 32 := by decide
theorem foldG_zero {g : Nat → List UInt8 → List UInt8} (h0 : ∀ k, g k (zeroL 32) = zeroL 32) : ∀ (n k : Nat), foldG g k (zeroL 32) (List.replicate n (zeroL 32)) = zeroL 32
  | 0, _ => rfl
  | n + 1, k => by rw [List.replicate_succ, foldG, h0, xorL_zz]; exact foldG_zero h0 n (k + 1)
theorem rep_mem {n : Nat} : ∀ x ∈ List.replicate n (zeroL 32), x.length = 32 := fun x hx => by rw [List.eq_of_mem_replicate hx]; rfl
theorem rep_get {n k : Nat} (h : k < n) : (List.replicate n (zeroL 32)).getD k [] = zeroL 32 := by simp [List.getD_eq_getElem?_getD, h]
theorem sumG_zero {g : Nat → List UInt8 → List UInt8} (h0 : ∀ k, g k (zeroL 32) = zeroL 32) {n : Nat} (hn : 0 < n) : sumG g (List.replicate n (zeroL 32)) = zeroL 32 := by
  have h := alikeB_of (rs := List.replicate n (zeroL 32)) (by simpa using hn) rep_mem
  unfold sumG
  rw [if_pos h.1, h.2]
  exact foldG_zero h0 n 0
theorem zeros_all {n k : Nat} (hn : 0 < n) (hk : k < n + 2) : (allL (List.replicate n (zeroL 32))).getD k [] = zeroL 32 := by
  have hl : (List.replicate n (zeroL 32)).length = n := by simp
  by_cases h1 : k < n
  · rw [allL_data (by rw [hl]; exact h1)]; exact rep_get h1
  · by_cases h2 : k = n
    · subst h2
      have := allL_p (List.replicate k (zeroL 32))
      rw [hl] at this
      rw [this]
      exact sumG_zero (gP_zero 32) hn
    · obtain rfl : k = n + 1 := by omega
      have := allL_q (List.replicate n (zeroL 32))
      rw [hl] at this
      rw [this]
      exact sumG_zero (gQ_zero 32) hn
theorem zeros_fill {D F W i : Nat} (hF : F < D) (hW : 0 < W) (hD : D ≤ W + 2) (hi : i < D) : (fillL D F (List.replicate W (zeroL 32))).getD i [] = zeroL 32 := by
  rw [fillL_get hF hi]
  have := roI_lt hF hi
  exact zeros_all hW (by omega)
/-- One of zeros set. -/
theorem set_sum {g : Nat → List UInt8 → List UInt8} (hg : ∀ k r, (g k r).length = r.length) (h0 : ∀ k, g k (zeroL 32) = zeroL 32) {n k : Nat} (hk : k < n) {s : List UInt8} (hs : s.length = 32) : sumG g ((List.replicate n (zeroL 32)).set k s) = g k s := by
  rw [sumG_set hg h0 (by simpa using hk) (rep_get hk) hs rep_mem, sumG_zero h0 (by omega), xorL_comm, xorL_zero _ 32 ((hg _ _).trans hs)]
theorem scale_ne {s : List UInt8} {k : Nat} (hne : s ≠ zeroL 32) : scaleL s (gpow (k : Int)) ≠ zeroL 32 := fun e => hne (by
  have h := (gpow_neg k s).1
  rw [e, scaleL_zero] at h
  exact h.symm)
/-- Not zeros: its own disk's, P, and Q where there is one. -/
theorem zeros_count {D F W k : Nat} {l : Int} (hF : F < D) (hk : k < W) (hlv : (l = 5 ∧ D = W + 1) ∨ (l = 6 ∧ D = W + 2)) {s : List UInt8} (hs : s.length = 32) (hne : s ≠ zeroL 32) :
    ((cntB D fun i => decide ((fillL D F ((List.replicate W (zeroL 32)).set k s)).getD i [] ≠ zeroL 32) : Nat) : Int) = l - 3 := by
  have hl : ((List.replicate W (zeroL 32)).set k s).length = W := by simp
  rw [cntB_roS hF]
  have e : cntB D (fun j => decide ((fillL D F ((List.replicate W (zeroL 32)).set k s)).getD (roS D F j) [] ≠ zeroL 32)) = cntB D fun j => decide ((allL ((List.replicate W (zeroL 32)).set k s)).getD j [] ≠ zeroL 32) :=
    cntB_congr fun j hj => by rw [fillL_at hF hj]
  have eW : cntB W (fun j => decide ((allL ((List.replicate W (zeroL 32)).set k s)).getD j [] ≠ zeroL 32)) = 1 := by
    rw [← cntB_one hk]
    refine cntB_congr fun j hj => ?_
    rw [allL_data (by rw [hl]; exact hj)]
    by_cases h : k = j
    · subst h; rw [getD_set_same (by simpa using hk)]; simp [hne]
    · rw [getD_set_other h, rep_get hj]; simpa using fun e => h e.symm
  have hp := allL_p ((List.replicate W (zeroL 32)).set k s)
  have hq := allL_q ((List.replicate W (zeroL 32)).set k s)
  rw [hl] at hp hq
  have hp2 : pB ((List.replicate W (zeroL 32)).set k s) = s := set_sum gP_len (gP_zero 32) hk hs
  have hq2 : qB ((List.replicate W (zeroL 32)).set k s) = scaleL s (gpow (k : Int)) := set_sum gQ_len (gQ_zero 32) hk hs
  rw [hp2] at hp
  rw [hq2] at hq
  rw [e]
  rcases hlv with ⟨rfl, rfl⟩ | ⟨rfl, rfl⟩
  · rw [cntB_succ, if_pos (by rw [hp]; exact decide_eq_true hne), eW]; rfl
  · rw [cntB_succ, if_pos (by rw [hq]; exact decide_eq_true (scale_ne hne)), cntB_succ, if_pos (by rw [hp]; exact decide_eq_true hne), eW]; rfl
end Go.Proofs.Ytbojmofkhkegmaa
end
section
set_option linter.unusedVariables false
set_option linter.unusedSimpArgs false
namespace Go.Proofs.Ytbojmofkhkegmaa

def emptyB (xs : List (List UInt8)) (i : Nat) : Bool := (xs.getD i []).length == 0
theorem missB_cnt (rs : List (List UInt8)) : (missB rs).length = cntB rs.length (emptyB rs) := rfl
theorem missB_pair (p q : List UInt8) : (missB [p, q]).length = (if p.length = 0 then 1 else 0) + (if q.length = 0 then 1 else 0) := by
  rw [missB_two, List.length_append]
  split <;> split <;> rfl
theorem data_cnt {l d c r : Int} (xs : List (List UInt8)) : (missB (dataL l d c r xs)).length = cntB (roW l d) fun k => emptyB xs (roS (roD d) (roF l d c r) k) := by
  rw [missB_cnt, dataL_len]
  exact cntB_congr fun k hk => by unfold emptyB; rw [dataL_get hk]
/-- All that is missing, part by part. -/
theorem all_cnt {l d c r : Int} (R : Ro l d c r) (xs : List (List UInt8)) :
    cntB (roD d) (emptyB xs) = (missB (dataL l d c r xs)).length + (if (parL l d c r xs).length = 0 then 1 else 0) + (if l = 6 ∧ (parQ l d c r xs).length = 0 then 1 else 0) := by
  rw [cntB_roS R.hF, data_cnt]
  rcases R.lv with ⟨h5, hD⟩ | ⟨h6, hD⟩
  · rw [if_neg (by omega : ¬ (l = 6 ∧ _))]
    unfold parL
    generalize roF l d c r = F
    rw [hD, cntB_succ]
    unfold emptyB
    by_cases h : (xs.getD (roS (roW l d + 1) F (roW l d)) []).length = 0
    · rw [if_pos (by simpa using h), if_pos h]; all_goals omega
    · rw [if_neg (by simpa using h), if_neg h]; all_goals omega
  · unfold parL parQ
    rw [if_pos h6]
    generalize roF l d c r = F
    rw [hD, cntB_succ, cntB_succ]
    unfold emptyB
    by_cases h : (xs.getD (roS (roW l d + 2) F (roW l d)) []).length = 0
    · by_cases h2 : (xs.getD (roS (roW l d + 2) F (roW l d + 1)) []).length = 0
      · rw [if_pos (by simpa using h2), if_pos (by simpa using h), if_pos h, if_pos ⟨h6, h2⟩]; all_goals omega
      · rw [if_neg (by simpa using h2), if_pos (by simpa using h), if_pos h, if_neg fun e => h2 e.2]; all_goals omega
    · by_cases h2 : (xs.getD (roS (roW l d + 2) F (roW l d + 1)) []).length = 0
      · rw [if_pos (by simpa using h2), if_neg (by simpa using h), if_neg h, if_pos ⟨h6, h2⟩]; all_goals omega
      · rw [if_neg (by simpa using h2), if_neg (by simpa using h), if_neg h, if_neg fun e => h2 e.2]; all_goals omega
/-- With not more missing than may be the data is told. -/
theorem lose_ok {l d c r : Int} {rs xs : List (List UInt8)} (h : fillOk l d c r rs = true) (hl : xs.length = roD d) (hx : ∀ i, i < roD d → (xs.getD i []).length = 0 ∨ xs.getD i [] = (fillL (roD d) (roF l d c r) rs).getD i [])
    (hc : ((cntB (roD d) (emptyB xs) : Nat) : Int) ≤ l - 4) : roTake l d c r xs = some rs := by
  have R := ro_of (fillOk_yes h).1
  refine take_back h hl hx ?_
  have hc2 := all_cnt R xs
  rw [missB_pair]
  have hlv := R.lv
  by_cases h6 : l = 6
  · split at hc2 <;> split at hc2 <;> split <;> split <;> omega
  · have h5 : l = 5 := by omega
    have hq : (parQ l d c r xs).length = 0 := by unfold parQ; rw [if_neg h6]; rfl
    rw [if_pos hq]
    rw [if_neg (show ¬ (l = 6 ∧ (parQ l d c r xs).length = 0) from fun e => h6 e.1)] at hc2
    split at hc2 <;> split <;> omega
theorem cntB_or (n : Nat) (b c : Nat → Bool) : cntB n (fun i => b i || c i) ≤ cntB n b + cntB n c := by
  induction n with
  | zero => exact Nat.le_refl _
  | succ n ih =>
    rw [cntB_succ, cntB_succ, cntB_succ]
    cases hb : b n <;> cases hc : c n <;> simp <;> omega
theorem cntB_one_le (n k : Nat) : cntB n (fun i => decide (i = k)) ≤ 1 := by
  by_cases h : k < n
  · rw [cntB_one h]; exact Nat.le_refl _
  · rw [cntB_none fun i hi => by simp; omega]; omega
theorem emptyB_set {xs : List (List UInt8)} {n k : Nat} (hl : xs.length = n) (hk : k < n) {i : Nat} : emptyB (xs.set k []) i = (decide (i = k) || emptyB xs i) := by
  unfold emptyB
  by_cases h : k = i
  · subst h; rw [getD_set_same (by omega)]; simp
  · rw [getD_set_other h]; simp [Ne.symm h]
end Go.Proofs.Ytbojmofkhkegmaa
end
section
set_option linter.unusedVariables false
set_option linter.unusedSimpArgs false
namespace Go.Proofs.Ytbojmofkhkegmaa
open Go.RowKit

theorem refFine_any (l d c r : Int) (w : World) (hl : (-9223372036854775808 ≤ l ∧ l ≤ 9223372036854775807)) (hd : (-9223372036854775808 ≤ d ∧ d ≤ 9223372036854775807)) (hc : (-9223372036854775808 ≤ c ∧ c ≤ 9223372036854775807)) (hr : (-9223372036854775808 ≤ r ∧ r ≤ 9223372036854775807)) :
    Calls Try.prog 37 #[.agg #[.int .i64 l, .int .i64 d, .int .i64 c], .int .i64 r] w fun e w' => e = .returned (.bool (plOk l d c r)) ∧ Below w.heap.size w w' := by
  cases hG : gOk l d c
  · have H : Hid (plOk l d c r = false) := plOk_no (by rw [hG]; simp)
    have HG := Lib.hid hG
    clear hG
    go_enter Try.func37, Try.ntmps37
    go_wp2_with fail
    (with_reducible refine (refCheck_no l d c _ HG hl hd hc).mono ?_); rintro e w1 ⟨rfl, hb⟩
    have F := (below1 w _).trans (hb.mono (by simp))
    clear hb
    go_wp2_with fail
    go_ret
    exact ⟨by rw [H.out]; rfl, F⟩
  · have HG := Lib.hid hG
    by_cases h0 : 0 ≤ r
    · have e0 : decide (0 ≤ r) = true := decide_eq_true h0
      by_cases h1 : r < 16
      · have e1 : decide (r < 16) = true := decide_eq_true h1
        have H : Hid (plOk l d c r = true) := plOk_mk hG h0 h1
        clear hG
        go_enter Try.func37, Try.ntmps37
        go_wp2_with fail
        (with_reducible refine (refCheck_yes l d c _ HG hl hd hc).mono ?_); rintro e w1 ⟨rfl, hb⟩
        have F := (below1 w _).trans (hb.mono (by simp))
        clear hb
        go_wp2_with fail
        go_ret
        exact ⟨by rw [H.out]; rfl, F⟩
      · have e1 : decide (r < 16) = false := decide_eq_false h1
        have H : Hid (plOk l d c r = false) := plOk_no (by omega)
        clear hG
        go_enter Try.func37, Try.ntmps37
        go_wp2_with fail
        (with_reducible refine (refCheck_yes l d c _ HG hl hd hc).mono ?_); rintro e w1 ⟨rfl, hb⟩
        have F := (below1 w _).trans (hb.mono (by simp))
        clear hb
        go_wp2_with fail
        go_ret
        exact ⟨by rw [H.out]; rfl, F⟩
    · have e0 : decide (0 ≤ r) = false := decide_eq_false h0
      have H : Hid (plOk l d c r = false) := plOk_no (by omega)
      clear hG
      go_enter Try.func37, Try.ntmps37
      go_wp2_with fail
      (with_reducible refine (refCheck_yes l d c _ HG hl hd hc).mono ?_); rintro e w1 ⟨rfl, hb⟩
      have F := (below1 w _).trans (hb.mono (by simp))
      clear hb
      go_wp2_with fail
      go_ret
      exact ⟨by rw [H.out]; rfl, F⟩
theorem refFine_yes (l d c r : Int) (w : World) (h : Hid (plOk l d c r = true)) (hl : (-9223372036854775808 ≤ l ∧ l ≤ 9223372036854775807)) (hd : (-9223372036854775808 ≤ d ∧ d ≤ 9223372036854775807)) (hc : (-9223372036854775808 ≤ c ∧ c ≤ 9223372036854775807)) (hr : (-9223372036854775808 ≤ r ∧ r ≤ 9223372036854775807)) :
    Calls Try.prog 37 #[.agg #[.int .i64 l, .int .i64 d, .int .i64 c], .int .i64 r] w fun e w' => e = .returned (.bool true) ∧ Below w.heap.size w w' := by
  have := refFine_any l d c r w hl hd hc hr
  rwa [h.out] at this
theorem refFine_no (l d c r : Int) (w : World) (h : Hid (plOk l d c r = false)) (hl : (-9223372036854775808 ≤ l ∧ l ≤ 9223372036854775807)) (hd : (-9223372036854775808 ≤ d ∧ d ≤ 9223372036854775807)) (hc : (-9223372036854775808 ≤ c ∧ c ≤ 9223372036854775807)) (hr : (-9223372036854775808 ≤ r ∧ r ≤ 9223372036854775807)) :
    Calls Try.prog 37 #[.agg #[.int .i64 l, .int .i64 d, .int .i64 c], .int .i64 r] w fun e w' => e = .returned (.bool false) ∧ Below w.heap.size w w' := by
  have := refFine_any l d c r w hl hd hc hr
  rwa [h.out] at this
theorem refParity_any (l d c r : Int) (w : World) (hl : (-9223372036854775808 ≤ l ∧ l ≤ 9223372036854775807)) (hd : (-9223372036854775808 ≤ d ∧ d ≤ 9223372036854775807)) (hc : (-9223372036854775808 ≤ c ∧ c ≤ 9223372036854775807)) (hr : (-9223372036854775808 ≤ r ∧ r ≤ 9223372036854775807)) :
    Calls Try.prog 20 #[.agg #[.int .i64 l, .int .i64 d, .int .i64 c], .int .i64 r] w fun e w' => e = .returned (.tuple #[.int .i64 (plP l d c r), .int .i64 (plQ l d c r)]) ∧ Below w.heap.size w w' := by
  have G := gat_new w l d c 23 (0, 0)
  cases hT : plOk l d c r
  · have HP := Lib.hid (plP_no hT)
    have HQ := Lib.hid (plQ_no hT)
    have HT := Lib.hid hT
    clear hT
    go_enter Try.func20, Try.ntmps20
    go_wp2_with fail
    (with_reducible refine (refFine_no l d c r _ HT hl hd hc hr).mono ?_); rintro e w1 ⟨rfl, hb⟩
    have F := (below1 w _).trans (hb.mono (by simp))
    clear hb
    go_wp2_with fail
    go_ret2
    exact ⟨by rw [HP.out, HQ.out]; rfl, F⟩
  · have HT := Lib.hid hT
    obtain ⟨hg, h0, h1⟩ := plOk_yes hT
    have hb6 := gOk_bd hg
    have hq := quo_bd 16 h0 h1 (show 1 ≤ c by omega)
    have hm := rem_bd (r / c) (show 1 ≤ d by omega)
    have HP := Lib.hid (plP_yes hT)
    by_cases h6 : l = 6
    · subst h6
      have HQ := Lib.hid (plQ_6 hT)
      clear hT hg
      go_enter Try.func20, Try.ntmps20
      go_wp2_with fail
      (with_reducible refine (refFine_yes 6 d c r _ HT hl hd hc hr).mono ?_); rintro e w1 ⟨rfl, hb⟩
      have F := (below1 w _).trans (hb.mono (by simp))
      obtain ⟨g1, g2, g3⟩ := G.below hb (by simp)
      clear hb
      go_wp2_with fail
      go_quiet (fail)
      go_wp2_with fail
      go_quiet (fail)
      go_wp2
      go_ret2
      exact ⟨by rw [HP.out, HQ.out]; rfl, (F.trans (belowN _ _ _)).trans (belowN _ _ _)⟩
    · obtain rfl : l = 5 := by omega
      have HQ := Lib.hid (@plQ_5 d c r)
      clear hT hg h6
      go_enter Try.func20, Try.ntmps20
      go_wp2_with fail
      (with_reducible refine (refFine_yes 5 d c r _ HT hl hd hc hr).mono ?_); rintro e w1 ⟨rfl, hb⟩
      have F := (below1 w _).trans (hb.mono (by simp))
      obtain ⟨g1, g2, g3⟩ := G.below hb (by simp)
      clear hb
      go_wp2_with fail
      go_quiet (fail)
      go_wp2
      go_ret2
      exact ⟨by rw [HP.out, HQ.out]; rfl, F.trans (belowN _ _ _)⟩
theorem refDisk_any (l d c r k : Int) (w : World) (hl : (-9223372036854775808 ≤ l ∧ l ≤ 9223372036854775807)) (hd : (-9223372036854775808 ≤ d ∧ d ≤ 9223372036854775807)) (hc : (-9223372036854775808 ≤ c ∧ c ≤ 9223372036854775807)) (hr : (-9223372036854775808 ≤ r ∧ r ≤ 9223372036854775807)) (hk : (-9223372036854775808 ≤ k ∧ k ≤ 9223372036854775807)) :
    Calls Try.prog 21 #[.agg #[.int .i64 l, .int .i64 d, .int .i64 c], .int .i64 r, .int .i64 k] w fun e w' => e = .returned (.int .i64 (plD l d c r k)) ∧ Below w.heap.size w w' := by
  have G := gat_new w l d c 23 (0, 0)
  have HD : Hid (∀ b, plDok l d c r k = b → plD l d c r k = if b = true then (plF l d c r + k) % d else -1) := Lib.hid (fun b h => by subst h; rfl)
  have HW := Lib.hid (fun W => refWidth_any l d c W hl hd hc)
  have HK : Hid (plDok l d c r k = (plOk l d c r && decide (0 ≤ k ∧ k < gWid l d c))) := rfl
  cases hT : plOk l d c r
  · have H := Lib.hid ((HD.out false (by rw [HK.out, hT]; rfl)).trans (if_neg (by decide)))
    have HT := Lib.hid hT
    clear hT
    go_enter Try.func21, Try.ntmps21
    go_wp2_with fail
    (with_reducible refine (refFine_no l d c r _ HT hl hd hc hr).mono ?_); rintro e w1 ⟨rfl, hb⟩
    have F := (below1 w _).trans (hb.mono (by simp))
    clear hb
    go_wp2_with fail
    go_ret
    exact ⟨by rw [H.out]; rfl, F⟩
  · have HT := Lib.hid hT
    by_cases h0 : k < 0
    · have H := Lib.hid ((HD.out false (by rw [HK.out, hT, decide_eq_false (by omega)]; rfl)).trans (if_neg (by decide)))
      have e0 : decide (k < 0) = true := decide_eq_true h0
      clear hT
      go_enter Try.func21, Try.ntmps21
      go_wp2_with fail
      (with_reducible refine (refFine_yes l d c r _ HT hl hd hc hr).mono ?_); rintro e w1 ⟨rfl, hb⟩
      have F := (below1 w _).trans (hb.mono (by simp))
      clear hb
      go_wp2_with fail
      go_ret
      exact ⟨by rw [H.out]; rfl, F⟩
    · have e0 : decide (k < 0) = false := decide_eq_false h0
      obtain ⟨hg, h00, h11⟩ := plOk_yes HT.out
      have hb6 := gOk_bd hg
      have hw := gWid_bd l d c
      by_cases h1 : gWid l d c ≤ k
      · have H := Lib.hid ((HD.out false (by rw [HK.out, hT, decide_eq_false (by omega)]; rfl)).trans (if_neg (by decide)))
        generalize gWid l d c = wd at HW hw h1
        have e1 : decide (wd ≤ k) = true := decide_eq_true h1
        clear hT hg h00 h11 HK HD
        go_enter Try.func21, Try.ntmps21
        go_wp2_with fail
        (with_reducible refine (refFine_yes l d c r _ HT hl hd hc hr).mono ?_); rintro e w1 ⟨rfl, hb⟩
        have S1 := GS.later (w0 := w) (B := w.heap.size) ⟨G.1, G.2.1, G.2.2, below1 w _⟩ hb
        clear hb G
        obtain ⟨g1, g2, g3, F⟩ := S1
        go_wp2_with fail
        (with_reducible refine (HW.out _).mono ?_); rintro e w2 ⟨rfl, hb⟩
        have S2 := GS.later (w0 := w) (B := w.heap.size) ⟨g1, g2, g3, F⟩ hb
        clear hb g1 g2 g3 F
        go_wp2_with fail
        go_ret
        exact ⟨by rw [H.out]; rfl, S2.2.2.2⟩
      · have H0 := (HD.out true (by rw [HK.out, hT, decide_eq_true (by omega)]; rfl)).trans (if_pos rfl)
        have H : Hid (plD l d c r k = (plP l d c r + gBud l d c + k) % d) := by rw [H0, plP_yes hT, gBud_yes hg]; unfold plF; exact Int.emod_add_emod _ _ _
        have hm := rem_bd (r / c) (show 1 ≤ d by omega)
        have hp : 0 ≤ plP l d c r ∧ plP l d c r < d := by rw [plP_yes hT]; omega
        have hbd := gBud_bd l d c
        have HP := Lib.hid (fun W => refParity_any l d c r W hl hd hc hr)
        have HB := Lib.hid (fun W => refBudget_any l d c W hl hd hc)
        clear H0 hm
        generalize gWid l d c = wd at HW hw h1
        generalize plP l d c r = p at HP hp H
        generalize plQ l d c r = q at HP
        generalize gBud l d c = bd at HB hbd H
        have e1 : decide (wd ≤ k) = false := decide_eq_false h1
        have n1 : ¬ d = 0 := by omega
        have z1 : IntKind.i64.wrap (p + bd) = p + bd := IntWalk.i64_in _ (by omega)
        have z2 : IntKind.i64.wrap (p + bd + k) = p + bd + k := IntWalk.i64_in _ (by omega)
        clear hT hg h00 h11 HK HD
        go_enter Try.func21, Try.ntmps21
        go_wp2_with fail
        (with_reducible refine (refFine_yes l d c r _ HT hl hd hc hr).mono ?_); rintro e w1 ⟨rfl, hb⟩
        have S1 := GS.later (w0 := w) (B := w.heap.size) ⟨G.1, G.2.1, G.2.2, below1 w _⟩ hb
        clear hb G
        obtain ⟨g1, g2, g3, F⟩ := S1
        go_wp2_with fail
        (with_reducible refine (HW.out _).mono ?_); rintro e w2 ⟨rfl, hb⟩
        have S2 := GS.later (w0 := w) (B := w.heap.size) ⟨g1, g2, g3, F⟩ hb
        clear hb g1 g2 g3 F
        obtain ⟨g1, g2, g3, F⟩ := S2
        go_wp2_with fail
        (with_reducible refine (HP.out _).mono ?_); rintro e w3 ⟨rfl, hb⟩
        have S0 := GS.later (w0 := w) (B := w.heap.size) ⟨g1, g2, g3, F⟩ hb
        clear hb g1 g2 g3 F
        obtain ⟨g1, g2, g3, F⟩ := S0
        go_wp2_with fail
        have S0 : GS w w.heap.size w.heap.size l d c w3 := ⟨g1, g2, g3, F⟩
        clear g1 g2 g3 F
        go_region_held3 (GS w w.heap.size w.heap.size l d c)
          (first | assumption | exact GS.drew ‹_›)
          ((go_at_call 36; (with_reducible refine (HB.out _).mono ?_); rintro e w4 ⟨rfl, hb⟩; have S4 := (GS.drew S0).later hb))
        go_wp2
        go_ret
        exact ⟨by rw [H.out, ← Int.tmod_eq_emod_of_nonneg (show 0 ≤ p + bd + k by omega)]; rfl, S4.2.2.2⟩
end Go.Proofs.Ytbojmofkhkegmaa
end
section
set_option maxRecDepth 8000
set_option linter.unusedVariables false
set_option linter.unusedSimpArgs false
namespace Go.Proofs.Ytbojmofkhkegmaa
open Go.RowKit

theorem row_le {w : World} {base base' size n : Nat} {e : TypeId} {v : Value} {xs : List Value} (h : w.ownsRow base e size v n xs) (hb : base' ≤ base) : w.ownsRow base' e size v n xs :=
  ⟨h.1, h.2.imp id fun ⟨g, cap, cur, h1, h2, h3⟩ => ⟨g, cap, cur, h1, Nat.le_trans hb h2, h3⟩⟩
theorem row_form {w : World} {base size n : Nat} {e : TypeId} {v : Value} {xs : List Value} (h : w.ownsRow base e size v n xs) (hn : 0 < n) : ∃ g cap, v = .slice (some ⟨g, 0, none⟩) n cap ∧ base ≤ g ∧ g < w.heap.size ∧ n ≤ cap := by
  rcases h.2 with ⟨_, h0⟩ | ⟨g, cap, cur, hv, hb, hg, hc, _⟩
  · omega
  · exact ⟨g, cap, hv, hb, (Array.getElem?_eq_some_iff.1 hg).1, hc⟩
theorem or_u8 (a b : UInt8) : bits .or .u8 (a.toNat : Int) (b.toNat : Int) = (((a ||| b).toNat : Nat) : Int) := by
  rw [u8_or_nat _ _ a.toNat_lt b.toNat_lt, UInt8.toNat_or]
theorem or_one_ne (a : UInt8) : a ||| 1 ≠ 0 := by
  intro h
  have h2 : (a ||| 1).toNat % 2 = 0 := by rw [h]; rfl
  rw [UInt8.toNat_or, show (1 : UInt8).toNat = 1 from rfl] at h2
  have h3 : (a.toNat ||| 1) % 2 = 1 := by
    rw [Nat.or_mod_two_eq_one]; exact .inr rfl
  omega
theorem set_ne_zero {s : List UInt8} (hs : s.length = 32) (a : UInt8) : s.set 0 (a ||| 1) ≠ zeroL 32 := fun e => by
  have e2 := congrArg (fun t : List UInt8 => t.getD 0 0) e
  have e3 : (s.set 0 (a ||| 1)).getD 0 0 = a ||| 1 := by simp [List.getD_eq_getElem?_getD, hs]
  exact or_one_ne a (e3.symm.trans e2)
end Go.Proofs.Ytbojmofkhkegmaa
end
section
namespace Go.Proofs.Ytbojmofkhkegmaa
open Go.RowKit

section
variable {P : Program} {ops : Array Oper} {Q : Exit → Act → World → Prop} {S : World → Prop} {n : Nat} {ex : List Nat}
theorem anyI_all (rs : List Nat) {f : Nat} {listed : Array Bool} {a : Act} {w : World} (hrs : Region.ready .any ops listed = rs) (h0 : rs ≠ [])
    (h : ∀ t ∈ rs, ∃ ot, ops[t]? = some ot ∧ opE P ops Q ot (fun a' w' => S w' ∧ anyI P ops Q S n ex f (listed.setIfInBounds t true) a' w') a w) : anyI P ops Q S n ex (f + 1) listed a w := fun inv => by
  refine ⟨fun h => (by rw [hrs] at h; exact absurd h h0), fun t ht => ?_⟩
  have ht' := ht
  rw [hrs] at ht
  obtain ⟨ot, h1, h2⟩ := h t ht
  exact wpOp_mono (fun a' w' h => ⟨fun _ => h.1, h.2 (inv.set ht')⟩) (wpOp_of_opE h1 h2)
theorem anyI_three (i j k : Nat) {oi oj ok : Oper} {f : Nat} {listed : Array Bool} {a : Act} {w : World} (hrs : Region.ready .any ops listed = [i, j, k]) (hi : ops[i]? = some oi) (hj : ops[j]? = some oj) (hk : ops[k]? = some ok)
    (h1 : opE P ops Q oi (fun a' w' => S w' ∧ anyI P ops Q S n ex f (listed.setIfInBounds i true) a' w') a w) (h2 : opE P ops Q oj (fun a' w' => S w' ∧ anyI P ops Q S n ex f (listed.setIfInBounds j true) a' w') a w) (h3 : opE P ops Q ok (fun a' w' => S w' ∧ anyI P ops Q S n ex f (listed.setIfInBounds k true) a' w') a w) : anyI P ops Q S n ex (f + 1) listed a w :=
  anyI_all [i, j, k] hrs (by simp) fun t ht => by
    simp only [List.mem_cons, List.not_mem_nil, or_false] at ht
    rcases ht with rfl | rfl | rfl
    · exact ⟨_, hi, h1⟩
    · exact ⟨_, hj, h2⟩
    · exact ⟨_, hk, h3⟩
theorem anyI_four (i j k m : Nat) {oi oj ok om : Oper} {f : Nat} {listed : Array Bool} {a : Act} {w : World} (hrs : Region.ready .any ops listed = [i, j, k, m]) (hi : ops[i]? = some oi) (hj : ops[j]? = some oj) (hk : ops[k]? = some ok) (hm : ops[m]? = some om)
    (h1 : opE P ops Q oi (fun a' w' => S w' ∧ anyI P ops Q S n ex f (listed.setIfInBounds i true) a' w') a w) (h2 : opE P ops Q oj (fun a' w' => S w' ∧ anyI P ops Q S n ex f (listed.setIfInBounds j true) a' w') a w) (h3 : opE P ops Q ok (fun a' w' => S w' ∧ anyI P ops Q S n ex f (listed.setIfInBounds k true) a' w') a w) (h4 : opE P ops Q om (fun a' w' => S w' ∧ anyI P ops Q S n ex f (listed.setIfInBounds m true) a' w') a w) : anyI P ops Q S n ex (f + 1) listed a w :=
  anyI_all [i, j, k, m] hrs (by simp) fun t ht => by
    simp only [List.mem_cons, List.not_mem_nil, or_false] at ht
    rcases ht with rfl | rfl | rfl | rfl
    · exact ⟨_, hi, h1⟩
    · exact ⟨_, hj, h2⟩
    · exact ⟨_, hk, h3⟩
    · exact ⟨_, hm, h4⟩
end
end Go.Proofs.Ytbojmofkhkegmaa
end
