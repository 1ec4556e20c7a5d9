/- Texts put together: RowMath, RowCount, RecBox, RecMay, OwnIt. -/
import Derived.Test.YtenkkdnepmoihaaGreatDoorUeaf
import Derived.Test.YtenkkdnepmoihaaGreatDoorUeac
import Derived.Test.YtenkkdnepmoihaaGreatDoorProg
import Derived.Test.YtenkkdnepmoihaaGreatDoorUeaa
import Derived.Deep.MidRow
import Derived.Laws.AppendOwnNone
import Derived.Maps.AppendAt
section
set_option linter.unusedVariables false
set_option linter.unusedSimpArgs false
namespace Go.Proofs.YtenkkdnepmoihaaGreatDoor

/-- The disk of part k (the data, then P, then Q); the part that a disk has. -/
def roS (D F k : Nat) : Nat := if F + k < D then F + k else F + k - D
def roI (D F i : Nat) : Nat := if F ≤ i then i - F else i + D - F
theorem roS_lt {D F k : Nat} (hF : F < D) (hk : k < D) : roS D F k < D := by unfold roS; split <;> omega
theorem roI_lt {D F i : Nat} (hF : F < D) (hi : i < D) : roI D F i < D := by unfold roI; split <;> omega
theorem roI_roS {D F k : Nat} (hF : F < D) (hk : k < D) : roI D F (roS D F k) = k := by unfold roI roS; split <;> split <;> omega
theorem roS_roI {D F i : Nat} (hF : F < D) (hi : i < D) : roS D F (roI D F i) = i := by unfold roI roS; split <;> split <;> omega
theorem roS_inj {D F j k : Nat} (hF : F < D) (hj : j < D) (hk : k < D) (h : roS D F j = roS D F k) : j = k := by
  rw [← roI_roS hF hj, h, roI_roS hF hk]
/-- All parts: data, P, Q. -/
def allL (rs : List (List UInt8)) : List (List UInt8) := rs ++ [pB rs, qB rs]
theorem allL_data {rs : List (List UInt8)} {k : Nat} (hk : k < rs.length) : (allL rs).getD k [] = rs.getD k [] := by
  simp [allL, List.getD_eq_getElem?_getD, List.getElem?_append_left hk]
theorem allL_p (rs : List (List UInt8)) : (allL rs).getD rs.length [] = pB rs := by
  simp [allL, List.getD_eq_getElem?_getD, List.getElem?_append_right]
theorem allL_q (rs : List (List UInt8)) : (allL rs).getD (rs.length + 1) [] = qB rs := by
  simp [allL, List.getD_eq_getElem?_getD, List.getElem?_append_right]
/-- The disks' sectors as far as part k. -/
def fillTo2 (D F : Nat) (rs : List (List UInt8)) (k : Nat) : List (List UInt8) := (List.range D).map fun i => if roI D F i < k then (allL rs).getD (roI D F i) [] else []
def fillL (D F : Nat) (rs : List (List UInt8)) : List (List UInt8) := fillTo2 D F rs D
theorem fillTo2_len (D F : Nat) (rs : List (List UInt8)) (k : Nat) : (fillTo2 D F rs k).length = D := by simp [fillTo2]
theorem fillL_len (D F : Nat) (rs : List (List UInt8)) : (fillL D F rs).length = D := fillTo2_len _ _ _ _
theorem fillTo2_get {D F : Nat} {rs : List (List UInt8)} {k i : Nat} (hi : i < D) : (fillTo2 D F rs k).getD i [] = if roI D F i < k then (allL rs).getD (roI D F i) [] else [] := by
  simp [fillTo2, List.getD_eq_getElem?_getD, hi]
theorem fillL_get {D F : Nat} {rs : List (List UInt8)} {i : Nat} (hF : F < D) (hi : i < D) : (fillL D F rs).getD i [] = (allL rs).getD (roI D F i) [] := by
  unfold fillL
  rw [fillTo2_get hi, if_pos (roI_lt hF hi)]
theorem fillL_at {D F : Nat} {rs : List (List UInt8)} {k : Nat} (hF : F < D) (hk : k < D) : (fillL D F rs).getD (roS D F k) [] = (allL rs).getD k [] := by
  rw [fillL_get hF (roS_lt hF hk), roI_roS hF hk]
theorem fillTo2_zero (D F : Nat) (rs : List (List UInt8)) : fillTo2 D F rs 0 = List.replicate D [] := by
  apply List.ext_getElem (by simp [fillTo2])
  intro i h1 h2
  simp [fillTo2]
theorem fillTo2_succ {D F : Nat} {rs : List (List UInt8)} {k : Nat} (hF : F < D) (hk : k < D) : (fillTo2 D F rs k).set (roS D F k) ((allL rs).getD k []) = fillTo2 D F rs (k + 1) := by
  apply ext_getD (by rw [List.length_set, fillTo2_len, fillTo2_len])
  intro i hi
  rw [List.length_set, fillTo2_len] at hi
  rw [fillTo2_get hi]
  by_cases e : roS D F k = i
  · subst e
    rw [getD_set_same (by rw [fillTo2_len]; exact hi), roI_roS hF hk, if_pos (by omega)]
  · rw [getD_set_other e, fillTo2_get hi]
    have hne : roI D F i ≠ k := fun h => e (by rw [← h]; exact roS_roI hF hi)
    by_cases h : roI D F i < k
    · rw [if_pos h, if_pos (by omega)]
    · rw [if_neg h, if_neg (by omega)]

/-- Which geometry, which row: the disk of data chunk 0, how many disks, how many of data. -/
def roF (l d c r : Int) : Nat := (plF l d c r).toNat
def roD (d : Int) : Nat := d.toNat
def roW (l d : Int) : Nat := (d - (l - 4)).toNat
structure Ro (l d c r : Int) : Prop where
  hF : roF l d c r < roD d
  hW : roW l d < roD d
  w1 : 1 ≤ roW l d
  w7 : roW l d ≤ 7
  d8 : roD d ≤ 8
  d3 : 3 ≤ roD d
  dd : ((roD d : Nat) : Int) = d
  wd : gWid l d c = ((roW l d : Nat) : Int)
  lv : (l = 5 ∧ roD d = roW l d + 1) ∨ (l = 6 ∧ roD d = roW l d + 2)
  pP : plP l d c r = ((roS (roD d) (roF l d c r) (roW l d) : Nat) : Int)
  pQ : plQ l d c r = if l = 6 then ((roS (roD d) (roF l d c r) (roW l d + 1) : Nat) : Int) else -1
  pD : ∀ k : Nat, k < roW l d → plD l d c r (k : Int) = ((roS (roD d) (roF l d c r) k : Nat) : Int)
theorem emod_two {x d : Int} (h0 : 0 ≤ x) (h1 : x < d + d) : x % d = if x < d then x else x - d := by
  split
  · exact Int.emod_eq_of_lt h0 (by omega)
  · have h : x = (x - d) + d := by omega
    rw [h, Int.add_emod_right]
    rw [Int.emod_eq_of_lt (by omega) (by omega)]
    omega
theorem ro_of {l d c r : Int} (h : plOk l d c r = true) : Ro l d c r := by
  obtain ⟨hg, h0, h1⟩ := plOk_yes h
  have hb := gOk_bd hg
  have hl := (gOk_yes hg).1
  have hp := plP_yes h
  have hm := rem_bd (r / c) (show 1 ≤ d by omega)
  have hF := plF_bd l c r (show 1 ≤ d by omega)
  have hFe : plF l d c r = (d - 1 - r / c % d + (l - 4)) % d := rfl
  have hFe2 := emod_two (x := d - 1 - r / c % d + (l - 4)) (d := d) (by omega) (by omega)
  rw [hFe2] at hFe
  have e1 : ((roD d : Nat) : Int) = d := by unfold roD; omega
  have e2 : ((roF l d c r : Nat) : Int) = plF l d c r := by unfold roF; omega
  have e3 : ((roW l d : Nat) : Int) = d - (l - 4) := by unfold roW; omega
  have hroS : ∀ k : Nat, k < roD d → ((roS (roD d) (roF l d c r) k : Nat) : Int) = (plF l d c r + k) % d := fun k hk => by
    rw [emod_two (by omega) (by omega)]
    unfold roS
    split <;> split <;> omega
  refine ⟨by omega, by omega, by omega, by omega, by omega, by omega, e1, by rw [gWid_yes hg, e3], ?_, ?_, ?_, ?_⟩
  · rcases hl with h | h
    · exact .inl ⟨h.1, by omega⟩
    · exact .inr ⟨h.1, by omega⟩
  · rw [hp, hroS _ (by omega)]
    generalize r / c % d = q at hm hFe ⊢
    generalize plF l d c r = f at hF hFe ⊢
    clear hFe2 hroS
    rw [emod_two (by omega) (by omega)]
    split at hFe <;> split <;> omega
  · by_cases h6 : l = 6
    · rw [if_pos h6, hroS _ (by omega)]
      subst h6
      rw [plQ_6 h]
      generalize r / c % d = q at hm hFe ⊢
      generalize plF 6 d c r = f at hF hFe ⊢
      clear hFe2 hroS
      rw [emod_two (by omega) (by omega), emod_two (by omega) (by omega)]
      split at hFe <;> split <;> split <;> omega
    · rw [if_neg h6]
      obtain rfl : l = 5 := by omega
      exact plQ_5
  · intro k hk
    rw [hroS k (by omega), plD_yes (plDok_mk h (by omega) (by omega))]

def fillOk (l d c r : Int) (rs : List (List UInt8)) : Bool := plOk l d c r && (decide (rs.length = roW l d) && rs.all fun x => x.length == 32)
def roFill (l d c r : Int) (rs : List (List UInt8)) : Option (List (List UInt8)) := if fillOk l d c r rs = true then some (fillL (roD d) (roF l d c r) rs) else none
/-- The data chunks' sectors of the disks' ones. -/
def dataL (l d c r : Int) (xs : List (List UInt8)) : List (List UInt8) := (List.range (roW l d)).map fun k => xs.getD (roS (roD d) (roF l d c r) k) []
def parL (l d c r : Int) (xs : List (List UInt8)) : List UInt8 := xs.getD (roS (roD d) (roF l d c r) (roW l d)) []
def parQ (l d c r : Int) (xs : List (List UInt8)) : List UInt8 := if l = 6 then xs.getD (roS (roD d) (roF l d c r) (roW l d + 1)) [] else []
def roTake (l d c r : Int) (xs : List (List UInt8)) : Option (List (List UInt8)) :=
  if (plOk l d c r && decide (xs.length = roD d)) = true then solveB 32 (parL l d c r xs) (parQ l d c r xs) (dataL l d c r xs) else none
theorem fillOk_yes {l d c r : Int} {rs : List (List UInt8)} (h : fillOk l d c r rs = true) : plOk l d c r = true ∧ rs.length = roW l d ∧ ∀ x ∈ rs, x.length = 32 := by
  unfold fillOk at h
  simp only [Bool.and_eq_true, decide_eq_true_eq, List.all_eq_true, beq_iff_eq] at h
  exact ⟨h.1, h.2.1, h.2.2⟩
theorem fillOk_mk {l d c r : Int} {rs : List (List UInt8)} (h : plOk l d c r = true) (hl : rs.length = roW l d) (ha : ∀ x ∈ rs, x.length = 32) : fillOk l d c r rs = true := by
  unfold fillOk
  simp only [Bool.and_eq_true, decide_eq_true_eq, List.all_eq_true, beq_iff_eq]
  exact ⟨h, hl, ha⟩
theorem roFill_yes {l d c r : Int} {rs : List (List UInt8)} (h : fillOk l d c r rs = true) : roFill l d c r rs = some (fillL (roD d) (roF l d c r) rs) := if_pos h
theorem roFill_no {l d c r : Int} {rs : List (List UInt8)} (h : ¬ fillOk l d c r rs = true) : roFill l d c r rs = none := if_neg h
theorem dataL_len (l d c r : Int) (xs : List (List UInt8)) : (dataL l d c r xs).length = roW l d := by simp [dataL]
theorem dataL_get {l d c r : Int} {xs : List (List UInt8)} {k : Nat} (hk : k < roW l d) : (dataL l d c r xs).getD k [] = xs.getD (roS (roD d) (roF l d c r) k) [] := by
  simp [dataL, List.getD_eq_getElem?_getD, hk]
theorem roTake_yes {l d c r : Int} {xs : List (List UInt8)} (h : plOk l d c r = true) (hl : xs.length = roD d) : roTake l d c r xs = solveB 32 (parL l d c r xs) (parQ l d c r xs) (dataL l d c r xs) := by
  unfold roTake; rw [h, decide_eq_true hl]; rfl
theorem mem_getD {rs : List (List UInt8)} {N k : Nat} (h : ∀ r ∈ rs, r.length = N) (hk : k < rs.length) : (rs.getD k []).length = N := h _ (by simp [hk])
/-- All parts have a sector's bytes. -/
theorem allL_32 {rs : List (List UInt8)} (h0 : 0 < rs.length) (h : ∀ x ∈ rs, x.length = 32) {k : Nat} (hk : k < rs.length + 2) : ((allL rs).getD k []).length = 32 := by
  by_cases h1 : k < rs.length
  · rw [allL_data h1]; exact mem_getD h h1
  · by_cases h2 : k = rs.length
    · subst h2; rw [allL_p]; exact pB_len h0 h
    · obtain rfl : k = rs.length + 1 := by omega
      rw [allL_q]; exact qB_len h0 h
/-- Of a row some of whose sectors are missing, not more than may be. -/
theorem take_back {l d c r : Int} {rs xs : List (List UInt8)} (h : fillOk l d c r rs = true) (hl : xs.length = roD d) (hx : ∀ i, i < roD d → (xs.getD i []).length = 0 ∨ xs.getD i [] = (fillL (roD d) (roF l d c r) rs).getD i [])
    (hm : (missB (dataL l d c r xs)).length ≤ 2 - (missB [parL l d c r xs, parQ l d c r xs]).length) : roTake l d c r xs = some rs := by
  obtain ⟨hk, hn, ha⟩ := fillOk_yes h
  have R := ro_of hk
  have hw1 := R.w1; have hw7 := R.w7; have hW := R.hW; have hlv := R.lv
  have at_ : ∀ k, k < roD d → (xs.getD (roS (roD d) (roF l d c r) k) []).length = 0 ∨ xs.getD (roS (roD d) (roF l d c r) k) [] = (allL rs).getD k [] := fun k hk => by
    have := hx _ (roS_lt R.hF hk)
    rwa [fillL_at R.hF hk] at this
  rw [roTake_yes hk hl]
  refine solveB_back ⟨by omega, ha, by rw [dataL_len, hn], fun k hk => ?_⟩ (by omega) (by omega) ?_ ?_ hm
  · rw [dataL_get (by omega), ← allL_data hk]; exact at_ k (by omega)
  · have := at_ (roW l d) (by omega)
    rw [← hn, allL_p, hn] at this
    exact this
  · unfold parQ
    split
    · next h6 =>
      have := at_ (roW l d + 1) (by omega)
      rw [← hn, allL_q, hn] at this
      exact this
    · exact .inl rfl
theorem fill_32 {l d c r : Int} {rs : List (List UInt8)} (h : fillOk l d c r rs = true) {i : Nat} (hi : i < roD d) : ((fillL (roD d) (roF l d c r) rs).getD i []).length = 32 := by
  obtain ⟨hk, hn, ha⟩ := fillOk_yes h
  have R := ro_of hk
  have hw1 := R.w1; have hlv := R.lv
  have := roI_lt R.hF hi
  rw [fillL_get R.hF hi]
  exact allL_32 (by omega) ha (by omega)
end Go.Proofs.YtenkkdnepmoihaaGreatDoor
end
section
set_option linter.unusedVariables false
set_option linter.unusedSimpArgs false
namespace Go.Proofs.YtenkkdnepmoihaaGreatDoor

theorem len_le_map {f : Nat → Nat} : ∀ {l1 l2 : List Nat}, l1.Nodup → (∀ a ∈ l1, ∀ b ∈ l1, f a = f b → a = b) → (∀ a ∈ l1, f a ∈ l2) → l1.length ≤ l2.length
  | [], _, _, _, _ => Nat.zero_le _
  | a :: l, l2, hn, hi, hm => by
    obtain ⟨h1, h2⟩ := List.nodup_cons.1 hn
    have ha := hm a (List.mem_cons_self ..)
    have hl := List.length_erase_of_mem ha
    have hp := List.length_pos_of_mem ha
    have := len_le_map (f := f) (l1 := l) (l2 := l2.erase (f a)) h2 (fun b hb c hc => hi b (List.mem_cons_of_mem _ hb) c (List.mem_cons_of_mem _ hc)) fun b hb =>
      (List.mem_erase_of_ne (fun e => h1 (by rw [← hi b (List.mem_cons_of_mem _ hb) a (List.mem_cons_self ..) e]; exact hb))).2 (hm b (List.mem_cons_of_mem _ hb))
    simp only [List.length_cons]
    omega
/-- How many of the first n are so. -/
def cntB (n : Nat) (b : Nat → Bool) : Nat := ((List.range n).filter b).length
theorem cntB_succ (n : Nat) (b : Nat → Bool) : cntB (n + 1) b = if b n = true then cntB n b + 1 else cntB n b := by
  unfold cntB
  rw [List.range_succ, List.filter_append]
  by_cases h : b n = true
  · rw [if_pos h, List.filter_cons_of_pos h, List.length_append]; rfl
  · rw [if_neg h, List.filter_cons_of_neg h, List.length_append]; rfl
theorem cntB_le (n : Nat) (b : Nat → Bool) : cntB n b ≤ n := by
  have := List.length_filter_le b (List.range n)
  rw [List.length_range] at this
  exact this
theorem cntB_congr {n : Nat} {b b' : Nat → Bool} (h : ∀ i, i < n → b i = b' i) : cntB n b = cntB n b' := by
  unfold cntB
  rw [List.filter_congr fun i hi => h i (List.mem_range.1 hi)]
theorem cntB_roS {D F : Nat} (hF : F < D) (b : Nat → Bool) : cntB D b = cntB D fun k => b (roS D F k) := by
  unfold cntB
  apply Nat.le_antisymm
  · refine len_le_map (f := roI D F) (List.nodup_range.filter _) (fun i hi j hj e => ?_) fun i hi => ?_
    · have h1 := List.mem_range.1 (List.mem_filter.1 hi).1
      have h2 := List.mem_range.1 (List.mem_filter.1 hj).1
      rw [← roS_roI hF h1, e, roS_roI hF h2]
    · obtain ⟨h1, h2⟩ := List.mem_filter.1 hi
      have h1 := List.mem_range.1 h1
      refine List.mem_filter.2 ⟨List.mem_range.2 (roI_lt hF h1), ?_⟩
      rw [roS_roI hF h1]
      exact h2
  · refine len_le_map (f := roS D F) (List.nodup_range.filter _) (fun i hi j hj e => roS_inj hF (List.mem_range.1 (List.mem_filter.1 hi).1) (List.mem_range.1 (List.mem_filter.1 hj).1) e) fun i hi => ?_
    obtain ⟨h1, h2⟩ := List.mem_filter.1 hi
    exact List.mem_filter.2 ⟨List.mem_range.2 (roS_lt hF (List.mem_range.1 h1)), h2⟩
theorem cntB_none {n : Nat} {b : Nat → Bool} (h : ∀ i, i < n → b i = false) : cntB n b = 0 := by
  induction n with
  | zero => rfl
  | succ n ih => rw [cntB_succ, if_neg (by rw [h n (by omega)]; decide), ih fun i hi => h i (by omega)]
theorem cntB_one {n k : Nat} (hk : k < n) : cntB n (fun i => decide (i = k)) = 1 := by
  induction n with
  | zero => omega
  | succ n ih =>
    rw [cntB_succ]
    by_cases h : k = n
    · subst h
      rw [if_pos (by simp), cntB_none fun i hi => by simp; omega]
    · rw [if_neg (by simpa using fun e => h e.symm), ih (by omega)]

/-- Zeros. -/
theorem xorL_zz : xorL (zeroL 32) (zeroL 32) = zeroL 32 := by decide
theorem foldG_zero {g : Nat → List UInt8 → List UInt8} (h0 : ∀ k, g k (zeroL 32) = zeroL 32) : ∀ (n k : Nat), foldG g k (zeroL 32) (List.replicate n (zeroL 32)) = zeroL 32
  | 0, _ => rfl
  | n + 1, k => by rw [List.replicate_succ, foldG, h0, xorL_zz]; exact foldG_zero h0 n (k + 1)
theorem rep_mem {n : Nat} : ∀ x ∈ List.replicate n (zeroL 32), x.length = 32 := fun x hx => by rw [List.eq_of_mem_replicate hx]; rfl
theorem rep_get {n k : Nat} (h : k < n) : (List.replicate n (zeroL 32)).getD k [] = zeroL 32 := by simp [List.getD_eq_getElem?_getD, h]
theorem sumG_zero {g : Nat → List UInt8 → List UInt8} (h0 : ∀ k, g k (zeroL 32) = zeroL 32) {n : Nat} (hn : 0 < n) : sumG g (List.replicate n (zeroL 32)) = zeroL 32 := by
  have h := alikeB_of (rs := List.replicate n (zeroL 32)) (by simpa using hn) rep_mem
  unfold sumG
  rw [if_pos h.1, h.2]
  exact foldG_zero h0 n 0
theorem zeros_all {n k : Nat} (hn : 0 < n) (hk : k < n + 2) : (allL (List.replicate n (zeroL 32))).getD k [] = zeroL 32 := by
  have hl : (List.replicate n (zeroL 32)).length = n := by simp
  by_cases h1 : k < n
  · rw [allL_data (by rw [hl]; exact h1)]; exact rep_get h1
  · by_cases h2 : k = n
    · subst h2
      have := allL_p (List.replicate k (zeroL 32))
      rw [hl] at this
      rw [this]
      exact sumG_zero (gP_zero 32) hn
    · obtain rfl : k = n + 1 := by omega
      have := allL_q (List.replicate n (zeroL 32))
      rw [hl] at this
      rw [this]
      exact sumG_zero (gQ_zero 32) hn
theorem zeros_fill {D F W i : Nat} (hF : F < D) (hW : 0 < W) (hD : D ≤ W + 2) (hi : i < D) : (fillL D F (List.replicate W (zeroL 32))).getD i [] = zeroL 32 := by
  rw [fillL_get hF hi]
  have := roI_lt hF hi
  exact zeros_all hW (by omega)
end Go.Proofs.YtenkkdnepmoihaaGreatDoor
end
section
set_option linter.unusedVariables false
set_option linter.unusedSimpArgs false
namespace Go.Proofs.YtenkkdnepmoihaaGreatDoor
open Go.RowKit

theorem rx_cell_at {w : World} {B g n cap : Nat} {e : TypeId} {size : Nat} {xs : List Value} (h : w.ownsRow B e size (.slice (some ⟨g, 0, none⟩) n cap) n xs) (j : Nat) (hj : j < xs.length) : w.cell? ⟨g, j, none⟩ = xs[j]? := by
  rcases h.2 with ⟨h1, _⟩ | ⟨g', cap', cur, h1, h2, h3, h4, h5, h6, h7⟩
  · cases h1
  · injection h1 with h8 _ h9
    injection h8 with h8
    injection h8 with h8 _ _
    subst h8 h9
    have hx := h.1
    rw [cell_of_row w g j cur e (0, 0) h3, ← h7, List.getElem?_take, if_pos (by omega), Array.getElem?_toList]
theorem rx_form {w : World} {B n : Nat} {e : TypeId} {size : Nat} {v : Value} {xs : List Value} (h : w.ownsRow B e size v n xs) : ∃ A c, v = .slice A n c ∧ n ≤ c ∧ (0 < n → ∃ g, A = some ⟨g, 0, none⟩ ∧ B ≤ g) := by
  rcases h.2 with ⟨rfl, rfl⟩ | ⟨g, cap, cur, rfl, hB, _, hc, _⟩
  · exact ⟨none, 0, rfl, Nat.le_refl _, fun h => by omega⟩
  · exact ⟨_, cap, rfl, hc, fun _ => ⟨g, rfl, hB⟩⟩
theorem rangeAt_keep {w w' : World} {b o : Nat} {cs : List Value} (h : w.rangeAt b o cs) (hk : ∀ k, w'.cell? ⟨b, k, none⟩ = w.cell? ⟨b, k, none⟩) : w'.rangeAt b o cs := fun j v hj => (hk _).trans (h j v hj)
/-- The cells of Items whose Data lie there. -/
def itcs : List It → List Value → List Value
  | x :: l, u :: xs => .int .i64 x.d :: .int .i64 x.a :: u :: itcs l xs
  | _, _ => []
theorem itcs_len : ∀ (l : List It) (xs : List Value), xs.length = l.length → (itcs l xs).length = l.length * 3
  | [], xs, _ => by simp [itcs]
  | x :: l, [], h => by simp at h
  | x :: l, u :: xs, h => by
    have := itcs_len l xs (by simpa using h)
    simp only [itcs, List.length_cons]; omega
theorem itcs_get : ∀ (l : List It) (xs : List Value) (k : Nat) (u : Value), xs.length = l.length → xs[k]? = some u → ∀ j, j < 3 → (itcs l xs)[k * 3 + j]? = [.int .i64 (itN l k).d, .int .i64 (itN l k).a, u][j]?
  | [], [], k, u, _, h, _, _ => by simp at h
  | [], _ :: _, _, _, h, _, _, _ => by simp at h
  | _ :: _, [], _, _, h, _, _, _ => by simp at h
  | x :: l, v :: xs, 0, u, _, h, j, hj => by
    obtain rfl : v = u := by simpa using h
    match j, hj with
    | 0, _ => rfl
    | 1, _ => rfl
    | 2, _ => rfl
  | x :: l, v :: xs, k + 1, u, hl, h, j, hj => by
    have := itcs_get l xs k u (by simpa using hl) (by simpa using h) j hj
    rw [show (k + 1) * 3 + j = k * 3 + j + 1 + 1 + 1 by omega]
    exact this
/-- All their numbers are whole numbers of 64 digits. -/
def Its64 (l : List It) : Prop := ∀ k, k < l.length → It64 (itN l k)
/-- The slice of Items reads as these. -/
def RdI (w : World) (B : Nat) (A : Option Addr) (l : List It) : Prop :=
  l.length ≤ 140737488355328 ∧ (0 < l.length → ∃ b, A = some ⟨b, 0, none⟩ ∧ b < B ∧ ∀ k, k < l.length → ∃ D c, w.rangeAt b (k * 3) [.int .i64 (itN l k).d, .int .i64 (itN l k).a, .slice D (itN l k).b.length c] ∧ RdB w B D (itN l k).b)
theorem RdI.keep {w w' : World} {B B' : Nat} {A : Option Addr} {l : List It} (h : RdI w B A l) (hB : B ≤ B') (hk : ∀ p : Addr, p.block < B → w'.cell? p = w.cell? p) : RdI w' B' A l :=
  ⟨h.1, fun hn => by
    obtain ⟨b, e, hb, hc⟩ := h.2 hn
    refine ⟨b, e, by omega, fun k hk' => ?_⟩
    obtain ⟨D, c, h1, h2⟩ := hc k hk'
    exact ⟨D, c, rangeAt_keep h1 fun j => hk ⟨b, j, none⟩ hb, h2.keep hB hk⟩⟩
theorem RdI.below {w w' : World} {B B' : Nat} {A : Option Addr} {l : List It} (h : RdI w B A l) (hb : Below B' w w') (hB : B ≤ B') : RdI w' B A l := h.keep (Nat.le_refl _) fun p hp => hb.cell (by omega)
theorem RdI.more {w : World} {B B' : Nat} {A : Option Addr} {l : List It} (h : RdI w B A l) (hB : B ≤ B') : RdI w B' A l := h.keep hB fun _ _ => rfl
theorem RdI.later {w w' : World} {A : Option Addr} {l : List It} (h : RdI w w.heap.size A l) (hb : Below w.heap.size w w') : RdI w' w'.heap.size A l := (h.below hb (Nat.le_refl _)).more hb.size
theorem RdI.nil (w : World) (B : Nat) (A : Option Addr) : RdI w B A [] := ⟨by simp, fun h => by simp at h⟩
theorem itN_take {l : List It} {i k : Nat} (h : k < i) : itN (l.take i) k = itN l k := by
  simp [itN, List.getD_eq_getElem?_getD, h]
theorem RdI.take {w : World} {B : Nat} {A : Option Addr} {l : List It} (h : RdI w B A l) (i : Nat) : RdI w B A (l.take i) :=
  ⟨by have := h.1; simp; omega, fun hn => by
    have hn' : 0 < l.length := by simp at hn; omega
    obtain ⟨b, e, hb, hc⟩ := h.2 hn'
    refine ⟨b, e, hb, fun k hk => ?_⟩
    have hk' : k < i ∧ k < l.length := by simp at hk; omega
    rw [itN_take hk'.1]
    exact hc k hk'.2⟩
theorem itB_get {l : List It} {k : Nat} (hk : k < l.length) : (l.map (·.b)).getD k [] = (itN l k).b := by
  simp [itN, List.getD_eq_getElem?_getD, hk]
end Go.Proofs.YtenkkdnepmoihaaGreatDoor
end
section
set_option linter.unusedVariables false
set_option linter.unusedSimpArgs false
namespace Go.Proofs.YtenkkdnepmoihaaGreatDoor
open Go.RowKit

theorem unlike_any (A : Option Addr) (n c : Nat) (w : World) (r : Bool) (hr : ((n : Int) != 32) = r) :
    Calls Tryz.prog 111 #[.slice A n c] w fun e w' => e = .returned (.bool r) ∧ w' = w := by
  subst hr
  go_enter Tryz.func111, Tryz.ntmps111
  go_wp2
  go_ret
  exact ⟨rfl, rfl⟩
theorem may_any (x : It) (A : Option Addr) (n c : Nat) (w : World) (hn : x.b.length = n) (h : It64 x) :
    Calls Tryz.prog 97 #[.agg #[.int .i64 x.d, .int .i64 x.a, .slice A n c]] w fun e w' => e = .returned (.bool (mayB x)) ∧ Below w.heap.size w w' := by
  have HM := Lib.hid (mayB_iff x)
  obtain ⟨hd, ha⟩ := h
  rw [hn] at HM
  obtain ⟨d, a, b⟩ := x
  dsimp only at *
  have hn' := Lib.hid hn
  clear hn
  generalize mayB ⟨d, a, b⟩ = m at HM
  have B1 := Lib.hid (below1 w (.cells #[.int .i64 d, .int .i64 a, .slice A n c] 92))
  have HY : Hid ((0 ≤ d ∧ d < 8 ∧ 36 ≤ a ∧ a < 52 ∧ n = 32) → m = true) := fun q => HM.out.2 q
  have HN : Hid (¬ (0 ≤ d ∧ d < 8 ∧ 36 ≤ a ∧ a < 52 ∧ n = 32) → m = false) := fun q => by
    rw [← Bool.not_eq_true]; exact fun e => q (HM.out.1 e)
  clear HM
  by_cases h1 : 0 ≤ d
  · by_cases h2 : d < 8
    · by_cases h3 : 36 ≤ a
      · by_cases h4 : a < 52
        · by_cases h5 : n = 32
          · have R := Lib.hid (HY.out ⟨h1, h2, h3, h4, h5⟩)
            have CU := Lib.hid fun W => unlike_any A n c W false (by rw [h5]; rfl)
            clear h5
            go_enter Tryz.func97, Tryz.ntmps97
            go_wp2_with (go_at_call 111; refine (CU.out _).mono ?_; rintro e w' ⟨rfl, rfl⟩)
            go_ret
            exact ⟨by rw [R.out]; rfl, B1.out⟩
          · have R := Lib.hid (HN.out (by omega))
            have CU := Lib.hid fun W => unlike_any A n c W true (by rw [bne_iff_ne]; omega)
            clear h5
            go_enter Tryz.func97, Tryz.ntmps97
            go_wp2_with (go_at_call 111; refine (CU.out _).mono ?_; rintro e w' ⟨rfl, rfl⟩)
            go_ret
            exact ⟨by rw [R.out]; rfl, B1.out⟩
        · have R := Lib.hid (HN.out (by omega))
          go_enter Tryz.func97, Tryz.ntmps97
          go_wp2
          go_ret
          exact ⟨by rw [R.out]; rfl, B1.out⟩
      · have R := Lib.hid (HN.out (by omega))
        go_enter Tryz.func97, Tryz.ntmps97
        go_wp2
        go_ret
        exact ⟨by rw [R.out]; rfl, B1.out⟩
    · have R := Lib.hid (HN.out (by omega))
      go_enter Tryz.func97, Tryz.ntmps97
      go_wp2
      go_ret
      exact ⟨by rw [R.out]; rfl, B1.out⟩
  · have R := Lib.hid (HN.out (by omega))
    go_enter Tryz.func97, Tryz.ntmps97
    go_wp2
    go_ret
    exact ⟨by rw [R.out]; rfl, B1.out⟩
theorem meets_any (x y : It) (A A' : Option Addr) (n c n' c' : Nat) (w : World) :
    Calls Tryz.prog 99 #[.agg #[.int .i64 x.d, .int .i64 x.a, .slice A n c], .agg #[.int .i64 y.d, .int .i64 y.a, .slice A' n' c']] w fun e w' => e = .returned (.bool (meetsB x y)) ∧ Below w.heap.size w w' := by
  have HM := Lib.hid (meetsB_iff x y)
  obtain ⟨d, a, b⟩ := x
  obtain ⟨d', a', b'⟩ := y
  dsimp only at *
  generalize meetsB ⟨d, a, b⟩ ⟨d', a', b'⟩ = m at HM
  have B1 := Lib.hid (below2 w (.cells #[.int .i64 d, .int .i64 a, .slice A n c] 92) (.cells #[.int .i64 d', .int .i64 a', .slice A' n' c'] 92))
  have HN : Hid (¬ (d = d' ∧ a = a') → m = false) := fun q => by
    rw [← Bool.not_eq_true]; exact fun e => q (HM.out.1 e)
  by_cases h1 : d = d'
  · by_cases h2 : a = a'
    · have R := Lib.hid (HM.out.2 ⟨h1, h2⟩)
      have e1 : (d == d') = true := by rw [h1]; exact beq_self_eq_true _
      have e2 : (a == a') = true := by rw [h2]; exact beq_self_eq_true _
      clear h1 h2
      go_enter Tryz.func99, Tryz.ntmps99
      go_wp2
      go_ret
      exact ⟨by rw [R.out]; rfl, B1.out⟩
    · have R := Lib.hid (HN.out (fun q => h2 q.2))
      have e1 : (d == d') = true := by rw [h1]; exact beq_self_eq_true _
      have e2 : (a == a') = false := beq_eq_false_iff_ne.2 h2
      clear h1 h2
      go_enter Tryz.func99, Tryz.ntmps99
      go_wp2
      go_ret
      exact ⟨by rw [R.out]; rfl, B1.out⟩
  · have R := Lib.hid (HN.out (fun q => h1 q.1))
    have e1 : (d == d') = false := beq_eq_false_iff_ne.2 h1
    clear h1
    go_enter Tryz.func99, Tryz.ntmps99
    go_wp2
    go_ret
    exact ⟨by rw [R.out]; rfl, B1.out⟩
end Go.Proofs.YtenkkdnepmoihaaGreatDoor
end
section
set_option linter.unusedVariables false
set_option linter.unusedSimpArgs false
namespace Go.Proofs.YtenkkdnepmoihaaGreatDoor
open Go.RowKit

/-- Values that read as rows, none of them in block ob, all from lo on. -/
def RowsL (w : World) (lo : Nat) (ob : Option Nat) (xs : List Value) (rs : List (List UInt8)) : Prop :=
  xs.length = rs.length ∧ ∀ k, k < rs.length → ∃ A c, xs[k]? = some (.slice A (rs.getD k []).length c) ∧ (rs.getD k []).length ≤ c ∧ RdB w w.heap.size A (rs.getD k []) ∧ (0 < (rs.getD k []).length → ∀ a, A = some a → some a.block ≠ ob ∧ lo ≤ a.block)
section
variable {w w' : World} {lo : Nat} {ob ob' : Option Nat} {xs ys : List Value} {rs qs : List (List UInt8)}
theorem RowsL.nil (w : World) (lo : Nat) (ob : Option Nat) : RowsL w lo ob [] [] := ⟨rfl, fun k hk => by simp at hk⟩
theorem RowsL.le {lo' : Nat} (h : RowsL w lo ob xs rs) (hl : lo' ≤ lo) : RowsL w lo' ob xs rs :=
  ⟨h.1, fun k hk => by
    obtain ⟨A, c, h1, hc, h2, h3⟩ := h.2 k hk
    exact ⟨A, c, h1, hc, h2, fun h0 a ha => ⟨(h3 h0 a ha).1, Nat.le_trans hl (h3 h0 a ha).2⟩⟩⟩
/-- A row grows, that holds none of them. -/
theorem RowsL.grown {row : Option Nat} (h : RowsL w lo ob xs rs) (hg : w.grownBy w' row) (hr : row = ob ∨ ∃ q, row = some q ∧ q < lo) (ho : ob' = ob ∨ ob' = some w.heap.size) : RowsL w' lo ob' xs rs :=
  ⟨h.1, fun k hk => by
    obtain ⟨A, c, h1, hcap, h2, h3⟩ := h.2 k hk
    refine ⟨A, c, h1, hcap, ⟨h2.1, fun h0 => ?_⟩, fun h0 a ha => ⟨?_, (h3 h0 a ha).2⟩⟩
    · obtain ⟨b, off, e, hb, hc⟩ := h2.2 h0
      have hne := h3 h0 _ e
      have hne2 : some b ≠ row := by
        rcases hr with rfl | ⟨q, rfl, hq⟩
        · exact hne.1
        · intro e; injection e with e; have : lo ≤ b := hne.2; omega
      refine ⟨b, off, e, by have := hg.size; omega, fun j hj => ?_⟩
      rw [← hc j hj]
      exact World.cell?_of_block (w := w) (hg.block b hb hne2)
    · rcases ho with rfl | rfl
      · exact (h3 h0 a ha).1
      · obtain ⟨b, off, e, hb, hc⟩ := h2.2 h0
        rw [ha] at e
        injection e with e
        subst e
        intro e
        injection e with e
        simp at e
        omega⟩
end
theorem itcs_app : ∀ (l l2 : List It) (xs xs2 : List Value), xs.length = l.length → itcs (l ++ l2) (xs ++ xs2) = itcs l xs ++ itcs l2 xs2
  | [], _, [], _, _ => rfl
  | [], _, _ :: _, _, h => by simp at h
  | _ :: _, _, [], _, h => by simp at h
  | y :: l, l2, u :: xs, xs2, h => by
    have := itcs_app l l2 xs xs2 (by simpa using h)
    simp only [List.cons_append, itcs, this]
theorem itcs_one : ∀ (l : List It) (xs : List Value), (∀ u ∈ xs, u.oneCell' = true) → ∀ u ∈ itcs l xs, u.oneCell' = true
  | [], _, _, u, hu => by simp [itcs] at hu
  | _ :: _, [], _, u, hu => by simp [itcs] at hu
  | x :: l, v :: xs, h, u, hu => by
    simp only [itcs, List.mem_cons] at hu
    rcases hu with rfl | rfl | rfl | hu
    · rfl
    · rfl
    · exact h _ (List.mem_cons_self ..)
    · exact itcs_one l xs (fun u hu => h u (List.mem_cons_of_mem _ hu)) u hu
/-- Items of one's own: their row lies from B on; their Data from lo on, and not in that row. -/
def OwIt (e : TypeId) (w : World) (B lo : Nat) (v : Value) (l : List It) : Prop :=
  ∃ xs, w.ownsRow B e 3 v l.length (itcs l xs) ∧ RowsL w lo v.ownBlock xs (l.map (·.b)) ∧ l.length ≤ 1000000
section
variable {e : TypeId} {w w' : World} {B lo : Nat} {v : Value} {l : List It}
theorem OwIt.nil (e : TypeId) (w : World) (B lo : Nat) : OwIt e w B lo (.slice none 0 0) [] := ⟨[], World.ownsRow_nil _ _ _ _, RowsL.nil _ _ _, by simp⟩
/-- A block is written that is none of these. -/
theorem OwIt.far {q : Nat} (h : OwIt e w B lo v l) (hg : w.grownBy w' (some q)) (hB : q < B) (hl : q < lo) : OwIt e w' B lo v l := by
  obtain ⟨xs, h1, h2, h3⟩ := h
  refine ⟨xs, h1.kept hg (.inr fun e => ?_), h2.grown hg (.inr ⟨q, rfl, hl⟩) (.inl rfl), h3⟩
  have := (h1.lt q e).1; omega
theorem OwIt.le {B' lo' : Nat} (h : OwIt e w B lo v l) (hB : B' ≤ B) (hl : lo' ≤ lo) : OwIt e w B' lo' v l := by
  obtain ⟨xs, h1, h2, h3⟩ := h
  refine ⟨xs, ⟨h1.1, ?_⟩, h2.le hl, h3⟩
  rcases h1.2 with h1 | ⟨g, cap, cur, h1, h2, r⟩
  · exact .inl h1
  · exact .inr ⟨g, cap, cur, h1, by omega, r⟩
end
section
variable {P : Program} (w : World)
end
end Go.Proofs.YtenkkdnepmoihaaGreatDoor
end
