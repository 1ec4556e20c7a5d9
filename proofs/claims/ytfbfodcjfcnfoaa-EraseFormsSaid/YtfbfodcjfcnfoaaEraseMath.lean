/- The plain mathematics of what is missing: no program here. -/
import Derived.Test.YtfbfodcjfcnfoaaSyndMath
namespace Go.Proofs.Ytfbfodcjfcnfoaa

/-- Which of the first k rows are missing. -/
def missTo (rs : List (List UInt8)) (k : Nat) : List Nat := (List.range k).filter fun j => (rs.getD j []).length == 0
def missB (rs : List (List UInt8)) : List Nat := missTo rs rs.length
def sizedB (n : Nat) (rs : List (List UInt8)) : Bool := rs.all fun r => r.length == 0 || r.length == n
def fillR (n : Nat) (r : List UInt8) : List UInt8 := if r.length = 0 then zeroL n else r
def filledB (n : Nat) (rs : List (List UInt8)) : List (List UInt8) := rs.map (fillR n)
def byPB (p : List UInt8) (all : List (List UInt8)) : List UInt8 := pB [p, pB all]
def byQB (q : List UInt8) (all : List (List UInt8)) (k : Nat) : List UInt8 := scaleL (pB [q, qB all]) (gpow (-(k : Int)))
def bothB (p q : List UInt8) (all : List (List UInt8)) (i j : Nat) : List UInt8 :=
  scaleL (pB [pB [q, qB all], scaleL (pB [p, pB all]) (gpow i)]) (ginv (gpow i ^^^ gpow j))
def bothA (p q : List UInt8) (all : List (List UInt8)) (i j : Nat) : List UInt8 := pB [pB [p, pB all], bothB p q all i j]
/-- May it be asked, and can it be told? -/
def askB (n : Nat) (p q : List UInt8) (rs : List (List UInt8)) : Bool := decide (1 ≤ n) && (sizedB n [p, q] && sizedB n rs)
def canB (p q : List UInt8) (rs : List (List UInt8)) : Bool := decide ((missB rs).length ≤ 2 - (missB [p, q]).length) && (decide (0 < rs.length) && decide (rs.length ≤ 8))
def toldB (p q : List UInt8) (all : List (List UInt8)) : List Nat → List (List UInt8)
  | [] => all
  | [i] => all.set i (if p.length ≠ 0 then byPB p all else byQB q all i)
  | i :: j :: _ => (all.set i (bothA p q all i j)).set j (bothB p q all i j)
def solveB (n : Nat) (p q : List UInt8) (rs : List (List UInt8)) : Option (List (List UInt8)) :=
  if (askB n p q rs && canB p q rs) = true then some (toldB p q (filledB n rs) (missB rs)) else none

theorem missTo_succ (rs : List (List UInt8)) (k : Nat) : missTo rs (k + 1) = if (rs.getD k []).length = 0 then missTo rs k ++ [k] else missTo rs k := by
  unfold missTo
  rw [List.range_succ, List.filter_append]
  by_cases h : (rs.getD k []).length = 0
  · rw [if_pos h, List.filter_cons_of_pos (by simpa using h)]; rfl
  · rw [if_neg h, List.filter_cons_of_neg (by simpa using h)]; simp
theorem missTo_lt {rs : List (List UInt8)} {k : Nat} : ∀ j ∈ missTo rs k, j < k ∧ (rs.getD j []).length = 0 := fun j hj => by
  unfold missTo at hj
  simpa using hj
theorem missTo_len (rs : List (List UInt8)) (k : Nat) : (missTo rs k).length ≤ k := by
  unfold missTo
  have := List.length_filter_le (fun j => (rs.getD j []).length == 0) (List.range k)
  simpa using this
theorem missTo_mem {rs : List (List UInt8)} {k j : Nat} : j ∈ missTo rs k ↔ j < k ∧ (rs.getD j []).length = 0 := by
  unfold missTo
  simp
theorem missTo_sorted (rs : List (List UInt8)) (k : Nat) : (missTo rs k).Pairwise (· < ·) := List.Pairwise.filter _ List.pairwise_lt_range
theorem filledB_len (n : Nat) (rs : List (List UInt8)) : (filledB n rs).length = rs.length := by simp [filledB]
theorem filledB_get (n : Nat) (rs : List (List UInt8)) {k : Nat} (h : k < rs.length) : (filledB n rs).getD k [] = fillR n (rs.getD k []) := by simp [filledB, h]
theorem sizedB_mem {n : Nat} {rs : List (List UInt8)} (h : sizedB n rs = true) : ∀ r ∈ rs, r.length = 0 ∨ r.length = n := fun r hr => by
  unfold sizedB at h
  rw [List.all_eq_true] at h
  simpa using h r hr
theorem sizedB_iff {n : Nat} {rs : List (List UInt8)} : sizedB n rs = true ↔ ∀ k, k < rs.length → (rs.getD k []).length = 0 ∨ (rs.getD k []).length = n := by
  constructor
  · intro h k hk
    exact sizedB_mem h _ (by simp [hk])
  · intro h
    unfold sizedB
    rw [List.all_eq_true]
    intro r hr
    obtain ⟨k, hk, rfl⟩ := List.getElem_of_mem hr
    have := h k hk
    simpa [hk] using this
theorem filledB_mem {n : Nat} {rs : List (List UInt8)} (h : sizedB n rs = true) : ∀ r ∈ filledB n rs, r.length = n := fun r hr => by
  unfold filledB at hr
  obtain ⟨r', h1, rfl⟩ := List.mem_map.1 hr
  unfold fillR
  split
  · exact zeroL_len _
  · rcases sizedB_mem h r' h1 with h2 | h2
    · exact absurd h2 (by assumption)
    · exact h2

theorem xorL_cancel {a b : List UInt8} (h : a.length = b.length) : xorL (xorL a b) b = a := by
  rw [xorL_assoc, xorL_self, xorL_zero a _ h]
theorem xorL_left {a b : List UInt8} (h : a.length = b.length) : xorL a (xorL a b) = b := by
  rw [xorL_comm a, xorL_comm a, xorL_cancel h.symm]
theorem xorL_length {a b : List UInt8} {N : Nat} (h : a.length = N) (h' : b.length = N) : (xorL a b).length = N := by rw [xorL_len, h, h', Nat.min_self]
theorem mulU_xor_right (x : UInt8) {f g : Nat} (hf : f < 256) (hg : g < 256) : mulU x (f ^^^ g) = mulU x f ^^^ mulU x g :=
  UInt8.toNat_inj.1 (by rw [mulU_nat, UInt8.toNat_xor, mulU_nat, mulU_nat]; exact gmul_xor_right x.toNat_lt hf hg)
theorem scaleL_xor (a : List UInt8) {f g : Nat} (hf : f < 256) (hg : g < 256) : scaleL a (f ^^^ g) = xorL (scaleL a f) (scaleL a g) := by
  unfold scaleL xorL
  induction a with
  | nil => rfl
  | cons x a ih => rw [List.map_cons, List.map_cons, List.map_cons, List.zipWith_cons_cons, ih, mulU_xor_right x hf hg]
theorem scaleL_back (a : List UInt8) {h : Nat} (hh : h < 256) (h0 : h ≠ 0) : scaleL (scaleL a (ginv h)) h = a := by
  rw [scaleL_scaleL a (ginv_lt h) hh, gmul_comm (ginv_lt h) hh, gmul_inv hh h0, scaleL_one]
theorem scaleL_forth (a : List UInt8) {h : Nat} (hh : h < 256) (h0 : h ≠ 0) : scaleL (scaleL a h) (ginv h) = a := by
  rw [scaleL_scaleL a hh (ginv_lt h), gmul_inv hh h0, scaleL_one]
theorem gpow_inj {i j : Nat} (hi : i < 255) (hj : j < 255) (h : gpow (i : Int) = gpow (j : Int)) : i = j := by
  have := congrArg glog h
  rw [glog_gpow, glog_gpow] at this
  omega
theorem gpow_dif {i j : Nat} (hi : i < 255) (hj : j < 255) (h : i ≠ j) : gpow (i : Int) ^^^ gpow (j : Int) ≠ 0 := fun e => h (gpow_inj hi hj (by
  have h1 : gpow (i : Int) ^^^ gpow (j : Int) ^^^ gpow (j : Int) = 0 ^^^ gpow (j : Int) := by rw [e]
  rw [Nat.xor_assoc, Nat.xor_self, Nat.xor_zero, Nat.zero_xor] at h1
  exact h1))
theorem gpow_neg (k : Nat) (a : List UInt8) : scaleL (scaleL a (gpow k)) (gpow (-(k : Int))) = a ∧ scaleL (scaleL a (gpow (-(k : Int)))) (gpow k) = a := by
  constructor
  · rw [scaleL_scaleL a (gpow_lt _) (gpow_lt _), gpow_add, Int.add_right_neg, show gpow 0 = 1 by decide +kernel, scaleL_one]
  · rw [scaleL_scaleL a (gpow_lt _) (gpow_lt _), gpow_add, Int.add_left_neg, show gpow 0 = 1 by decide +kernel, scaleL_one]

/-- A row of zeros filled: the sum is what it was, and the row's. -/
theorem foldG_set {g : Nat → List UInt8 → List UInt8} {N : Nat} (hg : ∀ k r, (g k r).length = r.length) (h0 : ∀ k, g k (zeroL N) = zeroL N) (rs : List (List UInt8)) : ∀ i k z r, i < rs.length → rs.getD i [] = zeroL N → z.length = N → r.length = N → (∀ r ∈ rs, r.length = N) → foldG g k z (rs.set i r) = xorL (foldG g k z rs) (g (k + i) r) := by
  induction rs with
  | nil => intro i k z r hi; simp at hi
  | cons s rs ih =>
    intro i k z r hi hs hz hr hall
    cases i with
    | zero =>
      have hs' : s = zeroL N := by simpa using hs
      rw [List.set_cons_zero, foldG, foldG, hs', h0, xorL_zero z N hz, xorL_comm z, foldG_lin, xorL_comm]
      rfl
    | succ i =>
      rw [List.set_cons_succ, foldG, foldG, ih i (k + 1) _ r (by simpa using hi) (by simpa using hs) (xorL_length hz ((hg _ _).trans (hall s (by simp)))) hr (fun r' h' => hall r' (by simp [h']))]
      rw [Nat.add_assoc, Nat.add_comm 1 i]
theorem set_alike {rs : List (List UInt8)} {N i : Nat} {r : List UInt8} (hall : ∀ r ∈ rs, r.length = N) (hr : r.length = N) : ∀ s ∈ rs.set i r, s.length = N := fun s hs => by
  rcases List.mem_or_eq_of_mem_set hs with h | h
  · exact hall s h
  · exact h ▸ hr
theorem sumG_set {g : Nat → List UInt8 → List UInt8} {N : Nat} (hg : ∀ k r, (g k r).length = r.length) (h0 : ∀ k, g k (zeroL N) = zeroL N) {rs : List (List UInt8)} {i : Nat} {r : List UInt8} (hi : i < rs.length) (hs : rs.getD i [] = zeroL N) (hr : r.length = N) (hall : ∀ r ∈ rs, r.length = N) : sumG g (rs.set i r) = xorL (sumG g rs) (g i r) := by
  have h1 := alikeB_of (by omega : 0 < rs.length) hall
  have h2 := alikeB_of (rs := rs.set i r) (by simp; omega) (set_alike hall hr)
  unfold sumG
  rw [if_pos h1.1, if_pos h2.1, h1.2, h2.2, foldG_set hg h0 rs i 0 _ r hi hs (zeroL_len N) hr hall, Nat.zero_add]
theorem gP_zero (N k : Nat) : gP k (zeroL N) = zeroL N := rfl
theorem gQ_zero (N k : Nat) : gQ k (zeroL N) = zeroL N := scaleL_zero _ _
theorem pB_set {N : Nat} {rs : List (List UInt8)} {i : Nat} {r : List UInt8} (hi : i < rs.length) (hs : rs.getD i [] = zeroL N) (hr : r.length = N) (hall : ∀ r ∈ rs, r.length = N) : pB (rs.set i r) = xorL (pB rs) r := sumG_set gP_len (gP_zero N) hi hs hr hall
theorem qB_set {N : Nat} {rs : List (List UInt8)} {i : Nat} {r : List UInt8} (hi : i < rs.length) (hs : rs.getD i [] = zeroL N) (hr : r.length = N) (hall : ∀ r ∈ rs, r.length = N) : qB (rs.set i r) = xorL (qB rs) (scaleL r (gpow i)) := sumG_set gQ_len (gQ_zero N) hi hs hr hall
theorem pB_len {N : Nat} {rs : List (List UInt8)} (h0 : 0 < rs.length) (hall : ∀ r ∈ rs, r.length = N) : (pB rs).length = N := (sumG_len gP_len (alikeB_of h0 hall).1).trans (alikeB_of h0 hall).2
theorem qB_len {N : Nat} {rs : List (List UInt8)} (h0 : 0 < rs.length) (hall : ∀ r ∈ rs, r.length = N) : (qB rs).length = N := (sumG_len gQ_len (alikeB_of h0 hall).1).trans (alikeB_of h0 hall).2

/-- Rows all of N bytes, the asked ones zeros. -/
structure Holed (N : Nat) (all : List (List UInt8)) (i : Nat) : Prop where
  lt : i < all.length
  zero : all.getD i [] = zeroL N
  all : ∀ r ∈ all, r.length = N
theorem byPB_len {N : Nat} {p : List UInt8} {all : List (List UInt8)} {i : Nat} (h : Holed N all i) (hp : p.length = N) : (byPB p all).length = N := by
  have hl := pB_len (by have := h.lt; omega) h.all
  unfold byPB
  rw [pB_two (hp.trans hl.symm)]
  exact xorL_length hp hl
theorem byQB_len {N : Nat} {q : List UInt8} {all : List (List UInt8)} {i : Nat} (h : Holed N all i) (hq : q.length = N) : (byQB q all i).length = N := by
  have hl := qB_len (by have := h.lt; omega) h.all
  unfold byQB
  rw [scaleL_len, pB_two (hq.trans hl.symm)]
  exact xorL_length hq hl
theorem byPB_p {N : Nat} {p : List UInt8} {all : List (List UInt8)} {i : Nat} (h : Holed N all i) (hp : p.length = N) : pB (all.set i (byPB p all)) = p := by
  have hl := pB_len (by have := h.lt; omega) h.all
  rw [pB_set h.lt h.zero (byPB_len h hp) h.all]
  unfold byPB
  rw [pB_two (hp.trans hl.symm), xorL_comm p, xorL_left (hl.trans hp.symm)]
theorem byQB_q {N : Nat} {q : List UInt8} {all : List (List UInt8)} {i : Nat} (h : Holed N all i) (hq : q.length = N) : qB (all.set i (byQB q all i)) = q := by
  have hl := qB_len (by have := h.lt; omega) h.all
  rw [qB_set h.lt h.zero (byQB_len h hq) h.all]
  unfold byQB
  rw [(gpow_neg i _).2, pB_two (hq.trans hl.symm), xorL_comm q, xorL_left (hl.trans hq.symm)]
/-- One is what its sum asks, and only that. -/
theorem byPB_only {N : Nat} {all : List (List UInt8)} {i : Nat} (h : Holed N all i) {r : List UInt8} (hr : r.length = N) : byPB (pB (all.set i r)) all = r := by
  have hl := pB_len (by have := h.lt; omega) h.all
  unfold byPB
  rw [pB_set h.lt h.zero hr h.all, pB_two ((xorL_length hl hr).trans hl.symm), xorL_comm, xorL_left (hl.trans hr.symm)]
theorem byQB_only {N : Nat} {all : List (List UInt8)} {i : Nat} (h : Holed N all i) {r : List UInt8} (hr : r.length = N) : byQB (qB (all.set i r)) all i = r := by
  have hl := qB_len (by have := h.lt; omega) h.all
  have hr' : (scaleL r (gpow i)).length = N := (scaleL_len _ _).trans hr
  unfold byQB
  rw [qB_set h.lt h.zero hr h.all, pB_two ((xorL_length hl hr').trans hl.symm), xorL_comm, xorL_left (hl.trans hr'.symm), (gpow_neg i r).1]

section
variable {N : Nat} {p q : List UInt8} {all : List (List UInt8)} {i j : Nat}
theorem both_shape (hi : Holed N all i) (hp : p.length = N) (hq : q.length = N) :
    bothB p q all i j = scaleL (xorL (xorL q (qB all)) (scaleL (xorL p (pB all)) (gpow i))) (ginv (gpow i ^^^ gpow j)) ∧ (bothB p q all i j).length = N ∧ bothA p q all i j = xorL (xorL p (pB all)) (bothB p q all i j) ∧ (bothA p q all i j).length = N := by
  have hl := pB_len (by have := hi.lt; omega) hi.all
  have hm := qB_len (by have := hi.lt; omega) hi.all
  have h1 := xorL_length hp hl
  have h2 := xorL_length hq hm
  have h3 : (scaleL (xorL p (pB all)) (gpow i)).length = N := (scaleL_len _ _).trans h1
  have e : bothB p q all i j = scaleL (xorL (xorL q (qB all)) (scaleL (xorL p (pB all)) (gpow i))) (ginv (gpow i ^^^ gpow j)) := by
    unfold bothB
    rw [pB_two (hp.trans hl.symm), pB_two (hq.trans hm.symm), pB_two (h2.trans h3.symm)]
  have hb : (bothB p q all i j).length = N := by rw [e, scaleL_len]; exact xorL_length h2 h3
  have e2 : bothA p q all i j = xorL (xorL p (pB all)) (bothB p q all i j) := by
    unfold bothA
    rw [pB_two (hp.trans hl.symm), pB_two (h1.trans hb.symm)]
  exact ⟨e, hb, e2, by rw [e2]; exact xorL_length h1 hb⟩
theorem holed_set (hi : Holed N all i) (hj : Holed N all j) (hne : i ≠ j) {r : List UInt8} (hr : r.length = N) : Holed N (all.set i r) j :=
  ⟨by simpa using hj.lt, by
    have := hj.zero
    simpa [List.getElem?_set_ne hne] using this, set_alike hi.all hr⟩
theorem both_p (hi : Holed N all i) (hj : Holed N all j) (hne : i ≠ j) (hp : p.length = N) (hq : q.length = N) : pB ((all.set i (bothA p q all i j)).set j (bothB p q all i j)) = p := by
  obtain ⟨_, hb, e2, ha⟩ := both_shape (j := j) hi hp hq
  have hl := pB_len (by have := hi.lt; omega) hi.all
  have hh := holed_set hi hj hne ha
  rw [pB_set hh.lt hh.zero hb hh.all, pB_set hi.lt hi.zero ha hi.all, e2, xorL_assoc, xorL_cancel ((xorL_length hp hl).trans hb.symm), xorL_comm p, xorL_left (hl.trans hp.symm)]
theorem both_q (hi : Holed N all i) (hj : Holed N all j) (hne : i ≠ j) (hi8 : i < 255) (hj8 : j < 255) (hp : p.length = N) (hq : q.length = N) : qB ((all.set i (bothA p q all i j)).set j (bothB p q all i j)) = q := by
  obtain ⟨e1, hb, e2, ha⟩ := both_shape (j := j) hi hp hq
  have hl := pB_len (by have := hi.lt; omega) hi.all
  have hm := qB_len (by have := hi.lt; omega) hi.all
  have hh := holed_set hi hj hne ha
  have h1 := xorL_length hp hl
  have h2 := xorL_length hq hm
  have h3 : (scaleL (xorL p (pB all)) (gpow i)).length = N := (scaleL_len _ _).trans h1
  rw [qB_set hh.lt hh.zero hb hh.all, qB_set hi.lt hi.zero ha hi.all, e2, scaleL_xorL, xorL_assoc, xorL_assoc, ← scaleL_xor _ (gpow_lt _) (gpow_lt _), e1]
  rw [scaleL_back _ (xor_lt8 (gpow_lt _) (gpow_lt _)) (gpow_dif hi8 hj8 hne), xorL_comm (xorL q (qB all)), xorL_left (h3.trans h2.symm), xorL_comm q, xorL_left (hm.trans hq.symm)]
/-- Two are what both sums ask, and only that. -/
theorem both_only (hi : Holed N all i) (hj : Holed N all j) (hne : i ≠ j) (hi8 : i < 255) (hj8 : j < 255) {a b : List UInt8} (ha : a.length = N) (hb : b.length = N) :
    bothB (pB ((all.set i a).set j b)) (qB ((all.set i a).set j b)) all i j = b ∧ bothA (pB ((all.set i a).set j b)) (qB ((all.set i a).set j b)) all i j = a := by
  have hl := pB_len (by have := hi.lt; omega) hi.all
  have hm := qB_len (by have := hi.lt; omega) hi.all
  have hh := holed_set hi hj hne ha
  have hfa : (scaleL a (gpow i)).length = N := (scaleL_len _ _).trans ha
  have hfb : (scaleL b (gpow i)).length = N := (scaleL_len _ _).trans hb
  have hgb : (scaleL b (gpow j)).length = N := (scaleL_len _ _).trans hb
  have hab := xorL_length ha hb
  have hp : (pB ((all.set i a).set j b)).length = N := pB_len (by simp; have := hi.lt; omega) (set_alike hh.all hb)
  have hq : (qB ((all.set i a).set j b)).length = N := qB_len (by simp; have := hi.lt; omega) (set_alike hh.all hb)
  obtain ⟨e1, _, e2, _⟩ := both_shape (j := j) hi hp hq
  have ep : xorL (pB ((all.set i a).set j b)) (pB all) = xorL a b := by
    rw [pB_set hh.lt hh.zero hb hh.all, pB_set hi.lt hi.zero ha hi.all, xorL_assoc (pB all), xorL_comm, xorL_left (hl.trans hab.symm)]
  have eq : xorL (qB ((all.set i a).set j b)) (qB all) = xorL (scaleL a (gpow i)) (scaleL b (gpow j)) := by
    rw [qB_set hh.lt hh.zero hb hh.all, qB_set hi.lt hi.zero ha hi.all, xorL_assoc (qB all), xorL_comm, xorL_left (hm.trans (xorL_length hfa hgb).symm)]
  rw [ep, eq, scaleL_xorL a b] at e1
  have e3 : xorL (xorL (scaleL a (gpow i)) (scaleL b (gpow j))) (xorL (scaleL a (gpow i)) (scaleL b (gpow i))) = scaleL b (gpow i ^^^ gpow j) := by
    rw [scaleL_xor b (gpow_lt _) (gpow_lt _), xorL_comm (scaleL a (gpow i)) (scaleL b (gpow j)), xorL_assoc, xorL_left (hfa.trans hfb.symm), xorL_comm]
  rw [e3, scaleL_forth _ (xor_lt8 (gpow_lt _) (gpow_lt _)) (gpow_dif hi8 hj8 hne)] at e1
  exact ⟨e1, by rw [e2, e1, ep, xorL_cancel (ha.trans hb.symm)]⟩
end
end Go.Proofs.Ytfbfodcjfcnfoaa
