/- Texts put together: RowMath, RowCount. -/
import Derived.Test.YtpaegibaikpikaaSbad
import Derived.Test.YtpaegibaikpikaaSbac
section
set_option linter.unusedVariables false
set_option linter.unusedSimpArgs false
namespace Go.Proofs.Ytpaegibaikpikaa

/-- The disk of part k (the data, then P, then Q); the part that a disk has. -/
def roS (D F k : Nat) : Nat := if F + k < D then F + k else F + k - D
def roI (D F i : Nat) : Nat := if F ≤ i then i - F else i + D - F
theorem roS_lt {D F k : Nat} (hF : F < D) (hk : k < D) : roS D F k < D := by unfold roS; split <;> omega
theorem roI_lt {D F i : Nat} (hF : F < D) (hi : i < D) : roI D F i < D := by unfold roI; split <;> omega
theorem roI_roS {D F k : Nat} (hF : F < D) (hk : k < D) : roI D F (roS D F k) = k := by unfold roI roS; split <;> split <;> omega
theorem roS_roI {D F i : Nat} (hF : F < D) (hi : i < D) : roS D F (roI D F i) = i := by unfold roI roS; split <;> split <;> omega
theorem roS_inj {D F j k : Nat} (hF : F < D) (hj : j < D) (hk : k < D) (h : roS D F j = roS D F k) : j = k := by
  rw [← roI_roS hF hj, h, roI_roS hF hk]
/-- All parts: data, P, Q. -/
def allL (rs : List (List UInt8)) : List (List UInt8) := rs ++ [pB rs, qB rs]
theorem allL_data {rs : List (List UInt8)} {k : Nat} (hk : k < rs.length) : (allL rs).getD k [] = rs.getD k [] := by
  simp [allL, List.getD_eq_getElem?_getD, List.getElem?_append_left hk]
theorem allL_p (rs : List (List UInt8)) : (allL rs).getD rs.length [] = pB rs := by
  simp [allL, List.getD_eq_getElem?_getD, List.getElem?_append_right]
theorem allL_q (rs : List (List UInt8)) : (allL rs).getD (rs.length + 1) [] = qB rs := by
  simp [allL, List.getD_eq_getElem?_getD, List.getElem?_append_right]
/-- The disks' sectors as far as part k. -/
def fillTo2 (D F : Nat) (rs : List (List UInt8)) (k : Nat) : List (List UInt8) := (List.range D).map fun i => if roI D F i < k then (allL rs).getD (roI D F i) [] else []
def fillL (D F : Nat) (rs : List (List UInt8)) : List (List UInt8) := fillTo2 D F rs D
theorem fillTo2_len (D F : Nat) (rs : List (List UInt8)) (k : Nat) : (fillTo2 D F rs k).length = D := by simp [fillTo2]
theorem fillL_len (D F : Nat) (rs : List (List UInt8)) : (fillL D F rs).length = D := fillTo2_len _ _ _ _
theorem fillTo2_get {D F : Nat} {rs : List (List UInt8)} {k i : Nat} (hi : i < D) : (fillTo2 D F rs k).getD i [] = if roI D F i < k then (allL rs).getD (roI D F i) [] else [] := by
  simp [fillTo2, List.getD_eq_getElem?_getD, hi]
theorem fillL_get {D F : Nat} {rs : List (List UInt8)} {i : Nat} (hF : F < D) (hi : i < D) : (fillL D F rs).getD i [] = (allL rs).getD (roI D F i) [] := by
  unfold fillL
  rw [fillTo2_get hi, if_pos (roI_lt hF hi)]
theorem fillL_at {D F : Nat} {rs : List (List UInt8)} {k : Nat} (hF : F < D) (hk : k < D) : (fillL D F rs).getD (roS D F k) [] = (allL rs).getD k [] := by
  rw [fillL_get hF (roS_lt hF hk), roI_roS hF hk]
theorem fillTo2_zero (D F : Nat) (rs : List (List UInt8)) : fillTo2 D F rs 0 = List.replicate D [] := by
  apply List.ext_getElem (by simp [fillTo2])
  intro i h1 h2
  simp [fillTo2]
theorem fillTo2_succ {D F : Nat} {rs : List (List UInt8)} {k : Nat} (hF : F < D) (hk : k < D) : (fillTo2 D F rs k).set (roS D F k) ((allL rs).getD k []) = fillTo2 D F rs (k + 1) := by
  apply ext_getD (by rw [List.length_set, fillTo2_len, fillTo2_len])
  intro i hi
  rw [List.length_set, fillTo2_len] at hi
  rw [fillTo2_get hi]
  by_cases e : roS D F k = i
  · subst e
    rw [getD_set_same (by rw [fillTo2_len]; exact hi), roI_roS hF hk, if_pos (by omega)]
  · rw [getD_set_other e, fillTo2_get hi]
    have hne : roI D F i ≠ k := fun h => e (by rw [← h]; exact roS_roI hF hi)
    by_cases h : roI D F i < k
    · rw [if_pos h, if_pos (by omega)]
    · rw [if_neg h, if_neg (by omega)]

/-- Which geometry, which row: the disk of data chunk 0, how many disks, how many of data. -/
def roF (l d c r : Int) : Nat := (plF l d c r).toNat
def roD (d : Int) : Nat := d.toNat
def roW (l d : Int) : Nat := (d - (l - 4)).toNat
structure Ro (l d c r : Int) : Prop where
  hF : roF l d c r < roD d
  hW : roW l d < roD d
  w1 : 1 ≤ roW l d
  w7 : roW l d ≤ 7
  d8 : roD d ≤ 8
  d3 : 3 ≤ roD d
  dd : ((roD d : Nat) : Int) = d
  wd : gWid l d c = ((roW l d : Nat) : Int)
  lv : (l = 5 ∧ roD d = roW l d + 1) ∨ (l = 6 ∧ roD d = roW l d + 2)
  pP : plP l d c r = ((roS (roD d) (roF l d c r) (roW l d) : Nat) : Int)
  pQ : plQ l d c r = if l = 6 then ((roS (roD d) (roF l d c r) (roW l d + 1) : Nat) : Int) else -1
  pD : ∀ k : Nat, k < roW l d → plD l d c r (k : Int) = ((roS (roD d) (roF l d c r) k : Nat) : Int)
theorem emod_two {x d : Int} (h0 : 0 ≤ x) (h1 : x < d + d) : x % d = if x < d then x else x - d := by
  split
  · exact Int.emod_eq_of_lt h0 (by omega)
  · have h : x = (x - d) + d := by omega
    rw [h, Int.add_emod_right]
    rw [Int.emod_eq_of_lt (by omega) (by omega)]
    omega
theorem emod_sub {x d : Int} (h0 : -d ≤ x) (h1 : x < 0) : x % d = x + d := by
  rw [← Int.add_emod_right, Int.emod_eq_of_lt (by omega) (by omega)]
theorem ro_of {l d c r : Int} (h : plOk l d c r = true) : Ro l d c r := by
  obtain ⟨hg, h0, h1⟩ := plOk_yes h
  have hb := gOk_bd hg
  have hl := (gOk_yes hg).1
  have hp := plP_yes h
  have hm := rem_bd (r / c) (show 1 ≤ d by omega)
  have hF := plF_bd l c r (show 1 ≤ d by omega)
  have hFe : plF l d c r = (d - 1 - r / c % d + (l - 4)) % d := rfl
  have hFe2 := emod_two (x := d - 1 - r / c % d + (l - 4)) (d := d) (by omega) (by omega)
  rw [hFe2] at hFe
  have e1 : ((roD d : Nat) : Int) = d := by unfold roD; omega
  have e2 : ((roF l d c r : Nat) : Int) = plF l d c r := by unfold roF; omega
  have e3 : ((roW l d : Nat) : Int) = d - (l - 4) := by unfold roW; omega
  have hroS : ∀ k : Nat, k < roD d → ((roS (roD d) (roF l d c r) k : Nat) : Int) = (plF l d c r + k) % d := fun k hk => by
    rw [emod_two (by omega) (by omega)]
    unfold roS
    split <;> split <;> omega
  refine ⟨by omega, by omega, by omega, by omega, by omega, by omega, e1, by rw [gWid_yes hg, e3], ?_, ?_, ?_, ?_⟩
  · rcases hl with h | h
    · exact .inl ⟨h.1, by omega⟩
    · exact .inr ⟨h.1, by omega⟩
  · rw [hp, hroS _ (by omega)]
    generalize r / c % d = q at hm hFe ⊢
    generalize plF l d c r = f at hF hFe ⊢
    clear hFe2 hroS
    rw [emod_two (by omega) (by omega)]
    split at hFe <;> split <;> omega
  · by_cases h6 : l = 6
    · rw [if_pos h6, hroS _ (by omega)]
      subst h6
      rw [plQ_6 h]
      generalize r / c % d = q at hm hFe ⊢
      generalize plF 6 d c r = f at hF hFe ⊢
      clear hFe2 hroS
      rw [emod_two (by omega) (by omega), emod_two (by omega) (by omega)]
      split at hFe <;> split <;> split <;> omega
    · rw [if_neg h6]
      obtain rfl : l = 5 := by omega
      exact plQ_5
  · intro k hk
    rw [hroS k (by omega), plD_yes (plDok_mk h (by omega) (by omega))]

def fillOk (l d c r : Int) (rs : List (List UInt8)) : Bool := plOk l d c r && (decide (rs.length = roW l d) && rs.all fun x => x.length == 32)
def roFill (l d c r : Int) (rs : List (List UInt8)) : Option (List (List UInt8)) := if fillOk l d c r rs = true then some (fillL (roD d) (roF l d c r) rs) else none
/-- The data chunks' sectors of the disks' ones. -/
def dataL (l d c r : Int) (xs : List (List UInt8)) : List (List UInt8) := (List.range (roW l d)).map fun k => xs.getD (roS (roD d) (roF l d c r) k) []
def parL (l d c r : Int) (xs : List (List UInt8)) : List UInt8 := xs.getD (roS (roD d) (roF l d c r) (roW l d)) []
def parQ (l d c r : Int) (xs : List (List UInt8)) : List UInt8 := if l = 6 then xs.getD (roS (roD d) (roF l d c r) (roW l d + 1)) [] else []
def roTake (l d c r : Int) (xs : List (List UInt8)) : Option (List (List UInt8)) :=
  if (plOk l d c r && decide (xs.length = roD d)) = true then solveB 32 (parL l d c r xs) (parQ l d c r xs) (dataL l d c r xs) else none
def roRight (l d c r : Int) (xs : List (List UInt8)) : Bool :=
  match roTake l d c r xs with
  | none => false
  | some rs => decide (roFill l d c r rs = some xs)
theorem fillOk_yes {l d c r : Int} {rs : List (List UInt8)} (h : fillOk l d c r rs = true) : plOk l d c r = true ∧ rs.length = roW l d ∧ ∀ x ∈ rs, x.length = 32 := by
  unfold fillOk at h
  simp only [Bool.and_eq_true, decide_eq_true_eq, List.all_eq_true, beq_iff_eq] at h
  exact ⟨h.1, h.2.1, h.2.2⟩
theorem fillOk_mk {l d c r : Int} {rs : List (List UInt8)} (h : plOk l d c r = true) (hl : rs.length = roW l d) (ha : ∀ x ∈ rs, x.length = 32) : fillOk l d c r rs = true := by
  unfold fillOk
  simp only [Bool.and_eq_true, decide_eq_true_eq, List.all_eq_true, beq_iff_eq]
  exact ⟨h, hl, ha⟩
theorem roFill_yes {l d c r : Int} {rs : List (List UInt8)} (h : fillOk l d c r rs = true) : roFill l d c r rs = some (fillL (roD d) (roF l d c r) rs) := if_pos h
theorem roFill_no {l d c r : Int} {rs : List (List UInt8)} (h : ¬ fillOk l d c r rs = true) : roFill l d c r rs = none := if_neg h
theorem dataL_len (l d c r : Int) (xs : List (List UInt8)) : (dataL l d c r xs).length = roW l d := by simp [dataL]
theorem dataL_get {l d c r : Int} {xs : List (List UInt8)} {k : Nat} (hk : k < roW l d) : (dataL l d c r xs).getD k [] = xs.getD (roS (roD d) (roF l d c r) k) [] := by
  simp [dataL, List.getD_eq_getElem?_getD, hk]
theorem roTake_yes {l d c r : Int} {xs : List (List UInt8)} (h : plOk l d c r = true) (hl : xs.length = roD d) : roTake l d c r xs = solveB 32 (parL l d c r xs) (parQ l d c r xs) (dataL l d c r xs) := by
  unfold roTake; rw [h, decide_eq_true hl]; rfl
theorem mem_getD {rs : List (List UInt8)} {N k : Nat} (h : ∀ r ∈ rs, r.length = N) (hk : k < rs.length) : (rs.getD k []).length = N := h _ (by simp [hk])
/-- All parts have a sector's bytes. -/
theorem allL_32 {rs : List (List UInt8)} (h0 : 0 < rs.length) (h : ∀ x ∈ rs, x.length = 32) {k : Nat} (hk : k < rs.length + 2) : ((allL rs).getD k []).length = 32 := by
  by_cases h1 : k < rs.length
  · rw [allL_data h1]; exact mem_getD h h1
  · by_cases h2 : k = rs.length
    · subst h2; rw [allL_p]; exact pB_len h0 h
    · obtain rfl : k = rs.length + 1 := by omega
      rw [allL_q]; exact qB_len h0 h
/-- Of a row some of whose sectors are missing, not more than may be. -/
theorem take_back {l d c r : Int} {rs xs : List (List UInt8)} (h : fillOk l d c r rs = true) (hl : xs.length = roD d) (hx : ∀ i, i < roD d → (xs.getD i []).length = 0 ∨ xs.getD i [] = (fillL (roD d) (roF l d c r) rs).getD i [])
    (hm : (missB (dataL l d c r xs)).length ≤ 2 - (missB [parL l d c r xs, parQ l d c r xs]).length) : roTake l d c r xs = some rs := by
  obtain ⟨hk, hn, ha⟩ := fillOk_yes h
  have R := ro_of hk
  have hw1 := R.w1; have hw7 := R.w7; have hW := R.hW; have hlv := R.lv
  have at_ : ∀ k, k < roD d → (xs.getD (roS (roD d) (roF l d c r) k) []).length = 0 ∨ xs.getD (roS (roD d) (roF l d c r) k) [] = (allL rs).getD k [] := fun k hk => by
    have := hx _ (roS_lt R.hF hk)
    rwa [fillL_at R.hF hk] at this
  rw [roTake_yes hk hl]
  refine solveB_back ⟨by omega, ha, by rw [dataL_len, hn], fun k hk => ?_⟩ (by omega) (by omega) ?_ ?_ hm
  · rw [dataL_get (by omega), ← allL_data hk]; exact at_ k (by omega)
  · have := at_ (roW l d) (by omega)
    rw [← hn, allL_p, hn] at this
    exact this
  · unfold parQ
    split
    · next h6 =>
      have := at_ (roW l d + 1) (by omega)
      rw [← hn, allL_q, hn] at this
      exact this
    · exact .inl rfl
/-- Where nothing is missing all is as it is. -/
theorem missB_nil {rs : List (List UInt8)} (h : ∀ k, k < rs.length → (rs.getD k []).length = 32) : missB rs = [] := by
  apply List.eq_nil_iff_forall_not_mem.2
  intro j hj
  obtain ⟨h1, h2⟩ := missTo_mem.1 hj
  rw [h j h1] at h2
  omega
theorem solve_none {p q : List UInt8} {rs : List (List UInt8)} (h : ∀ x ∈ rs, x.length = 32) (h0 : 0 < rs.length) (h8 : rs.length ≤ 8) (hp : p.length = 0 ∨ p.length = 32) (hq : q.length = 0 ∨ q.length = 32) : solveB 32 p q rs = some rs := by
  have L : Lacks 32 rs rs := ⟨by omega, h, rfl, fun k _ => .inr rfl⟩
  have hm : missB rs = [] := missB_nil fun k hk => mem_getD h hk
  unfold solveB
  rw [L.ask hp hq, L.can h0 h8 (by rw [hm]; simp), hm]
  show some (filledB 32 rs) = some rs
  congr 1
  exact ext_getD (filledB_len _ _) fun k hk => L.filled_there (by rwa [filledB_len] at hk) (by rw [hm]; simp)
theorem take_none {l d c r : Int} {xs : List (List UInt8)} (h : plOk l d c r = true) (hl : xs.length = roD d) (hx : ∀ i, i < roD d → (xs.getD i []).length = 32) : roTake l d c r xs = some (dataL l d c r xs) := by
  have R := ro_of h
  have hw1 := R.w1; have hw7 := R.w7; have hW := R.hW; have hlv := R.lv
  rw [roTake_yes h hl]
  refine solve_none (fun x hx' => ?_) (by rw [dataL_len]; omega) (by rw [dataL_len]; omega) (.inr (hx _ (roS_lt R.hF hW))) ?_
  · obtain ⟨k, hk, rfl⟩ := List.getElem_of_mem hx'
    have hk' : k < roW l d := by rwa [dataL_len] at hk
    have := dataL_get (c := c) (r := r) (xs := xs) hk'
    rw [List.getD_eq_getElem?_getD, List.getElem?_eq_getElem hk] at this
    rw [show (dataL l d c r xs)[k] = _ from this]
    exact hx _ (roS_lt R.hF (by omega))
  · unfold parQ
    split
    · exact .inr (hx _ (roS_lt R.hF (by omega)))
    · exact .inl rfl
theorem dataL_fill {l d c r : Int} {rs : List (List UInt8)} (h : fillOk l d c r rs = true) : dataL l d c r (fillL (roD d) (roF l d c r) rs) = rs := by
  obtain ⟨hk, hn, ha⟩ := fillOk_yes h
  have R := ro_of hk
  have hW := R.hW
  refine ext_getD (by rw [dataL_len, hn]) fun k hk => ?_
  rw [dataL_len] at hk
  rw [dataL_get hk, fillL_at R.hF (by omega), allL_data (by omega)]
theorem fill_32 {l d c r : Int} {rs : List (List UInt8)} (h : fillOk l d c r rs = true) {i : Nat} (hi : i < roD d) : ((fillL (roD d) (roF l d c r) rs).getD i []).length = 32 := by
  obtain ⟨hk, hn, ha⟩ := fillOk_yes h
  have R := ro_of hk
  have hw1 := R.w1; have hlv := R.lv
  have := roI_lt R.hF hi
  rw [fillL_get R.hF hi]
  exact allL_32 (by omega) ha (by omega)
theorem row_right {l d c r : Int} {rs : List (List UInt8)} (h : fillOk l d c r rs = true) : roRight l d c r (fillL (roD d) (roF l d c r) rs) = true := by
  obtain ⟨hk, hn, ha⟩ := fillOk_yes h
  unfold roRight
  rw [take_none hk (fillL_len _ _ _) (fun i hi => fill_32 h hi), dataL_fill h]
  exact decide_eq_true (roFill_yes h)
theorem right_no {l d c r : Int} {xs : List (List UInt8)} (h : roTake l d c r xs = none) : roRight l d c r xs = false := by unfold roRight; rw [h]
/-- What Fill gives has no empty sector. -/
theorem row_missing {l d c r : Int} {xs : List (List UInt8)} {i : Nat} (hi : i < roD d) (h : (xs.getD i []).length = 0) : roRight l d c r xs = false := by
  unfold roRight
  split
  · rfl
  · next rs _ =>
    refine decide_eq_false fun e => ?_
    by_cases hf : fillOk l d c r rs = true
    · rw [roFill_yes hf] at e
      injection e with e
      have := fill_32 hf hi
      rw [e, h] at this
      omega
    · rw [roFill_no hf] at e; cases e
/-- A part of a sum, changed. -/
theorem set_set_get {rs : List (List UInt8)} {k : Nat} (y : List UInt8) : (rs.set k (zeroL 32)).set k y = rs.set k y := by simp
theorem sum_parts {g : Nat → List UInt8 → List UInt8} (hg : ∀ k r, (g k r).length = r.length) (h0 : ∀ k, g k (zeroL 32) = zeroL 32) {rs : List (List UInt8)} (ha : ∀ x ∈ rs, x.length = 32) {k : Nat} (hk : k < rs.length) :
    ∃ s : List UInt8, s.length = 32 ∧ ∀ y : List UInt8, y.length = 32 → sumG g (rs.set k y) = xorL s (g k y) := by
  have ha0 := set_alike (i := k) ha (zeroL_len 32)
  refine ⟨sumG g (rs.set k (zeroL 32)), (sumG_len hg (alikeB_of (by rw [List.length_set]; omega) ha0).1).trans (alikeB_of (by rw [List.length_set]; omega) ha0).2, fun y hy => ?_⟩
  rw [← set_set_get y]
  exact sumG_set hg h0 (by rw [List.length_set]; exact hk) (getD_set_same hk) hy ha0
theorem set_self {rs : List (List UInt8)} {k : Nat} (hk : k < rs.length) : rs.set k (rs.getD k []) = rs := ext_getD (by rw [List.length_set]) fun j hj => by
  by_cases e : k = j
  · subst e; exact getD_set_same hk
  · exact getD_set_other e
theorem xorL_mid {s x y : List UInt8} (hs : s.length = 32) (hx : x.length = 32) (hy : y.length = 32) : xorL (xorL s x) (xorL s y) = xorL x y := by
  rw [xorL_comm s x, xorL_assoc, xorL_left (hs.trans hy.symm)]
/-- One data sector changed: what all parts change by. -/
theorem change_p {rs : List (List UInt8)} (ha : ∀ x ∈ rs, x.length = 32) {k : Nat} (hk : k < rs.length) {y : List UInt8} (hy : y.length = 32) : xorL (pB rs) (pB (rs.set k y)) = xorL (rs.getD k []) y := by
  obtain ⟨s, hs, H⟩ := sum_parts gP_len (gP_zero 32) ha hk
  have h1 := H _ (mem_getD ha hk)
  rw [set_self hk] at h1
  show xorL (sumG gP rs) (sumG gP (rs.set k y)) = _
  rw [h1, H y hy]
  exact xorL_mid hs (mem_getD ha hk) hy
theorem change_q {rs : List (List UInt8)} (ha : ∀ x ∈ rs, x.length = 32) {k : Nat} (hk : k < rs.length) {y : List UInt8} (hy : y.length = 32) : xorL (qB rs) (qB (rs.set k y)) = scaleL (xorL (rs.getD k []) y) (gpow k) := by
  obtain ⟨s, hs, H⟩ := sum_parts gQ_len (gQ_zero 32) ha hk
  have h1 := H _ (mem_getD ha hk)
  rw [set_self hk] at h1
  show xorL (sumG gQ rs) (sumG gQ (rs.set k y)) = _
  rw [h1, H y hy, xorL_mid hs ((gQ_len _ _).trans (mem_getD ha hk)) ((gQ_len _ _).trans hy), scaleL_xorL]
  rfl
theorem xorL_nil_eq {x y : List UInt8} (hx : x.length = 32) (hy : y.length = 32) (h : xorL x y = zeroL 32) : y = x := by
  have := xorL_left (a := x) (b := y) (hx.trans hy.symm)
  rw [h, xorL_zero x 32 hx] at this
  exact this.symm
/-- A sector turned is found. -/
theorem row_turned {l d c r : Int} {rs : List (List UInt8)} (h : fillOk l d c r rs = true) {i : Nat} (hi : i < roD d) {y : List UInt8} (hy : y.length = 32) (hne : y ≠ (fillL (roD d) (roF l d c r) rs).getD i []) :
    roRight l d c r ((fillL (roD d) (roF l d c r) rs).set i y) = false := by
  obtain ⟨hk, hn, ha⟩ := fillOk_yes h
  have R := ro_of hk
  have hw1 := R.w1; have hlv := R.lv; have hW := R.hW; have hF := R.hF
  have hlen : ((fillL (roD d) (roF l d c r) rs).set i y).length = roD d := by rw [List.length_set, fillL_len]
  have hsame : ((fillL (roD d) (roF l d c r) rs).set i y).getD i [] = y := getD_set_same (by rw [fillL_len]; exact hi)
  unfold roRight
  rw [take_none hk hlen (fun j hj => by
    by_cases e : i = j
    · subst e; rw [hsame]; exact hy
    · rw [getD_set_other e]; exact fill_32 h hj)]
  refine decide_eq_false fun e => ?_
  have hj := roI_lt hF hi
  have hji := roS_roI hF hi
  by_cases hd : roI (roD d) (roF l d c r) i < roW l d
  · have e2 : dataL l d c r ((fillL (roD d) (roF l d c r) rs).set i y) = rs.set (roI (roD d) (roF l d c r) i) y := ext_getD (by rw [dataL_len, List.length_set, hn]) fun k hk => by
      rw [dataL_len] at hk
      rw [dataL_get hk]
      by_cases ek : roI (roD d) (roF l d c r) i = k
      · subst ek; rw [hji, hsame, getD_set_same (by omega)]
      · rw [getD_set_other (fun e3 => ek (by rw [e3]; exact roI_roS hF (by omega))), fillL_at hF (by omega), allL_data (by omega), getD_set_other ek]
    rw [e2] at e
    have hf : fillOk l d c r (rs.set (roI (roD d) (roF l d c r) i) y) = true := fillOk_mk hk (by rw [List.length_set, hn]) (set_alike ha hy)
    rw [roFill_yes hf] at e
    injection e with e
    have e3 := congrArg (fun t : List (List UInt8) => t.getD (roS (roD d) (roF l d c r) (roW l d)) []) e
    have p1 := allL_p (rs.set (roI (roD d) (roF l d c r) i) y)
    rw [List.length_set, hn] at p1
    have p2 := allL_p rs
    rw [hn] at p2
    rw [fillL_at hF hW, getD_set_other (fun e4 => by
      have := roI_roS hF hW
      rw [← e4] at this
      omega), fillL_at hF hW, p1, p2] at e3
    have hc := change_p ha (k := roI (roD d) (roF l d c r) i) (by omega) hy
    rw [e3, xorL_self, pB_len (N := 32) (by omega) ha] at hc
    refine hne ?_
    rw [fillL_get hF hi, allL_data (by omega)]
    exact xorL_nil_eq (mem_getD ha (by omega)) hy hc.symm
  · have e2 : dataL l d c r ((fillL (roD d) (roF l d c r) rs).set i y) = rs := ext_getD (by rw [dataL_len, hn]) fun k hk => by
      rw [dataL_len] at hk
      rw [dataL_get hk, getD_set_other (fun e3 => hd (by rw [e3, roI_roS hF (by omega)]; exact hk)), fillL_at hF (by omega), allL_data (by omega)]
    rw [e2, roFill_yes h] at e
    injection e with e
    have e3 := congrArg (fun t : List (List UInt8) => t.getD i []) e
    rw [hsame] at e3
    exact hne e3.symm
end Go.Proofs.Ytpaegibaikpikaa
end
section
set_option linter.unusedVariables false
set_option linter.unusedSimpArgs false
namespace Go.Proofs.Ytpaegibaikpikaa

theorem len_le_map {f : Nat → Nat} : ∀ {l1 l2 : List Nat}, l1.Nodup → (∀ a ∈ l1, ∀ b ∈ l1, f a = f b → a = b) → (∀ a ∈ l1, f a ∈ l2) → l1.length ≤ l2.length
  | [], _, _, _, _ => Nat.zero_le _
  | a :: l, l2, hn, hi, hm => by
    obtain ⟨h1, h2⟩ := List.nodup_cons.1 hn
    have ha := hm a (List.mem_cons_self ..)
    have hl := List.length_erase_of_mem ha
    have hp := List.length_pos_of_mem ha
    have := len_le_map (f := f) (l1 := l) (l2 := l2.erase (f a)) h2 (fun b hb c hc => hi b (List.mem_cons_of_mem _ hb) c (List.mem_cons_of_mem _ hc)) fun b hb =>
      (List.mem_erase_of_ne (fun e => h1 (by rw [← hi b (List.mem_cons_of_mem _ hb) a (List.mem_cons_self ..) e]; exact hb))).2 (hm b (List.mem_cons_of_mem _ hb))
    simp only [List.length_cons]
    omega
/-- How many of the first n are so. -/
def cntB (n : Nat) (b : Nat → Bool) : Nat := ((List.range n).filter b).length
theorem cntB_zero (b : Nat → Bool) : cntB 0 b = 0 := rfl
theorem cntB_succ (n : Nat) (b : Nat → Bool) : cntB (n + 1) b = if b n = true then cntB n b + 1 else cntB n b := by
  unfold cntB
  rw [List.range_succ, List.filter_append]
  by_cases h : b n = true
  · rw [if_pos h, List.filter_cons_of_pos h, List.length_append]; rfl
  · rw [if_neg h, List.filter_cons_of_neg h, List.length_append]; rfl
theorem cntB_le (n : Nat) (b : Nat → Bool) : cntB n b ≤ n := by
  have := List.length_filter_le b (List.range n)
  rw [List.length_range] at this
  exact this
theorem cntB_congr {n : Nat} {b b' : Nat → Bool} (h : ∀ i, i < n → b i = b' i) : cntB n b = cntB n b' := by
  unfold cntB
  rw [List.filter_congr fun i hi => h i (List.mem_range.1 hi)]
theorem cntB_roS {D F : Nat} (hF : F < D) (b : Nat → Bool) : cntB D b = cntB D fun k => b (roS D F k) := by
  unfold cntB
  apply Nat.le_antisymm
  · refine len_le_map (f := roI D F) (List.nodup_range.filter _) (fun i hi j hj e => ?_) fun i hi => ?_
    · have h1 := List.mem_range.1 (List.mem_filter.1 hi).1
      have h2 := List.mem_range.1 (List.mem_filter.1 hj).1
      rw [← roS_roI hF h1, e, roS_roI hF h2]
    · obtain ⟨h1, h2⟩ := List.mem_filter.1 hi
      have h1 := List.mem_range.1 h1
      refine List.mem_filter.2 ⟨List.mem_range.2 (roI_lt hF h1), ?_⟩
      rw [roS_roI hF h1]
      exact h2
  · refine len_le_map (f := roS D F) (List.nodup_range.filter _) (fun i hi j hj e => roS_inj hF (List.mem_range.1 (List.mem_filter.1 hi).1) (List.mem_range.1 (List.mem_filter.1 hj).1) e) fun i hi => ?_
    obtain ⟨h1, h2⟩ := List.mem_filter.1 hi
    exact List.mem_filter.2 ⟨List.mem_range.2 (roS_lt hF (List.mem_range.1 h1)), h2⟩
theorem cntB_none {n : Nat} {b : Nat → Bool} (h : ∀ i, i < n → b i = false) : cntB n b = 0 := by
  induction n with
  | zero => rfl
  | succ n ih => rw [cntB_succ, if_neg (by rw [h n (by omega)]; decide), ih fun i hi => h i (by omega)]
theorem cntB_one {n k : Nat} (hk : k < n) : cntB n (fun i => decide (i = k)) = 1 := by
  induction n with
  | zero => omega
  | succ n ih =>
    rw [cntB_succ]
    by_cases h : k = n
    · subst h
      rw [if_pos (by simp), cntB_none fun i hi => by simp; omega]
    · rw [if_neg (by simpa using fun e => h e.symm), ih (by omega)]

/-- Zeros. -/
theorem xorL_zz : xorL (zeroL 32) (zeroL 32) = zeroL 32 := by decide
theorem foldG_zero {g : Nat → List UInt8 → List UInt8} (h0 : ∀ k, g k (zeroL 32) = zeroL 32) : ∀ (n k : Nat), foldG g k (zeroL 32) (List.replicate n (zeroL 32)) = zeroL 32
  | 0, _ => rfl
  | n + 1, k => by rw [List.replicate_succ, foldG, h0, xorL_zz]; exact foldG_zero h0 n (k + 1)
theorem rep_mem {n : Nat} : ∀ x ∈ List.replicate n (zeroL 32), x.length = 32 := fun x hx => by rw [List.eq_of_mem_replicate hx]; rfl
theorem rep_get {n k : Nat} (h : k < n) : (List.replicate n (zeroL 32)).getD k [] = zeroL 32 := by simp [List.getD_eq_getElem?_getD, h]
theorem sumG_zero {g : Nat → List UInt8 → List UInt8} (h0 : ∀ k, g k (zeroL 32) = zeroL 32) {n : Nat} (hn : 0 < n) : sumG g (List.replicate n (zeroL 32)) = zeroL 32 := by
  have h := alikeB_of (rs := List.replicate n (zeroL 32)) (by simpa using hn) rep_mem
  unfold sumG
  rw [if_pos h.1, h.2]
  exact foldG_zero h0 n 0
theorem zeros_all {n k : Nat} (hn : 0 < n) (hk : k < n + 2) : (allL (List.replicate n (zeroL 32))).getD k [] = zeroL 32 := by
  have hl : (List.replicate n (zeroL 32)).length = n := by simp
  by_cases h1 : k < n
  · rw [allL_data (by rw [hl]; exact h1)]; exact rep_get h1
  · by_cases h2 : k = n
    · subst h2
      have := allL_p (List.replicate k (zeroL 32))
      rw [hl] at this
      rw [this]
      exact sumG_zero (gP_zero 32) hn
    · obtain rfl : k = n + 1 := by omega
      have := allL_q (List.replicate n (zeroL 32))
      rw [hl] at this
      rw [this]
      exact sumG_zero (gQ_zero 32) hn
theorem zeros_fill {D F W i : Nat} (hF : F < D) (hW : 0 < W) (hD : D ≤ W + 2) (hi : i < D) : (fillL D F (List.replicate W (zeroL 32))).getD i [] = zeroL 32 := by
  rw [fillL_get hF hi]
  have := roI_lt hF hi
  exact zeros_all hW (by omega)
/-- One of zeros set. -/
theorem set_sum {g : Nat → List UInt8 → List UInt8} (hg : ∀ k r, (g k r).length = r.length) (h0 : ∀ k, g k (zeroL 32) = zeroL 32) {n k : Nat} (hk : k < n) {s : List UInt8} (hs : s.length = 32) : sumG g ((List.replicate n (zeroL 32)).set k s) = g k s := by
  rw [sumG_set hg h0 (by simpa using hk) (rep_get hk) hs rep_mem, sumG_zero h0 (by omega), xorL_comm, xorL_zero _ 32 ((hg _ _).trans hs)]
theorem scale_ne {s : List UInt8} {k : Nat} (hne : s ≠ zeroL 32) : scaleL s (gpow (k : Int)) ≠ zeroL 32 := fun e => hne (by
  have h := (gpow_neg k s).1
  rw [e, scaleL_zero] at h
  exact h.symm)
/-- Not zeros: its own disk's, P, and Q where there is one. -/
theorem zeros_count {D F W k : Nat} {l : Int} (hF : F < D) (hk : k < W) (hlv : (l = 5 ∧ D = W + 1) ∨ (l = 6 ∧ D = W + 2)) {s : List UInt8} (hs : s.length = 32) (hne : s ≠ zeroL 32) :
    ((cntB D fun i => decide ((fillL D F ((List.replicate W (zeroL 32)).set k s)).getD i [] ≠ zeroL 32) : Nat) : Int) = l - 3 := by
  have hl : ((List.replicate W (zeroL 32)).set k s).length = W := by simp
  rw [cntB_roS hF]
  have e : cntB D (fun j => decide ((fillL D F ((List.replicate W (zeroL 32)).set k s)).getD (roS D F j) [] ≠ zeroL 32)) = cntB D fun j => decide ((allL ((List.replicate W (zeroL 32)).set k s)).getD j [] ≠ zeroL 32) :=
    cntB_congr fun j hj => by rw [fillL_at hF hj]
  have eW : cntB W (fun j => decide ((allL ((List.replicate W (zeroL 32)).set k s)).getD j [] ≠ zeroL 32)) = 1 := by
    rw [← cntB_one hk]
    refine cntB_congr fun j hj => ?_
    rw [allL_data (by rw [hl]; exact hj)]
    by_cases h : k = j
    · subst h; rw [getD_set_same (by simpa using hk)]; simp [hne]
    · rw [getD_set_other h, rep_get hj]; simpa using fun e => h e.symm
  have hp := allL_p ((List.replicate W (zeroL 32)).set k s)
  have hq := allL_q ((List.replicate W (zeroL 32)).set k s)
  rw [hl] at hp hq
  have hp2 : pB ((List.replicate W (zeroL 32)).set k s) = s := set_sum gP_len (gP_zero 32) hk hs
  have hq2 : qB ((List.replicate W (zeroL 32)).set k s) = scaleL s (gpow (k : Int)) := set_sum gQ_len (gQ_zero 32) hk hs
  rw [hp2] at hp
  rw [hq2] at hq
  rw [e]
  rcases hlv with ⟨rfl, rfl⟩ | ⟨rfl, rfl⟩
  · rw [cntB_succ, if_pos (by rw [hp]; exact decide_eq_true hne), eW]; rfl
  · rw [cntB_succ, if_pos (by rw [hq]; exact decide_eq_true (scale_ne hne)), cntB_succ, if_pos (by rw [hp]; exact decide_eq_true hne), eW]; rfl
end Go.Proofs.Ytpaegibaikpikaa
end
