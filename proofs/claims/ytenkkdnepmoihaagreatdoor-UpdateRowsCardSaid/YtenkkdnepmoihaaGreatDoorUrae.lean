/- Texts put together: PlaceMath, PlaceBackMath, PlaceAll, EraseBack, RowMath, Geo, Place. -/
import Derived.Test.YtenkkdnepmoihaaGreatDoorUrad
import Derived.Test.YtenkkdnepmoihaaGreatDoorProg
import Derived.Test.YtenkkdnepmoihaaGreatDoorUraa
section
namespace Go.Proofs.YtenkkdnepmoihaaGreatDoor

/-- A row of a geometry that may be. -/
def plOk (l d c r : Int) : Bool := gOk l d c && decide (0 ≤ r ∧ r < 16)
def plP (l d c r : Int) : Int := if plOk l d c r = true then d - 1 - r / c % d else -1
def plQ (l d c r : Int) : Int := if plOk l d c r = true then (if l = 6 then (d - 1 - r / c % d + 1) % d else -1) else -1
/-- The disk of data chunk 0. -/
def plF (l d c r : Int) : Int := (d - 1 - r / c % d + (l - 4)) % d
def plDok (l d c r k : Int) : Bool := plOk l d c r && decide (0 ≤ k ∧ k < gWid l d c)
def plD (l d c r k : Int) : Int := if plDok l d c r k = true then (plF l d c r + k) % d else -1
def plOfOk (l d c n : Int) : Bool := decide (0 ≤ n ∧ n < gCap l d c)
def plRow (l d c n : Int) : Int := n / c / (d - (l - 4)) * c + n % c
def plOfD (l d c n : Int) : Int := if plOfOk l d c n = true then plD l d c (plRow l d c n) (n / c % (d - (l - 4))) else 0
def plOfR (l d c n : Int) : Int := if plOfOk l d c n = true then plRow l d c n else 0
def plN (l d c r k : Int) : Int := (r / c * (d - (l - 4)) + k) * c + r % c
def plNums (l d c r : Int) : List Int := if plOk l d c r = true then (List.range (d - (l - 4)).toNat).map (fun k : Nat => plN l d c r (k : Int)) else []
def plBOk (l d c i r : Int) : Bool := plOk l d c r && decide (0 ≤ i ∧ i < d)
def plBk (l d c i r : Int) : Int := if plBOk l d c i r = true then (if i = plP l d c r then 1 else if i = plQ l d c r then 2 else 0) else 0
def plK (l d c i r : Int) : Int := (i - plF l d c r + d) % d
def plBn (l d c i r : Int) : Int := if plBOk l d c i r = true then (if i = plP l d c r then 0 else if i = plQ l d c r then 0 else plN l d c r (plK l d c i r)) else 0

theorem plOk_yes {l d c r : Int} (h : plOk l d c r = true) : gOk l d c = true ∧ 0 ≤ r ∧ r < 16 := by
  simp [plOk] at h
  exact h
theorem plOk_mk {l d c r : Int} (h : gOk l d c = true) (h0 : 0 ≤ r) (h1 : r < 16) : plOk l d c r = true := by
  simp [plOk, h, h0, h1]
theorem plOk_no {l d c r : Int} (h : ¬ (gOk l d c = true ∧ 0 ≤ r ∧ r < 16)) : plOk l d c r = false := by
  rw [← Bool.not_eq_true]; intro h'; exact h (plOk_yes h')
theorem plDok_yes {l d c r k : Int} (h : plDok l d c r k = true) : plOk l d c r = true ∧ 0 ≤ k ∧ k < gWid l d c := by
  simp [plDok] at h
  exact h
theorem plOfOk_yes {l d c n : Int} (h : plOfOk l d c n = true) : 0 ≤ n ∧ n < gCap l d c := by
  simpa [plOfOk] using h
theorem plOfOk_no {l d c n : Int} (h : ¬ (0 ≤ n ∧ n < gCap l d c)) : plOfOk l d c n = false := by
  rw [← Bool.not_eq_true]; intro h'; exact h (plOfOk_yes h')
theorem plP_yes {l d c r : Int} (h : plOk l d c r = true) : plP l d c r = d - 1 - r / c % d := if_pos h
theorem plP_no {l d c r : Int} (h : plOk l d c r = false) : plP l d c r = -1 := if_neg (by rw [h]; decide)
theorem plQ_6 {d c r : Int} (h : plOk 6 d c r = true) : plQ 6 d c r = (d - 1 - r / c % d + 1) % d := by rw [plQ, if_pos h, if_pos rfl]
theorem plQ_5 {d c r : Int} : plQ 5 d c r = -1 := by unfold plQ; split <;> simp
theorem plQ_no {l d c r : Int} (h : plOk l d c r = false) : plQ l d c r = -1 := if_neg (by rw [h]; decide)
theorem plD_yes {l d c r k : Int} (h : plDok l d c r k = true) : plD l d c r k = (plF l d c r + k) % d := if_pos h
/-- Quotients of rows, and of numbers, by a chunk's size. -/
theorem quo_bd {r c : Int} (n : Int) (h0 : 0 ≤ r) (h1 : r < n) (hc : 1 ≤ c) : 0 ≤ r / c ∧ r / c < n := by
  have a := Int.ediv_nonneg h0 (show 0 ≤ c by omega)
  have b := Int.ediv_le_self c h0
  omega
theorem rem_bd (r : Int) {d : Int} (hd : 1 ≤ d) : 0 ≤ r % d ∧ r % d < d := ⟨Int.emod_nonneg _ (by omega), Int.emod_lt_of_pos _ (by omega)⟩
theorem plF_bd (l c r : Int) {d : Int} (hd : 1 ≤ d) : 0 ≤ plF l d c r ∧ plF l d c r < d := rem_bd _ hd
theorem gCap_yes {l d c : Int} (h : gOk l d c = true) : gCap l d c = (d - (l - 4)) * 16 := by rw [gCap, gWid_yes h]
theorem gCap_no {l d c : Int} (h : gOk l d c = false) : gCap l d c = 0 := by rw [gCap, gWid_no h]; rfl
theorem gCap_bd (l d c : Int) : 0 ≤ gCap l d c ∧ gCap l d c ≤ 112 := by
  have := gWid_bd l d c
  unfold gCap; omega
theorem plOfOk_ok {l d c n : Int} (h : plOfOk l d c n = true) : gOk l d c = true := by
  cases hg : gOk l d c
  · have := plOfOk_yes h
    rw [gCap_no hg] at this
    omega
  · rfl
end Go.Proofs.YtenkkdnepmoihaaGreatDoor
end
section
namespace Go.Proofs.YtenkkdnepmoihaaGreatDoor

/-- A level and so many disks, one by one. -/
theorem ld_cases {l d c : Int} (h : gOk l d c = true) : (l = 5 ∧ d = 3) ∨ (l = 5 ∧ d = 4) ∨ (l = 5 ∧ d = 5) ∨ (l = 5 ∧ d = 6) ∨ (l = 5 ∧ d = 7) ∨ (l = 5 ∧ d = 8) ∨ (l = 6 ∧ d = 4) ∨ (l = 6 ∧ d = 5) ∨ (l = 6 ∧ d = 6) ∨ (l = 6 ∧ d = 7) ∨ (l = 6 ∧ d = 8) := by
  obtain ⟨h1, h8, _⟩ := gOk_yes h
  rcases h1 with ⟨rfl, h3⟩ | ⟨rfl, h4⟩
  · have hd : d = 3 ∨ d = 4 ∨ d = 5 ∨ d = 6 ∨ d = 7 ∨ d = 8 := by omega
    rcases hd with rfl | rfl | rfl | rfl | rfl | rfl <;> simp
  · have hd : d = 4 ∨ d = 5 ∨ d = 6 ∨ d = 7 ∨ d = 8 := by omega
    rcases hd with rfl | rfl | rfl | rfl | rfl <;> simp
theorem plK_only {l d c i r k : Int} (h : plDok l d c r k = true) (he : plD l d c r k = i) : k = plK l d c i r := by
  obtain ⟨hk, h0, h1⟩ := plDok_yes h
  obtain ⟨hg, _, _⟩ := plOk_yes hk
  have hf := plF_bd l c r (show 1 ≤ d by have := gOk_bd hg; omega)
  rw [plD_yes h] at he
  rw [gWid_yes hg] at h1
  unfold plK
  generalize plF l d c r = f at hf he
  subst he
  rcases ld_cases hg with ⟨rfl, rfl⟩ | ⟨rfl, rfl⟩ | ⟨rfl, rfl⟩ | ⟨rfl, rfl⟩ | ⟨rfl, rfl⟩ | ⟨rfl, rfl⟩ | ⟨rfl, rfl⟩ | ⟨rfl, rfl⟩ | ⟨rfl, rfl⟩ | ⟨rfl, rfl⟩ | ⟨rfl, rfl⟩ <;> omega
end Go.Proofs.YtenkkdnepmoihaaGreatDoor
end
section
namespace Go.Proofs.YtenkkdnepmoihaaGreatDoor

theorem wd_cases {l d c : Int} (h : gOk l d c = true) : (d - (l - 4) = 2 ∨ d - (l - 4) = 3 ∨ d - (l - 4) = 4 ∨ d - (l - 4) = 5 ∨ d - (l - 4) = 6 ∨ d - (l - 4) = 7) ∧ (c = 1 ∨ c = 2 ∨ c = 4) := by
  obtain ⟨h1, h8, hc⟩ := gOk_yes h
  refine ⟨?_, hc⟩
  omega
/-- The place of a sector: its row, its data chunk; and the number that stands there. -/
theorem of_row {l d c n : Int} (hg : gOk l d c = true) (h0 : 0 ≤ n) (h1 : n < gCap l d c) :
    0 ≤ plRow l d c n ∧ plRow l d c n < 16 ∧ 0 ≤ n / c % (d - (l - 4)) ∧ n / c % (d - (l - 4)) < d - (l - 4) ∧ plRow l d c n / c = n / c / (d - (l - 4)) ∧ plN l d c (plRow l d c n) (n / c % (d - (l - 4))) = n := by
  obtain ⟨hw, hc⟩ := wd_cases hg
  rw [gCap_yes hg] at h1
  unfold plN plRow
  generalize d - (l - 4) = wd at hw h1
  rcases hw with rfl | rfl | rfl | rfl | rfl | rfl <;> rcases hc with rfl | rfl | rfl <;> omega
/-- The number in a row, of a data chunk: its place is there. -/
theorem num_row {l d c r k : Int} (h : plDok l d c r k = true) : 0 ≤ plN l d c r k ∧ plN l d c r k < gCap l d c ∧ plRow l d c (plN l d c r k) = r ∧ plN l d c r k / c % (d - (l - 4)) = k := by
  obtain ⟨hk, k0, k1⟩ := plDok_yes h
  obtain ⟨hg, r0, r1⟩ := plOk_yes hk
  obtain ⟨hw, hc⟩ := wd_cases hg
  rw [gWid_yes hg] at k1
  rw [gCap_yes hg]
  unfold plN plRow
  generalize d - (l - 4) = wd at hw k1
  rcases hw with rfl | rfl | rfl | rfl | rfl | rfl <;> rcases hc with rfl | rfl | rfl <;> omega
theorem plDok_mk {l d c r k : Int} (h : plOk l d c r = true) (k0 : 0 ≤ k) (k1 : k < d - (l - 4)) : plDok l d c r k = true := by
  unfold plDok
  rw [h, gWid_yes (plOk_yes h).1, decide_eq_true ⟨k0, k1⟩]; rfl
/-- Data stands on no disk of parity. -/
theorem data_ne {l d c r k : Int} (h : plDok l d c r k = true) : 0 ≤ plD l d c r k ∧ plD l d c r k < d ∧ plD l d c r k ≠ plP l d c r ∧ plD l d c r k ≠ plQ l d c r := by
  obtain ⟨hk, k0, k1⟩ := plDok_yes h
  obtain ⟨hg, _, _⟩ := plOk_yes hk
  have hm := rem_bd (r / c) (show 1 ≤ d by have := gOk_bd hg; omega)
  rw [plD_yes h, plP_yes hk]
  rw [gWid_yes hg] at k1
  unfold plQ plF
  rw [if_pos hk]
  generalize r / c % d = m at hm
  rcases ld_cases hg with ⟨rfl, rfl⟩ | ⟨rfl, rfl⟩ | ⟨rfl, rfl⟩ | ⟨rfl, rfl⟩ | ⟨rfl, rfl⟩ | ⟨rfl, rfl⟩ | ⟨rfl, rfl⟩ | ⟨rfl, rfl⟩ | ⟨rfl, rfl⟩ | ⟨rfl, rfl⟩ | ⟨rfl, rfl⟩ <;> simp <;> omega
theorem parity_in {l d c r : Int} (hk : plOk l d c r = true) : 0 ≤ plP l d c r ∧ plP l d c r < d ∧ (l = 5 → plQ l d c r = -1) ∧ (l = 6 → 0 ≤ plQ l d c r ∧ plQ l d c r < d ∧ plQ l d c r ≠ plP l d c r) := by
  obtain ⟨hg, _, _⟩ := plOk_yes hk
  have hm := rem_bd (r / c) (show 1 ≤ d by have := gOk_bd hg; omega)
  rw [plP_yes hk]
  unfold plQ
  rw [if_pos hk]
  generalize r / c % d = m at hm
  rcases ld_cases hg with ⟨rfl, rfl⟩ | ⟨rfl, rfl⟩ | ⟨rfl, rfl⟩ | ⟨rfl, rfl⟩ | ⟨rfl, rfl⟩ | ⟨rfl, rfl⟩ | ⟨rfl, rfl⟩ | ⟨rfl, rfl⟩ | ⟨rfl, rfl⟩ | ⟨rfl, rfl⟩ | ⟨rfl, rfl⟩ <;> simp <;> omega
/-- What stands at data's place. -/
theorem back_data {l d c r k : Int} (h : plDok l d c r k = true) : plBOk l d c (plD l d c r k) r = true ∧ plBk l d c (plD l d c r k) r = 0 ∧ plBn l d c (plD l d c r k) r = plN l d c r k := by
  obtain ⟨a, b, e1, e2⟩ := data_ne h
  have hk := (plDok_yes h).1
  have hb : plBOk l d c (plD l d c r k) r = true := by unfold plBOk; rw [hk, decide_eq_true ⟨a, b⟩]; rfl
  refine ⟨hb, ?_, ?_⟩
  · unfold plBk; rw [if_pos hb, if_neg e1, if_neg e2]
  · unfold plBn; rw [if_pos hb, if_neg e1, if_neg e2, ← plK_only h rfl]
theorem of_yes {l d c n : Int} (hg : gOk l d c = true) (h0 : 0 ≤ n) (h1 : n < gCap l d c) :
    plOfOk l d c n = true ∧ plOfR l d c n = plRow l d c n ∧ plOfD l d c n = plD l d c (plRow l d c n) (n / c % (d - (l - 4))) ∧ plDok l d c (plRow l d c n) (n / c % (d - (l - 4))) = true := by
  obtain ⟨a, b, k0, k1, _, _⟩ := of_row hg h0 h1
  have hok : plOfOk l d c n = true := decide_eq_true ⟨h0, h1⟩
  exact ⟨hok, by rw [plOfR, if_pos hok], by rw [plOfD, if_pos hok], plDok_mk (plOk_mk hg a b) k0 k1⟩
theorem of_back {l d c n : Int} (hg : gOk l d c = true) (h0 : 0 ≤ n) (h1 : n < gCap l d c) :
    plOfOk l d c n = true ∧ (0 ≤ plOfD l d c n ∧ plOfD l d c n < d) ∧ (0 ≤ plOfR l d c n ∧ plOfR l d c n < 16) ∧ plBOk l d c (plOfD l d c n) (plOfR l d c n) = true ∧ plBk l d c (plOfD l d c n) (plOfR l d c n) = 0 ∧ plBn l d c (plOfD l d c n) (plOfR l d c n) = n := by
  obtain ⟨a, b, k0, k1, _, hN⟩ := of_row hg h0 h1
  obtain ⟨hok, hr, hd, hk⟩ := of_yes hg h0 h1
  obtain ⟨b1, b2, b3⟩ := back_data hk
  obtain ⟨d0, d1, _, _⟩ := data_ne hk
  rw [hr, hd]
  exact ⟨hok, ⟨d0, d1⟩, ⟨a, b⟩, b1, b2, by rw [b3]; exact hN⟩
theorem of_num {l d c r k : Int} (h : plDok l d c r k = true) : plOfOk l d c (plN l d c r k) = true ∧ plOfD l d c (plN l d c r k) = plD l d c r k ∧ plOfR l d c (plN l d c r k) = r := by
  have hg := (plOk_yes (plDok_yes h).1).1
  obtain ⟨n0, n1, hr, hk⟩ := num_row h
  obtain ⟨hok, h2, h3, _⟩ := of_yes hg n0 n1
  refine ⟨hok, ?_, ?_⟩
  · rw [h3, hr, hk]
  · rw [h2, hr]
end Go.Proofs.YtenkkdnepmoihaaGreatDoor
end
section
namespace Go.Proofs.YtenkkdnepmoihaaGreatDoor

theorem ext_getD {a b : List (List UInt8)} (h : a.length = b.length) (hk : ∀ k, k < a.length → a.getD k [] = b.getD k []) : a = b := by
  apply List.ext_getElem h
  intro k h1 h2
  have := hk k h1
  simpa [h1, h2] using this
theorem missB_two (p q : List UInt8) : missB [p, q] = (if p.length = 0 then [0] else []) ++ (if q.length = 0 then [1] else []) := by
  show missTo [p, q] (0 + 1 + 1) = _
  rw [missTo_succ, missTo_succ]
  show (if q.length = 0 then (if p.length = 0 then missTo [p, q] 0 ++ [0] else missTo [p, q] 0) ++ [0 + 1] else if p.length = 0 then missTo [p, q] 0 ++ [0] else missTo [p, q] 0) = _
  have e : missTo [p, q] 0 = [] := rfl
  rw [e]
  by_cases h1 : p.length = 0 <;> by_cases h2 : q.length = 0 <;> simp [h1, h2]
theorem getD_set_other {rs : List (List UInt8)} {i k : Nat} {r : List UInt8} (h : i ≠ k) : (rs.set i r).getD k [] = rs.getD k [] := by
  simp [List.getElem?_set_ne h]
theorem getD_set_same {rs : List (List UInt8)} {i : Nat} {r : List UInt8} (h : i < rs.length) : (rs.set i r).getD i [] = r := by
  simp [h]

section
variable {N : Nat} {fs rs : List (List UInt8)}
/-- Rows, some of them taken away. -/
structure Lacks (N : Nat) (fs rs : List (List UInt8)) : Prop where
  pos : 1 ≤ N
  alike : ∀ r ∈ fs, r.length = N
  len : rs.length = fs.length
  row : ∀ k, k < fs.length → (rs.getD k []).length = 0 ∨ rs.getD k [] = fs.getD k []
theorem Lacks.full (h : Lacks N fs rs) {k : Nat} (hk : k < fs.length) : (fs.getD k []).length = N := h.alike _ (by simp [hk])
theorem Lacks.sized (h : Lacks N fs rs) : sizedB N rs = true := sizedB_iff.2 fun k hk => by
  rcases h.row k (by rw [← h.len]; exact hk) with h1 | h1
  · exact .inl h1
  · exact .inr (by rw [h1]; exact h.full (by rw [← h.len]; exact hk))
theorem Lacks.filled_zero (h : Lacks N fs rs) {k : Nat} (hk : k ∈ missB rs) : Holed N (filledB N rs) k := by
  obtain ⟨h1, h2⟩ := missTo_mem.1 hk
  refine ⟨by rw [filledB_len]; exact h1, ?_, filledB_mem h.sized⟩
  rw [filledB_get N rs h1]
  unfold fillR
  rw [if_pos h2]
theorem Lacks.filled_there (h : Lacks N fs rs) {k : Nat} (hf : k < fs.length) (hk : k ∉ missB rs) : (filledB N rs).getD k [] = fs.getD k [] := by
  have hl : k < rs.length := by rw [h.len]; exact hf
  have h2 : ¬ (rs.getD k []).length = 0 := fun e => hk (missTo_mem.2 ⟨hl, e⟩)
  rw [filledB_get N rs hl]
  unfold fillR
  rw [if_neg h2]
  rcases h.row k hf with h3 | h3
  · exact absurd h3 h2
  · exact h3
theorem Lacks.ask (h : Lacks N fs rs) {p q : List UInt8} (hp : p.length = 0 ∨ p.length = N) (hq : q.length = 0 ∨ q.length = N) : askB N p q rs = true := by
  have h1 : sizedB N [p, q] = true := sizedB_iff.2 fun k hk => by
    match k, hk with
    | 0, _ => exact hp
    | 1, _ => exact hq
  unfold askB
  rw [h1, h.sized, decide_eq_true h.pos]
  rfl
theorem Lacks.can (h : Lacks N fs rs) {p q : List UInt8} (h0 : 0 < fs.length) (h8 : fs.length ≤ 8) (hm : (missB rs).length ≤ 2 - (missB [p, q]).length) : canB p q rs = true := by
  unfold canB
  rw [decide_eq_true hm, decide_eq_true (show 0 < rs.length by rw [h.len]; exact h0), decide_eq_true (show rs.length ≤ 8 by rw [h.len]; exact h8)]
  rfl
/-- What some had is told by P and Q. -/
theorem solveB_back (h : Lacks N fs rs) (h0 : 0 < fs.length) (h8 : fs.length ≤ 8) {p q : List UInt8} (hp : p.length = 0 ∨ p = pB fs) (hq : q.length = 0 ∨ q = qB fs) (hm : (missB rs).length ≤ 2 - (missB [p, q]).length) : solveB N p q rs = some fs := by
  have lp : p.length = 0 ∨ p.length = N := hp.imp id fun e => by rw [e]; exact pB_len h0 h.alike
  have lq : q.length = 0 ∨ q.length = N := hq.imp id fun e => by rw [e]; exact qB_len h0 h.alike
  unfold solveB
  rw [h.ask lp lq, h.can h0 h8 hm]
  show some (toldB p q (filledB N rs) (missB rs)) = some fs
  congr 1
  have hfl : (filledB N rs).length = fs.length := by rw [filledB_len]; exact h.len
  have hz := fun k hk => h.filled_zero (k := k) hk
  have ht := fun k hf hk => h.filled_there (k := k) hf hk
  have hs := missTo_sorted rs rs.length
  rw [show missTo rs rs.length = missB rs from rfl] at hs
  rw [missB_two] at hm
  generalize filledB N rs = all at hfl hz ht
  generalize missB rs = ms at hm hz ht hs
  rcases ms with _ | ⟨i, _ | ⟨j, r⟩⟩
  · show all = fs
    exact ext_getD hfl fun k hk => ht k (by omega) (by simp)
  · have hi := hz i (by simp)
    have hif : i < fs.length := by rw [← hfl]; exact hi.lt
    have e : all.set i (fs.getD i []) = fs := ext_getD (by rw [List.length_set]; exact hfl) fun k hk => by
      rw [List.length_set] at hk
      by_cases hik : i = k
      · subst hik; exact getD_set_same hk
      · rw [getD_set_other hik]
        exact ht k (by omega) (by simpa using fun e => hik e.symm)
    show all.set i (if p.length ≠ 0 then byPB p all else byQB q all i) = fs
    by_cases hp0 : p.length = 0
    · rw [if_neg (fun f => f hp0)]
      have hq0 : ¬ q.length = 0 := fun hq0 => by
        rw [if_pos hp0, if_pos hq0] at hm
        simp at hm
      rcases hq with hq1 | hq1
      · exact absurd hq1 hq0
      · rw [hq1]
        have := byQB_only hi (h.full hif)
        rw [e] at this
        rw [this, e]
    · rw [if_pos hp0]
      rcases hp with hp1 | hp1
      · exact absurd hp1 hp0
      · rw [hp1]
        have := byPB_only hi (h.full hif)
        rw [e] at this
        rw [this, e]
  · have hi := hz i (by simp)
    have hj := hz j (by simp)
    have hif : i < fs.length := by rw [← hfl]; exact hi.lt
    have hjf : j < fs.length := by rw [← hfl]; exact hj.lt
    have hij : i < j := by
      rw [List.pairwise_cons] at hs
      exact hs.1 j (by simp)
    have hp0 : ¬ p.length = 0 := fun hp0 => by
      rw [if_pos hp0] at hm
      simp at hm
      omega
    have hq0 : ¬ q.length = 0 := fun hq0 => by
      rw [if_neg hp0, if_pos hq0] at hm
      simp at hm
    rw [if_neg hp0, if_neg hq0] at hm
    have hr : r = [] := by
      simp at hm
      exact hm
    subst hr
    have hp1 := hp.resolve_left hp0
    have hq1 := hq.resolve_left hq0
    have e : (all.set i (fs.getD i [])).set j (fs.getD j []) = fs := ext_getD (by rw [List.length_set, List.length_set]; exact hfl) fun k hk => by
      rw [List.length_set, List.length_set] at hk
      by_cases hjk : j = k
      · subst hjk; exact getD_set_same (by rw [List.length_set]; exact hk)
      · rw [getD_set_other hjk]
        by_cases hik : i = k
        · subst hik; exact getD_set_same hk
        · rw [getD_set_other hik]
          exact ht k (by omega) (by simpa using ⟨fun e => hik e.symm, fun e => hjk e.symm⟩)
    have := both_only hi hj (by omega) (by omega) (by omega) (h.full hif) (h.full hjf)
    rw [e] at this
    show (all.set i (bothA p q all i j)).set j (bothB p q all i j) = fs
    rw [hp1, hq1, this.1, this.2, e]
end
end Go.Proofs.YtenkkdnepmoihaaGreatDoor
end
section
set_option linter.unusedVariables false
set_option linter.unusedSimpArgs false
namespace Go.Proofs.YtenkkdnepmoihaaGreatDoor

/-- The disk of part k (the data, then P, then Q); the part that a disk has. -/
def roS (D F k : Nat) : Nat := if F + k < D then F + k else F + k - D
def roI (D F i : Nat) : Nat := if F ≤ i then i - F else i + D - F
theorem roS_lt {D F k : Nat} (hF : F < D) (hk : k < D) : roS D F k < D := by unfold roS; split <;> omega
theorem roI_lt {D F i : Nat} (hF : F < D) (hi : i < D) : roI D F i < D := by unfold roI; split <;> omega
theorem roI_roS {D F k : Nat} (hF : F < D) (hk : k < D) : roI D F (roS D F k) = k := by unfold roI roS; split <;> split <;> omega
theorem roS_roI {D F i : Nat} (hF : F < D) (hi : i < D) : roS D F (roI D F i) = i := by unfold roI roS; split <;> split <;> omega
theorem roS_inj {D F j k : Nat} (hF : F < D) (hj : j < D) (hk : k < D) (h : roS D F j = roS D F k) : j = k := by
  rw [← roI_roS hF hj, h, roI_roS hF hk]
/-- All parts: data, P, Q. -/
def allL (rs : List (List UInt8)) : List (List UInt8) := rs ++ [pB rs, qB rs]
theorem allL_data {rs : List (List UInt8)} {k : Nat} (hk : k < rs.length) : (allL rs).getD k [] = rs.getD k [] := by
  simp [allL, List.getD_eq_getElem?_getD, List.getElem?_append_left hk]
theorem allL_p (rs : List (List UInt8)) : (allL rs).getD rs.length [] = pB rs := by
  simp [allL, List.getD_eq_getElem?_getD, List.getElem?_append_right]
theorem allL_q (rs : List (List UInt8)) : (allL rs).getD (rs.length + 1) [] = qB rs := by
  simp [allL, List.getD_eq_getElem?_getD, List.getElem?_append_right]
/-- The disks' sectors as far as part k. -/
def fillTo2 (D F : Nat) (rs : List (List UInt8)) (k : Nat) : List (List UInt8) := (List.range D).map fun i => if roI D F i < k then (allL rs).getD (roI D F i) [] else []
def fillL (D F : Nat) (rs : List (List UInt8)) : List (List UInt8) := fillTo2 D F rs D
theorem fillTo2_len (D F : Nat) (rs : List (List UInt8)) (k : Nat) : (fillTo2 D F rs k).length = D := by simp [fillTo2]
theorem fillL_len (D F : Nat) (rs : List (List UInt8)) : (fillL D F rs).length = D := fillTo2_len _ _ _ _
theorem fillTo2_get {D F : Nat} {rs : List (List UInt8)} {k i : Nat} (hi : i < D) : (fillTo2 D F rs k).getD i [] = if roI D F i < k then (allL rs).getD (roI D F i) [] else [] := by
  simp [fillTo2, List.getD_eq_getElem?_getD, hi]
theorem fillL_get {D F : Nat} {rs : List (List UInt8)} {i : Nat} (hF : F < D) (hi : i < D) : (fillL D F rs).getD i [] = (allL rs).getD (roI D F i) [] := by
  unfold fillL
  rw [fillTo2_get hi, if_pos (roI_lt hF hi)]
theorem fillL_at {D F : Nat} {rs : List (List UInt8)} {k : Nat} (hF : F < D) (hk : k < D) : (fillL D F rs).getD (roS D F k) [] = (allL rs).getD k [] := by
  rw [fillL_get hF (roS_lt hF hk), roI_roS hF hk]
theorem fillTo2_zero (D F : Nat) (rs : List (List UInt8)) : fillTo2 D F rs 0 = List.replicate D [] := by
  apply List.ext_getElem (by simp [fillTo2])
  intro i h1 h2
  simp [fillTo2]
theorem fillTo2_succ {D F : Nat} {rs : List (List UInt8)} {k : Nat} (hF : F < D) (hk : k < D) : (fillTo2 D F rs k).set (roS D F k) ((allL rs).getD k []) = fillTo2 D F rs (k + 1) := by
  apply ext_getD (by rw [List.length_set, fillTo2_len, fillTo2_len])
  intro i hi
  rw [List.length_set, fillTo2_len] at hi
  rw [fillTo2_get hi]
  by_cases e : roS D F k = i
  · subst e
    rw [getD_set_same (by rw [fillTo2_len]; exact hi), roI_roS hF hk, if_pos (by omega)]
  · rw [getD_set_other e, fillTo2_get hi]
    have hne : roI D F i ≠ k := fun h => e (by rw [← h]; exact roS_roI hF hi)
    by_cases h : roI D F i < k
    · rw [if_pos h, if_pos (by omega)]
    · rw [if_neg h, if_neg (by omega)]

/-- Which geometry, which row: the disk of data chunk 0, how many disks, how many of data. -/
def roF (l d c r : Int) : Nat := (plF l d c r).toNat
def roD (d : Int) : Nat := d.toNat
def roW (l d : Int) : Nat := (d - (l - 4)).toNat
structure Ro (l d c r : Int) : Prop where
  hF : roF l d c r < roD d
  hW : roW l d < roD d
  w1 : 1 ≤ roW l d
  w7 : roW l d ≤ 7
  d8 : roD d ≤ 8
  d3 : 3 ≤ roD d
  dd : ((roD d : Nat) : Int) = d
  wd : gWid l d c = ((roW l d : Nat) : Int)
  lv : (l = 5 ∧ roD d = roW l d + 1) ∨ (l = 6 ∧ roD d = roW l d + 2)
  pP : plP l d c r = ((roS (roD d) (roF l d c r) (roW l d) : Nat) : Int)
  pQ : plQ l d c r = if l = 6 then ((roS (roD d) (roF l d c r) (roW l d + 1) : Nat) : Int) else -1
  pD : ∀ k : Nat, k < roW l d → plD l d c r (k : Int) = ((roS (roD d) (roF l d c r) k : Nat) : Int)
theorem emod_two {x d : Int} (h0 : 0 ≤ x) (h1 : x < d + d) : x % d = if x < d then x else x - d := by
  split
  · exact Int.emod_eq_of_lt h0 (by omega)
  · have h : x = (x - d) + d := by omega
    rw [h, Int.add_emod_right]
    rw [Int.emod_eq_of_lt (by omega) (by omega)]
    omega
theorem ro_of {l d c r : Int} (h : plOk l d c r = true) : Ro l d c r := by
  obtain ⟨hg, h0, h1⟩ := plOk_yes h
  have hb := gOk_bd hg
  have hl := (gOk_yes hg).1
  have hp := plP_yes h
  have hm := rem_bd (r / c) (show 1 ≤ d by omega)
  have hF := plF_bd l c r (show 1 ≤ d by omega)
  have hFe : plF l d c r = (d - 1 - r / c % d + (l - 4)) % d := rfl
  have hFe2 := emod_two (x := d - 1 - r / c % d + (l - 4)) (d := d) (by omega) (by omega)
  rw [hFe2] at hFe
  have e1 : ((roD d : Nat) : Int) = d := by unfold roD; omega
  have e2 : ((roF l d c r : Nat) : Int) = plF l d c r := by unfold roF; omega
  have e3 : ((roW l d : Nat) : Int) = d - (l - 4) := by unfold roW; omega
  have hroS : ∀ k : Nat, k < roD d → ((roS (roD d) (roF l d c r) k : Nat) : Int) = (plF l d c r + k) % d := fun k hk => by
    rw [emod_two (by omega) (by omega)]
    unfold roS
    split <;> split <;> omega
  refine ⟨by omega, by omega, by omega, by omega, by omega, by omega, e1, by rw [gWid_yes hg, e3], ?_, ?_, ?_, ?_⟩
  · rcases hl with h | h
    · exact .inl ⟨h.1, by omega⟩
    · exact .inr ⟨h.1, by omega⟩
  · rw [hp, hroS _ (by omega)]
    generalize r / c % d = q at hm hFe ⊢
    generalize plF l d c r = f at hF hFe ⊢
    clear hFe2 hroS
    rw [emod_two (by omega) (by omega)]
    split at hFe <;> split <;> omega
  · by_cases h6 : l = 6
    · rw [if_pos h6, hroS _ (by omega)]
      subst h6
      rw [plQ_6 h]
      generalize r / c % d = q at hm hFe ⊢
      generalize plF 6 d c r = f at hF hFe ⊢
      clear hFe2 hroS
      rw [emod_two (by omega) (by omega), emod_two (by omega) (by omega)]
      split at hFe <;> split <;> split <;> omega
    · rw [if_neg h6]
      obtain rfl : l = 5 := by omega
      exact plQ_5
  · intro k hk
    rw [hroS k (by omega), plD_yes (plDok_mk h (by omega) (by omega))]

def fillOk (l d c r : Int) (rs : List (List UInt8)) : Bool := plOk l d c r && (decide (rs.length = roW l d) && rs.all fun x => x.length == 32)
def roFill (l d c r : Int) (rs : List (List UInt8)) : Option (List (List UInt8)) := if fillOk l d c r rs = true then some (fillL (roD d) (roF l d c r) rs) else none
/-- The data chunks' sectors of the disks' ones. -/
def dataL (l d c r : Int) (xs : List (List UInt8)) : List (List UInt8) := (List.range (roW l d)).map fun k => xs.getD (roS (roD d) (roF l d c r) k) []
def parL (l d c r : Int) (xs : List (List UInt8)) : List UInt8 := xs.getD (roS (roD d) (roF l d c r) (roW l d)) []
def parQ (l d c r : Int) (xs : List (List UInt8)) : List UInt8 := if l = 6 then xs.getD (roS (roD d) (roF l d c r) (roW l d + 1)) [] else []
def roTake (l d c r : Int) (xs : List (List UInt8)) : Option (List (List UInt8)) :=
  if (plOk l d c r && decide (xs.length = roD d)) = true then solveB 32 (parL l d c r xs) (parQ l d c r xs) (dataL l d c r xs) else none
def roRight (l d c r : Int) (xs : List (List UInt8)) : Bool :=
  match roTake l d c r xs with
  | none => false
  | some rs => decide (roFill l d c r rs = some xs)
theorem fillOk_yes {l d c r : Int} {rs : List (List UInt8)} (h : fillOk l d c r rs = true) : plOk l d c r = true ∧ rs.length = roW l d ∧ ∀ x ∈ rs, x.length = 32 := by
  unfold fillOk at h
  simp only [Bool.and_eq_true, decide_eq_true_eq, List.all_eq_true, beq_iff_eq] at h
  exact ⟨h.1, h.2.1, h.2.2⟩
theorem fillOk_mk {l d c r : Int} {rs : List (List UInt8)} (h : plOk l d c r = true) (hl : rs.length = roW l d) (ha : ∀ x ∈ rs, x.length = 32) : fillOk l d c r rs = true := by
  unfold fillOk
  simp only [Bool.and_eq_true, decide_eq_true_eq, List.all_eq_true, beq_iff_eq]
  exact ⟨h, hl, ha⟩
theorem roFill_yes {l d c r : Int} {rs : List (List UInt8)} (h : fillOk l d c r rs = true) : roFill l d c r rs = some (fillL (roD d) (roF l d c r) rs) := if_pos h
theorem roFill_no {l d c r : Int} {rs : List (List UInt8)} (h : ¬ fillOk l d c r rs = true) : roFill l d c r rs = none := if_neg h
theorem dataL_len (l d c r : Int) (xs : List (List UInt8)) : (dataL l d c r xs).length = roW l d := by simp [dataL]
theorem dataL_get {l d c r : Int} {xs : List (List UInt8)} {k : Nat} (hk : k < roW l d) : (dataL l d c r xs).getD k [] = xs.getD (roS (roD d) (roF l d c r) k) [] := by
  simp [dataL, List.getD_eq_getElem?_getD, hk]
theorem roTake_yes {l d c r : Int} {xs : List (List UInt8)} (h : plOk l d c r = true) (hl : xs.length = roD d) : roTake l d c r xs = solveB 32 (parL l d c r xs) (parQ l d c r xs) (dataL l d c r xs) := by
  unfold roTake; rw [h, decide_eq_true hl]; rfl
theorem mem_getD {rs : List (List UInt8)} {N k : Nat} (h : ∀ r ∈ rs, r.length = N) (hk : k < rs.length) : (rs.getD k []).length = N := h _ (by simp [hk])
/-- All parts have a sector's bytes. -/
theorem allL_32 {rs : List (List UInt8)} (h0 : 0 < rs.length) (h : ∀ x ∈ rs, x.length = 32) {k : Nat} (hk : k < rs.length + 2) : ((allL rs).getD k []).length = 32 := by
  by_cases h1 : k < rs.length
  · rw [allL_data h1]; exact mem_getD h h1
  · by_cases h2 : k = rs.length
    · subst h2; rw [allL_p]; exact pB_len h0 h
    · obtain rfl : k = rs.length + 1 := by omega
      rw [allL_q]; exact qB_len h0 h
/-- Of a row some of whose sectors are missing, not more than may be. -/
theorem take_back {l d c r : Int} {rs xs : List (List UInt8)} (h : fillOk l d c r rs = true) (hl : xs.length = roD d) (hx : ∀ i, i < roD d → (xs.getD i []).length = 0 ∨ xs.getD i [] = (fillL (roD d) (roF l d c r) rs).getD i [])
    (hm : (missB (dataL l d c r xs)).length ≤ 2 - (missB [parL l d c r xs, parQ l d c r xs]).length) : roTake l d c r xs = some rs := by
  obtain ⟨hk, hn, ha⟩ := fillOk_yes h
  have R := ro_of hk
  have hw1 := R.w1; have hw7 := R.w7; have hW := R.hW; have hlv := R.lv
  have at_ : ∀ k, k < roD d → (xs.getD (roS (roD d) (roF l d c r) k) []).length = 0 ∨ xs.getD (roS (roD d) (roF l d c r) k) [] = (allL rs).getD k [] := fun k hk => by
    have := hx _ (roS_lt R.hF hk)
    rwa [fillL_at R.hF hk] at this
  rw [roTake_yes hk hl]
  refine solveB_back ⟨by omega, ha, by rw [dataL_len, hn], fun k hk => ?_⟩ (by omega) (by omega) ?_ ?_ hm
  · rw [dataL_get (by omega), ← allL_data hk]; exact at_ k (by omega)
  · have := at_ (roW l d) (by omega)
    rw [← hn, allL_p, hn] at this
    exact this
  · unfold parQ
    split
    · next h6 =>
      have := at_ (roW l d + 1) (by omega)
      rw [← hn, allL_q, hn] at this
      exact this
    · exact .inl rfl
/-- Where nothing is missing all is as it is. -/
theorem missB_nil {rs : List (List UInt8)} (h : ∀ k, k < rs.length → (rs.getD k []).length = 32) : missB rs = [] := by
  apply List.eq_nil_iff_forall_not_mem.2
  intro j hj
  obtain ⟨h1, h2⟩ := missTo_mem.1 hj
  rw [h j h1] at h2
  omega
theorem solve_none {p q : List UInt8} {rs : List (List UInt8)} (h : ∀ x ∈ rs, x.length = 32) (h0 : 0 < rs.length) (h8 : rs.length ≤ 8) (hp : p.length = 0 ∨ p.length = 32) (hq : q.length = 0 ∨ q.length = 32) : solveB 32 p q rs = some rs := by
  have L : Lacks 32 rs rs := ⟨by omega, h, rfl, fun k _ => .inr rfl⟩
  have hm : missB rs = [] := missB_nil fun k hk => mem_getD h hk
  unfold solveB
  rw [L.ask hp hq, L.can h0 h8 (by rw [hm]; simp), hm]
  show some (filledB 32 rs) = some rs
  congr 1
  exact ext_getD (filledB_len _ _) fun k hk => L.filled_there (by rwa [filledB_len] at hk) (by rw [hm]; simp)
theorem take_none {l d c r : Int} {xs : List (List UInt8)} (h : plOk l d c r = true) (hl : xs.length = roD d) (hx : ∀ i, i < roD d → (xs.getD i []).length = 32) : roTake l d c r xs = some (dataL l d c r xs) := by
  have R := ro_of h
  have hw1 := R.w1; have hw7 := R.w7; have hW := R.hW; have hlv := R.lv
  rw [roTake_yes h hl]
  refine solve_none (fun x hx' => ?_) (by rw [dataL_len]; omega) (by rw [dataL_len]; omega) (.inr (hx _ (roS_lt R.hF hW))) ?_
  · obtain ⟨k, hk, rfl⟩ := List.getElem_of_mem hx'
    have hk' : k < roW l d := by rwa [dataL_len] at hk
    have := dataL_get (c := c) (r := r) (xs := xs) hk'
    rw [List.getD_eq_getElem?_getD, List.getElem?_eq_getElem hk] at this
    rw [show (dataL l d c r xs)[k] = _ from this]
    exact hx _ (roS_lt R.hF (by omega))
  · unfold parQ
    split
    · exact .inr (hx _ (roS_lt R.hF (by omega)))
    · exact .inl rfl
theorem dataL_fill {l d c r : Int} {rs : List (List UInt8)} (h : fillOk l d c r rs = true) : dataL l d c r (fillL (roD d) (roF l d c r) rs) = rs := by
  obtain ⟨hk, hn, ha⟩ := fillOk_yes h
  have R := ro_of hk
  have hW := R.hW
  refine ext_getD (by rw [dataL_len, hn]) fun k hk => ?_
  rw [dataL_len] at hk
  rw [dataL_get hk, fillL_at R.hF (by omega), allL_data (by omega)]
theorem fill_32 {l d c r : Int} {rs : List (List UInt8)} (h : fillOk l d c r rs = true) {i : Nat} (hi : i < roD d) : ((fillL (roD d) (roF l d c r) rs).getD i []).length = 32 := by
  obtain ⟨hk, hn, ha⟩ := fillOk_yes h
  have R := ro_of hk
  have hw1 := R.w1; have hlv := R.lv
  have := roI_lt R.hF hi
  rw [fillL_get R.hF hi]
  exact allL_32 (by omega) ha (by omega)
theorem row_right {l d c r : Int} {rs : List (List UInt8)} (h : fillOk l d c r rs = true) : roRight l d c r (fillL (roD d) (roF l d c r) rs) = true := by
  obtain ⟨hk, hn, ha⟩ := fillOk_yes h
  unfold roRight
  rw [take_none hk (fillL_len _ _ _) (fun i hi => fill_32 h hi), dataL_fill h]
  exact decide_eq_true (roFill_yes h)
end Go.Proofs.YtenkkdnepmoihaaGreatDoor
end
section
namespace Go.Proofs.YtenkkdnepmoihaaGreatDoor
open Go.RowKit

theorem gret_int {k : IntKind} {a b : Int} (h : a = b) : Ending.returned (.int k a) = .returned (.int k b) := by rw [h]

theorem leveled_any (l d c : Int) (w : World) (hl : -9223372036854775808 ≤ l ∧ l ≤ 9223372036854775807) (hd : -9223372036854775808 ≤ d ∧ d ≤ 9223372036854775807) (_ : -9223372036854775808 ≤ c ∧ c ≤ 9223372036854775807) :
    Calls Tryz.prog 100 #[.agg #[.int .i64 l, .int .i64 d, .int .i64 c]] w fun e w' => e = .returned (.bool (lvB l d)) ∧ Below w.heap.size w w' := by
  by_cases h8 : 8 < d
  · have H : Hid (lvB l d = false) := lvB_no (by omega)
    go_enter Tryz.func100, Tryz.ntmps100
    go_wp2
    go_ret
    exact ⟨by rw [H.out]; rfl, below1 _ _⟩
  · by_cases h5 : l = 5
    · subst h5
      have H : Hid (lvB 5 d = decide (3 ≤ d)) := lvB_5 (by omega)
      go_enter Tryz.func100, Tryz.ntmps100
      go_wp2
      go_ret
      exact ⟨by rw [H.out]; rfl, below1 _ _⟩
    · have e5 : (l == 5) = false := by simpa using h5
      by_cases h6 : l = 6
      · subst h6
        have H : Hid (lvB 6 d = decide (4 ≤ d)) := lvB_6 (by omega)
        go_enter Tryz.func100, Tryz.ntmps100
        go_wp2
        go_ret
        exact ⟨by rw [H.out]; rfl, below1 _ _⟩
      · have e6 : (l == 6) = false := by simpa using h6
        have H : Hid (lvB l d = false) := lvB_no (by omega)
        go_enter Tryz.func100, Tryz.ntmps100
        go_wp2
        go_ret
        exact ⟨by rw [H.out]; rfl, below1 _ _⟩
theorem chunked_any (l d c : Int) (w : World) (_ : -9223372036854775808 ≤ l ∧ l ≤ 9223372036854775807) (_ : -9223372036854775808 ≤ d ∧ d ≤ 9223372036854775807) (_ : -9223372036854775808 ≤ c ∧ c ≤ 9223372036854775807) :
    Calls Tryz.prog 101 #[.agg #[.int .i64 l, .int .i64 d, .int .i64 c]] w fun e w' => e = .returned (.bool (chB c)) ∧ Below w.heap.size w w' := by
  by_cases h1 : c = 1
  · subst h1
    have H : Hid (chB 1 = true) := chB_yes (by omega)
    go_enter Tryz.func101, Tryz.ntmps101
    go_wp2
    go_ret
    exact ⟨by rw [H.out]; rfl, below1 _ _⟩
  · have e1 : (c == 1) = false := by simpa using h1
    by_cases h2 : c = 2
    · subst h2
      have H : Hid (chB 2 = true) := chB_yes (by omega)
      go_enter Tryz.func101, Tryz.ntmps101
      go_wp2
      go_ret
      exact ⟨by rw [H.out]; rfl, below1 _ _⟩
    · have e2 : (c == 2) = false := by simpa using h2
      by_cases h4 : c = 4
      · subst h4
        have H : Hid (chB 4 = true) := chB_yes (by omega)
        go_enter Tryz.func101, Tryz.ntmps101
        go_wp2
        go_ret
        exact ⟨by rw [H.out]; rfl, below1 _ _⟩
      · have e4 : (c == 4) = false := by simpa using h4
        have H : Hid (chB c = false) := chB_no (by omega)
        go_enter Tryz.func101, Tryz.ntmps101
        go_wp2
        go_ret
        exact ⟨by rw [H.out]; rfl, below1 _ _⟩

/-- The block holds this geometry. -/
def GAt (w : World) (b : Nat) (l d c : Int) : Prop := w.cell? ⟨b, 0, none⟩ = some (.int .i64 l) ∧ w.cell? ⟨b, 1, none⟩ = some (.int .i64 d) ∧ w.cell? ⟨b, 2, none⟩ = some (.int .i64 c)
theorem gat_new (w : World) (l d c : Int) (t : TypeId) (f : Nat × Nat) : GAt (w.alloc (.cells #[.int .i64 l, .int .i64 d, .int .i64 c] t f)) w.heap.size l d c :=
  ⟨cell_of_row _ _ 0 _ _ _ (heap_alloc_new w _), cell_of_row _ _ 1 _ _ _ (heap_alloc_new w _), cell_of_row _ _ 2 _ _ _ (heap_alloc_new w _)⟩
theorem GAt.below {w w' : World} {b B : Nat} {l d c : Int} (h : GAt w b l d c) (hb : Below B w w') (hB : b < B) : GAt w' b l d c :=
  ⟨(hb.cell (p := ⟨b, 0, none⟩) hB).trans h.1, (hb.cell (p := ⟨b, 1, none⟩) hB).trans h.2.1, (hb.cell (p := ⟨b, 2, none⟩) hB).trans h.2.2⟩
/-- What stays while callees make memory: a box, and all below B. -/
abbrev GS (w0 : World) (B b : Nat) (l d c : Int) (W : World) : Prop := W.cell? ⟨b, 0, none⟩ = some (.int .i64 l) ∧ W.cell? ⟨b, 1, none⟩ = some (.int .i64 d) ∧ W.cell? ⟨b, 2, none⟩ = some (.int .i64 c) ∧ Below B w0 W
theorem GS.drew {w0 W : World} {B b : Nat} {l d c : Int} (h : GS w0 B b l d c W) : GS w0 B b l d c W.drew := ⟨h.1, h.2.1, h.2.2.1, h.2.2.2.drew⟩
theorem GS.later {w0 W W' : World} {B b : Nat} {l d c : Int} (h : GS w0 B b l d c W) (hb : Below W.heap.size W W') (hB : B ≤ w0.heap.size := by exact Nat.le_refl _) : GS w0 B b l d c W' := by
  obtain ⟨h1, h2, h3, F⟩ := h
  have hl := World.block_lt_of_cell? _ _ h1
  obtain ⟨a1, a2, a3⟩ := GAt.below ⟨h1, h2, h3⟩ hb hl
  exact ⟨a1, a2, a3, F.trans (hb.mono (Nat.le_trans hB F.size))⟩
theorem check_any (l d c : Int) (w : World) (hl : -9223372036854775808 ≤ l ∧ l ≤ 9223372036854775807) (hd : -9223372036854775808 ≤ d ∧ d ≤ 9223372036854775807) (hc : -9223372036854775808 ≤ c ∧ c ≤ 9223372036854775807) :
    Calls Tryz.prog 65 #[.agg #[.int .i64 l, .int .i64 d, .int .i64 c]] w fun e w' => e = .returned (.int .i64 (gErr l d c)) ∧ Below w.heap.size w w' := by
  cases hL : lvB l d
  · have H : Hid (gOk l d c = false) := by unfold gOk; rw [hL]; rfl
    have HL := Lib.hid hL
    clear hL
    go_enter Tryz.func65, Tryz.ntmps65
    go_wp2_with fail
    (with_reducible refine (leveled_any l d c _ hl hd hc).mono ?_); rintro e w1 ⟨rfl, hb⟩
    rw [HL.out]
    have F := (below1 w _).trans (hb.mono (by simp))
    clear hb
    go_wp2_with fail
    go_ret
    exact ⟨by rw [gErr_no H.out]; rfl, F⟩
  · have H : Hid (gOk l d c = chB c) := by unfold gOk; rw [hL]; rfl
    have HL := Lib.hid hL
    clear hL
    have G := gat_new w l d c 24 (0, 0)
    go_enter Tryz.func65, Tryz.ntmps65
    go_wp2_with fail
    (with_reducible refine (leveled_any l d c _ hl hd hc).mono ?_); rintro e w1 ⟨rfl, hb⟩
    rw [HL.out]
    have F := (below1 w _).trans (hb.mono (by simp))
    obtain ⟨g1, g2, g3⟩ := G.below hb (by simp)
    clear hb
    go_wp2_with fail
    (with_reducible refine (chunked_any l d c _ hl hd hc).mono ?_); rintro e w2 ⟨rfl, hb⟩
    rw [← H.out]
    have F2 := F.trans (hb.mono F.size)
    clear hb F
    cases hG : gOk l d c
    all_goals
      have HG := Lib.hid hG
      clear hG
      go_wp2_with fail
      go_ret
      exact ⟨by first | (rw [gErr_no HG.out]; rfl) | (rw [gErr_yes HG.out]; rfl), F2⟩
theorem check_yes (l d c : Int) (w : World) (h : Hid (gOk l d c = true)) (hl : -9223372036854775808 ≤ l ∧ l ≤ 9223372036854775807) (hd : -9223372036854775808 ≤ d ∧ d ≤ 9223372036854775807) (hc : -9223372036854775808 ≤ c ∧ c ≤ 9223372036854775807) :
    Calls Tryz.prog 65 #[.agg #[.int .i64 l, .int .i64 d, .int .i64 c]] w fun e w' => e = .returned (.int .i64 0) ∧ Below w.heap.size w w' := by
  have := check_any l d c w hl hd hc
  rwa [gErr_yes h.out] at this
theorem check_no (l d c : Int) (w : World) (h : Hid (gOk l d c = false)) (hl : -9223372036854775808 ≤ l ∧ l ≤ 9223372036854775807) (hd : -9223372036854775808 ≤ d ∧ d ≤ 9223372036854775807) (hc : -9223372036854775808 ≤ c ∧ c ≤ 9223372036854775807) :
    Calls Tryz.prog 65 #[.agg #[.int .i64 l, .int .i64 d, .int .i64 c]] w fun e w' => e = .returned (.int .i64 1) ∧ Below w.heap.size w w' := by
  have := check_any l d c w hl hd hc
  rwa [gErr_no h.out] at this

theorem budget_any (l d c : Int) (w : World) (hl : -9223372036854775808 ≤ l ∧ l ≤ 9223372036854775807) (hd : -9223372036854775808 ≤ d ∧ d ≤ 9223372036854775807) (hc : -9223372036854775808 ≤ c ∧ c ≤ 9223372036854775807) :
    Calls Tryz.prog 113 #[.agg #[.int .i64 l, .int .i64 d, .int .i64 c]] w fun e w' => e = .returned (.int .i64 (gBud l d c)) ∧ Below w.heap.size w w' := by
  have G := gat_new w l d c 24 (0, 0)
  cases hG : gOk l d c
  · have HG := Lib.hid hG
    clear hG
    go_enter Tryz.func113, Tryz.ntmps113
    go_wp2_with fail
    (with_reducible refine (check_no l d c _ HG hl hd hc).mono ?_); rintro e w1 ⟨rfl, hb⟩
    have F := (below1 w _).trans (hb.mono (by simp))
    clear hb
    go_wp2_with fail
    go_ret
    exact ⟨by rw [gBud_no HG.out]; rfl, F⟩
  · have HG := Lib.hid hG
    clear hG
    by_cases h6 : l = 6
    · subst h6
      go_enter Tryz.func113, Tryz.ntmps113
      go_wp2_with fail
      (with_reducible refine (check_yes 6 d c _ HG hl hd hc).mono ?_); rintro e w1 ⟨rfl, hb⟩
      have F := (below1 w _).trans (hb.mono (by simp))
      obtain ⟨g1, g2, g3⟩ := G.below hb (by simp)
      clear hb
      go_wp2_with fail
      go_ret
      exact ⟨by rw [gBud_yes HG.out]; rfl, F⟩
    · obtain rfl : l = 5 := by have := gOk_yes HG.out; omega
      clear h6
      go_enter Tryz.func113, Tryz.ntmps113
      go_wp2_with fail
      (with_reducible refine (check_yes 5 d c _ HG hl hd hc).mono ?_); rintro e w1 ⟨rfl, hb⟩
      have F := (below1 w _).trans (hb.mono (by simp))
      obtain ⟨g1, g2, g3⟩ := G.below hb (by simp)
      clear hb
      go_wp2_with fail
      go_ret
      exact ⟨by rw [gBud_yes HG.out]; rfl, F⟩
theorem width_any (l d c : Int) (w : World) (hl : -9223372036854775808 ≤ l ∧ l ≤ 9223372036854775807) (hd : -9223372036854775808 ≤ d ∧ d ≤ 9223372036854775807) (hc : -9223372036854775808 ≤ c ∧ c ≤ 9223372036854775807) :
    Calls Tryz.prog 80 #[.agg #[.int .i64 l, .int .i64 d, .int .i64 c]] w fun e w' => e = .returned (.int .i64 (gWid l d c)) ∧ Below w.heap.size w w' := by
  have G := gat_new w l d c 24 (0, 0)
  cases hG : gOk l d c
  · have HG := Lib.hid hG
    clear hG
    go_enter Tryz.func80, Tryz.ntmps80
    go_wp2_with fail
    (with_reducible refine (check_no l d c _ HG hl hd hc).mono ?_); rintro e w1 ⟨rfl, hb⟩
    have F := (below1 w _).trans (hb.mono (by simp))
    clear hb
    go_wp2_with fail
    go_ret
    exact ⟨by rw [gWid_no HG.out]; rfl, F⟩
  · have HG := Lib.hid hG
    clear hG
    have HW : Hid (gWid l d c = d - gBud l d c) := by rw [gWid_yes HG.out, gBud_yes HG.out]; rfl
    have hB := gBud_bd l d c
    have hd3 := gOk_bd HG.out
    go_enter Tryz.func80, Tryz.ntmps80
    go_wp2_with fail
    (with_reducible refine (check_yes l d c _ HG hl hd hc).mono ?_); rintro e w1 ⟨rfl, hb⟩
    have F := (below1 w _).trans (hb.mono (by simp))
    have G1 := G.below hb (by simp)
    have z1 : w.heap.size < w1.heap.size := by have := hb.size; simp at this; omega
    clear hb G
    have HB : Hid (∀ W, Calls Tryz.prog 113 #[.agg #[.int .i64 l, .int .i64 d, .int .i64 c]] W fun e w' => e = .returned (.int .i64 (gBud l d c)) ∧ Below W.heap.size W w') := Lib.hid fun W => budget_any l d c W hl hd hc
    generalize gBud l d c = bd at hB HW HB
    obtain ⟨g1, g2, g3⟩ := G1
    go_wp2_with fail
    have S0 : GS w w.heap.size w.heap.size l d c w1 := ⟨g1, g2, g3, F⟩
    clear g1 g2 g3 F z1
    go_region_held3 (GS w w.heap.size w.heap.size l d c)
      (first | assumption | exact GS.drew ‹_›)
      ((go_at_call 113; (with_reducible refine (HB.out _).mono ?_); rintro e w2 ⟨rfl, hb⟩; have S2 := (GS.drew S0).later hb))
    go_wp2
    go_ret
    exact ⟨by rw [HW.out]; exact gret_int (IntWalk.i64_in _ (by omega)), S2.2.2.2⟩
end Go.Proofs.YtenkkdnepmoihaaGreatDoor
end
section
set_option linter.unusedVariables false
set_option linter.unusedSimpArgs false
namespace Go.Proofs.YtenkkdnepmoihaaGreatDoor
open Go.RowKit

theorem there_any (l d c r : Int) (w : World) (hl : (-9223372036854775808 ≤ l ∧ l ≤ 9223372036854775807)) (hd : (-9223372036854775808 ≤ d ∧ d ≤ 9223372036854775807)) (hc : (-9223372036854775808 ≤ c ∧ c ≤ 9223372036854775807)) (hr : (-9223372036854775808 ≤ r ∧ r ≤ 9223372036854775807)) :
    Calls Tryz.prog 83 #[.agg #[.int .i64 l, .int .i64 d, .int .i64 c], .int .i64 r] w fun e w' => e = .returned (.bool (plOk l d c r)) ∧ Below w.heap.size w w' := by
  have G := gat_new w l d c 24 (0, 0)
  cases hG : gOk l d c
  · have H : Hid (plOk l d c r = false) := plOk_no (by rw [hG]; simp)
    have HG := Lib.hid hG
    clear hG
    go_enter Tryz.func83, Tryz.ntmps83
    go_wp2_with fail
    (with_reducible refine (check_no l d c _ HG hl hd hc).mono ?_); rintro e w1 ⟨rfl, hb⟩
    have F := (below1 w _).trans (hb.mono (by simp))
    clear hb
    go_wp2_with fail
    go_ret
    exact ⟨by rw [H.out]; rfl, F⟩
  · have HG := Lib.hid hG
    by_cases h0 : 0 ≤ r
    · have e0 : decide (0 ≤ r) = true := decide_eq_true h0
      by_cases h1 : r < 16
      · have e1 : decide (r < 16) = true := decide_eq_true h1
        have H : Hid (plOk l d c r = true) := plOk_mk hG h0 h1
        clear hG
        go_enter Tryz.func83, Tryz.ntmps83
        go_wp2_with fail
        (with_reducible refine (check_yes l d c _ HG hl hd hc).mono ?_); rintro e w1 ⟨rfl, hb⟩
        have F := (below1 w _).trans (hb.mono (by simp))
        clear hb
        go_wp2_with fail
        go_ret
        exact ⟨by rw [H.out]; rfl, F⟩
      · have e1 : decide (r < 16) = false := decide_eq_false h1
        have H : Hid (plOk l d c r = false) := plOk_no (by omega)
        clear hG
        go_enter Tryz.func83, Tryz.ntmps83
        go_wp2_with fail
        (with_reducible refine (check_yes l d c _ HG hl hd hc).mono ?_); rintro e w1 ⟨rfl, hb⟩
        have F := (below1 w _).trans (hb.mono (by simp))
        clear hb
        go_wp2_with fail
        go_ret
        exact ⟨by rw [H.out]; rfl, F⟩
    · have e0 : decide (0 ≤ r) = false := decide_eq_false h0
      have H : Hid (plOk l d c r = false) := plOk_no (by omega)
      clear hG
      go_enter Tryz.func83, Tryz.ntmps83
      go_wp2_with fail
      (with_reducible refine (check_yes l d c _ HG hl hd hc).mono ?_); rintro e w1 ⟨rfl, hb⟩
      have F := (below1 w _).trans (hb.mono (by simp))
      clear hb
      go_wp2_with fail
      go_ret
      exact ⟨by rw [H.out]; rfl, F⟩
theorem there_yes (l d c r : Int) (w : World) (h : Hid (plOk l d c r = true)) (hl : (-9223372036854775808 ≤ l ∧ l ≤ 9223372036854775807)) (hd : (-9223372036854775808 ≤ d ∧ d ≤ 9223372036854775807)) (hc : (-9223372036854775808 ≤ c ∧ c ≤ 9223372036854775807)) (hr : (-9223372036854775808 ≤ r ∧ r ≤ 9223372036854775807)) :
    Calls Tryz.prog 83 #[.agg #[.int .i64 l, .int .i64 d, .int .i64 c], .int .i64 r] w fun e w' => e = .returned (.bool true) ∧ Below w.heap.size w w' := by
  have := there_any l d c r w hl hd hc hr
  rwa [h.out] at this
theorem there_no (l d c r : Int) (w : World) (h : Hid (plOk l d c r = false)) (hl : (-9223372036854775808 ≤ l ∧ l ≤ 9223372036854775807)) (hd : (-9223372036854775808 ≤ d ∧ d ≤ 9223372036854775807)) (hc : (-9223372036854775808 ≤ c ∧ c ≤ 9223372036854775807)) (hr : (-9223372036854775808 ≤ r ∧ r ≤ 9223372036854775807)) :
    Calls Tryz.prog 83 #[.agg #[.int .i64 l, .int .i64 d, .int .i64 c], .int .i64 r] w fun e w' => e = .returned (.bool false) ∧ Below w.heap.size w w' := by
  have := there_any l d c r w hl hd hc hr
  rwa [h.out] at this
theorem parity_any (l d c r : Int) (w : World) (hl : (-9223372036854775808 ≤ l ∧ l ≤ 9223372036854775807)) (hd : (-9223372036854775808 ≤ d ∧ d ≤ 9223372036854775807)) (hc : (-9223372036854775808 ≤ c ∧ c ≤ 9223372036854775807)) (hr : (-9223372036854775808 ≤ r ∧ r ≤ 9223372036854775807)) :
    Calls Tryz.prog 53 #[.agg #[.int .i64 l, .int .i64 d, .int .i64 c], .int .i64 r] w fun e w' => e = .returned (.tuple #[.int .i64 (plP l d c r), .int .i64 (plQ l d c r)]) ∧ Below w.heap.size w w' := by
  have G := gat_new w l d c 24 (0, 0)
  cases hT : plOk l d c r
  · have HP := Lib.hid (plP_no hT)
    have HQ := Lib.hid (plQ_no hT)
    have HT := Lib.hid hT
    clear hT
    go_enter Tryz.func53, Tryz.ntmps53
    go_wp2_with fail
    (with_reducible refine (there_no l d c r _ HT hl hd hc hr).mono ?_); rintro e w1 ⟨rfl, hb⟩
    have F := (below1 w _).trans (hb.mono (by simp))
    clear hb
    go_wp2_with fail
    go_ret2
    exact ⟨by rw [HP.out, HQ.out]; rfl, F⟩
  · have HT := Lib.hid hT
    obtain ⟨hg, h0, h1⟩ := plOk_yes hT
    have hb6 := gOk_bd hg
    have hq := quo_bd 16 h0 h1 (show 1 ≤ c by omega)
    have hm := rem_bd (r / c) (show 1 ≤ d by omega)
    have HP := Lib.hid (plP_yes hT)
    by_cases h6 : l = 6
    · subst h6
      have HQ := Lib.hid (plQ_6 hT)
      clear hT hg
      go_enter Tryz.func53, Tryz.ntmps53
      go_wp2_with fail
      (with_reducible refine (there_yes 6 d c r _ HT hl hd hc hr).mono ?_); rintro e w1 ⟨rfl, hb⟩
      have F := (below1 w _).trans (hb.mono (by simp))
      obtain ⟨g1, g2, g3⟩ := G.below hb (by simp)
      clear hb
      go_wp2_with fail
      go_quiet (fail)
      go_wp2_with fail
      go_quiet (fail)
      go_wp2
      go_ret2
      exact ⟨by rw [HP.out, HQ.out]; rfl, (F.trans (belowN _ _ _)).trans (belowN _ _ _)⟩
    · obtain rfl : l = 5 := by omega
      have HQ := Lib.hid (@plQ_5 d c r)
      clear hT hg h6
      go_enter Tryz.func53, Tryz.ntmps53
      go_wp2_with fail
      (with_reducible refine (there_yes 5 d c r _ HT hl hd hc hr).mono ?_); rintro e w1 ⟨rfl, hb⟩
      have F := (below1 w _).trans (hb.mono (by simp))
      obtain ⟨g1, g2, g3⟩ := G.below hb (by simp)
      clear hb
      go_wp2_with fail
      go_quiet (fail)
      go_wp2
      go_ret2
      exact ⟨by rw [HP.out, HQ.out]; rfl, F.trans (belowN _ _ _)⟩
end Go.Proofs.YtenkkdnepmoihaaGreatDoor
end
