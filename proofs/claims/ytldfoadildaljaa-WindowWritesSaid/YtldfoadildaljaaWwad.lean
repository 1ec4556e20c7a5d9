/- Texts put together: EraseMath, EraseBack, Place, PlaceDisk. -/
import Derived.Test.YtldfoadildaljaaWwaa
section
namespace Go.Proofs.Ytldfoadildaljaa

/-- Which of the first k rows are missing. -/
def missTo (rs : List (List UInt8)) (k : Nat) : List Nat := (List.range k).filter fun j => (rs.getD j []).length == 0
def missB (rs : List (List UInt8)) : List Nat := missTo rs rs.length
def sizedB (n : Nat) (rs : List (List UInt8)) : Bool := rs.all fun r => r.length == 0 || r.length == n
def fillR (n : Nat) (r : List UInt8) : List UInt8 := if r.length = 0 then zeroL n else r
def filledB (n : Nat) (rs : List (List UInt8)) : List (List UInt8) := rs.map (fillR n)
def byPB (p : List UInt8) (all : List (List UInt8)) : List UInt8 := pB [p, pB all]
def byQB (q : List UInt8) (all : List (List UInt8)) (k : Nat) : List UInt8 := scaleL (pB [q, qB all]) (gpow (-(k : Int)))
def bothB (p q : List UInt8) (all : List (List UInt8)) (i j : Nat) : List UInt8 :=
  scaleL (pB [pB [q, qB all], scaleL (pB [p, pB all]) (gpow i)]) (ginv (gpow i ^^^ gpow j))
def bothA (p q : List UInt8) (all : List (List UInt8)) (i j : Nat) : List UInt8 := pB [pB [p, pB all], bothB p q all i j]
/-- May it be asked, and can it be told? -/
def askB (n : Nat) (p q : List UInt8) (rs : List (List UInt8)) : Bool := decide (1 ≤ n) && (sizedB n [p, q] && sizedB n rs)
def canB (p q : List UInt8) (rs : List (List UInt8)) : Bool := decide ((missB rs).length ≤ 2 - (missB [p, q]).length) && (decide (0 < rs.length) && decide (rs.length ≤ 8))
def toldB (p q : List UInt8) (all : List (List UInt8)) : List Nat → List (List UInt8)
  | [] => all
  | [i] => all.set i (if p.length ≠ 0 then byPB p all else byQB q all i)
  | i :: j :: _ => (all.set i (bothA p q all i j)).set j (bothB p q all i j)
def solveB (n : Nat) (p q : List UInt8) (rs : List (List UInt8)) : Option (List (List UInt8)) :=
  if (askB n p q rs && canB p q rs) = true then some (toldB p q (filledB n rs) (missB rs)) else none

theorem missTo_succ (rs : List (List UInt8)) (k : Nat) : missTo rs (k + 1) = if (rs.getD k []).length = 0 then missTo rs k ++ [k] else missTo rs k := by
  unfold missTo
  rw [List.range_succ, List.filter_append]
  by_cases h : (rs.getD k []).length = 0
  · rw [if_pos h, List.filter_cons_of_pos (by simpa using h)]; rfl
  · rw [if_neg h, List.filter_cons_of_neg (by simpa using h)]; simp
theorem missTo_lt {rs : List (List UInt8)} {k : Nat} : ∀ j ∈ missTo rs k, j < k ∧ (rs.getD j []).length = 0 := fun j hj => by
  unfold missTo at hj
  simpa using hj
theorem missTo_len (rs : List (List UInt8)) (k : Nat) : (missTo rs k).length ≤ k := by
  unfold missTo
  have := List.length_filter_le (fun j => (rs.getD j []).length == 0) (List.range k)
  simpa using this
theorem missTo_mem {rs : List (List UInt8)} {k j : Nat} : j ∈ missTo rs k ↔ j < k ∧ (rs.getD j []).length = 0 := by
  unfold missTo
  simp
theorem missTo_sorted (rs : List (List UInt8)) (k : Nat) : (missTo rs k).Pairwise (· < ·) := List.Pairwise.filter _ List.pairwise_lt_range
theorem filledB_len (n : Nat) (rs : List (List UInt8)) : (filledB n rs).length = rs.length := by simp [filledB]
theorem sizedB_mem {n : Nat} {rs : List (List UInt8)} (h : sizedB n rs = true) : ∀ r ∈ rs, r.length = 0 ∨ r.length = n := fun r hr => by
  unfold sizedB at h
  rw [List.all_eq_true] at h
  simpa using h r hr
theorem sizedB_iff {n : Nat} {rs : List (List UInt8)} : sizedB n rs = true ↔ ∀ k, k < rs.length → (rs.getD k []).length = 0 ∨ (rs.getD k []).length = n := by
  constructor
  · intro h k hk
    exact sizedB_mem h _ (by simp [hk])
  · intro h
    unfold sizedB
    rw [List.all_eq_true]
    intro r hr
    obtain ⟨k, hk, rfl⟩ := List.getElem_of_mem hr
    have := h k hk
    simpa [hk] using this
theorem pB_len {N : Nat} {rs : List (List UInt8)} (h0 : 0 < rs.length) (hall : ∀ r ∈ rs, r.length = N) : (pB rs).length = N := (sumG_len gP_len (alikeB_of h0 hall).1).trans (alikeB_of h0 hall).2
theorem qB_len {N : Nat} {rs : List (List UInt8)} (h0 : 0 < rs.length) (hall : ∀ r ∈ rs, r.length = N) : (qB rs).length = N := (sumG_len gQ_len (alikeB_of h0 hall).1).trans (alikeB_of h0 hall).2

section
variable {N : Nat} {p q : List UInt8} {all : List (List UInt8)} {i j : Nat}
end
end Go.Proofs.Ytldfoadildaljaa
end
section
namespace Go.Proofs.Ytldfoadildaljaa

theorem ext_getD {a b : List (List UInt8)} (h : a.length = b.length) (hk : ∀ k, k < a.length → a.getD k [] = b.getD k []) : a = b := by
  apply List.ext_getElem h
  intro k h1 h2
  have := hk k h1
  simpa [h1, h2] using this
theorem getD_set_other {rs : List (List UInt8)} {i k : Nat} {r : List UInt8} (h : i ≠ k) : (rs.set i r).getD k [] = rs.getD k [] := by
  simp [List.getElem?_set_ne h]
theorem getD_set_same {rs : List (List UInt8)} {i : Nat} {r : List UInt8} (h : i < rs.length) : (rs.set i r).getD i [] = r := by
  simp [h]

section
variable {N : Nat} {fs rs : List (List UInt8)}
end
end Go.Proofs.Ytldfoadildaljaa
end
section
set_option linter.unusedVariables false
set_option linter.unusedSimpArgs false
namespace Go.Proofs.Ytldfoadildaljaa
open Go.RowKit

theorem there_any (l d c r : Int) (w : World) (hl : (-9223372036854775808 ≤ l ∧ l ≤ 9223372036854775807)) (hd : (-9223372036854775808 ≤ d ∧ d ≤ 9223372036854775807)) (hc : (-9223372036854775808 ≤ c ∧ c ≤ 9223372036854775807)) (hr : (-9223372036854775808 ≤ r ∧ r ≤ 9223372036854775807)) :
    Calls Try.prog 87 #[.agg #[.int .i64 l, .int .i64 d, .int .i64 c], .int .i64 r] w fun e w' => e = .returned (.bool (plOk l d c r)) ∧ Below w.heap.size w w' := by
  have G := gat_new w l d c 23 (0, 0)
  cases hG : gOk l d c
  · have H : Hid (plOk l d c r = false) := plOk_no (by rw [hG]; simp)
    have HG := Lib.hid hG
    clear hG
    go_enter Try.func87, Try.ntmps87
    go_wp2_with fail
    (with_reducible refine (check_no l d c _ HG hl hd hc).mono ?_); rintro e w1 ⟨rfl, hb⟩
    have F := (below1 w _).trans (hb.mono (by simp))
    clear hb
    go_wp2_with fail
    go_ret
    exact ⟨by rw [H.out]; rfl, F⟩
  · have HG := Lib.hid hG
    by_cases h0 : 0 ≤ r
    · have e0 : decide (0 ≤ r) = true := decide_eq_true h0
      by_cases h1 : r < 16
      · have e1 : decide (r < 16) = true := decide_eq_true h1
        have H : Hid (plOk l d c r = true) := plOk_mk hG h0 h1
        clear hG
        go_enter Try.func87, Try.ntmps87
        go_wp2_with fail
        (with_reducible refine (check_yes l d c _ HG hl hd hc).mono ?_); rintro e w1 ⟨rfl, hb⟩
        have F := (below1 w _).trans (hb.mono (by simp))
        clear hb
        go_wp2_with fail
        go_ret
        exact ⟨by rw [H.out]; rfl, F⟩
      · have e1 : decide (r < 16) = false := decide_eq_false h1
        have H : Hid (plOk l d c r = false) := plOk_no (by omega)
        clear hG
        go_enter Try.func87, Try.ntmps87
        go_wp2_with fail
        (with_reducible refine (check_yes l d c _ HG hl hd hc).mono ?_); rintro e w1 ⟨rfl, hb⟩
        have F := (below1 w _).trans (hb.mono (by simp))
        clear hb
        go_wp2_with fail
        go_ret
        exact ⟨by rw [H.out]; rfl, F⟩
    · have e0 : decide (0 ≤ r) = false := decide_eq_false h0
      have H : Hid (plOk l d c r = false) := plOk_no (by omega)
      clear hG
      go_enter Try.func87, Try.ntmps87
      go_wp2_with fail
      (with_reducible refine (check_yes l d c _ HG hl hd hc).mono ?_); rintro e w1 ⟨rfl, hb⟩
      have F := (below1 w _).trans (hb.mono (by simp))
      clear hb
      go_wp2_with fail
      go_ret
      exact ⟨by rw [H.out]; rfl, F⟩
theorem there_yes (l d c r : Int) (w : World) (h : Hid (plOk l d c r = true)) (hl : (-9223372036854775808 ≤ l ∧ l ≤ 9223372036854775807)) (hd : (-9223372036854775808 ≤ d ∧ d ≤ 9223372036854775807)) (hc : (-9223372036854775808 ≤ c ∧ c ≤ 9223372036854775807)) (hr : (-9223372036854775808 ≤ r ∧ r ≤ 9223372036854775807)) :
    Calls Try.prog 87 #[.agg #[.int .i64 l, .int .i64 d, .int .i64 c], .int .i64 r] w fun e w' => e = .returned (.bool true) ∧ Below w.heap.size w w' := by
  have := there_any l d c r w hl hd hc hr
  rwa [h.out] at this
theorem there_no (l d c r : Int) (w : World) (h : Hid (plOk l d c r = false)) (hl : (-9223372036854775808 ≤ l ∧ l ≤ 9223372036854775807)) (hd : (-9223372036854775808 ≤ d ∧ d ≤ 9223372036854775807)) (hc : (-9223372036854775808 ≤ c ∧ c ≤ 9223372036854775807)) (hr : (-9223372036854775808 ≤ r ∧ r ≤ 9223372036854775807)) :
    Calls Try.prog 87 #[.agg #[.int .i64 l, .int .i64 d, .int .i64 c], .int .i64 r] w fun e w' => e = .returned (.bool false) ∧ Below w.heap.size w w' := by
  have := there_any l d c r w hl hd hc hr
  rwa [h.out] at this
theorem parity_any (l d c r : Int) (w : World) (hl : (-9223372036854775808 ≤ l ∧ l ≤ 9223372036854775807)) (hd : (-9223372036854775808 ≤ d ∧ d ≤ 9223372036854775807)) (hc : (-9223372036854775808 ≤ c ∧ c ≤ 9223372036854775807)) (hr : (-9223372036854775808 ≤ r ∧ r ≤ 9223372036854775807)) :
    Calls Try.prog 76 #[.agg #[.int .i64 l, .int .i64 d, .int .i64 c], .int .i64 r] w fun e w' => e = .returned (.tuple #[.int .i64 (plP l d c r), .int .i64 (plQ l d c r)]) ∧ Below w.heap.size w w' := by
  have G := gat_new w l d c 23 (0, 0)
  cases hT : plOk l d c r
  · have HP := Lib.hid (plP_no hT)
    have HQ := Lib.hid (plQ_no hT)
    have HT := Lib.hid hT
    clear hT
    go_enter Try.func76, Try.ntmps76
    go_wp2_with fail
    (with_reducible refine (there_no l d c r _ HT hl hd hc hr).mono ?_); rintro e w1 ⟨rfl, hb⟩
    have F := (below1 w _).trans (hb.mono (by simp))
    clear hb
    go_wp2_with fail
    go_ret2
    exact ⟨by rw [HP.out, HQ.out]; rfl, F⟩
  · have HT := Lib.hid hT
    obtain ⟨hg, h0, h1⟩ := plOk_yes hT
    have hb6 := gOk_bd hg
    have hq := quo_bd 16 h0 h1 (show 1 ≤ c by omega)
    have hm := rem_bd (r / c) (show 1 ≤ d by omega)
    have HP := Lib.hid (plP_yes hT)
    by_cases h6 : l = 6
    · subst h6
      have HQ := Lib.hid (plQ_6 hT)
      clear hT hg
      go_enter Try.func76, Try.ntmps76
      go_wp2_with fail
      (with_reducible refine (there_yes 6 d c r _ HT hl hd hc hr).mono ?_); rintro e w1 ⟨rfl, hb⟩
      have F := (below1 w _).trans (hb.mono (by simp))
      obtain ⟨g1, g2, g3⟩ := G.below hb (by simp)
      clear hb
      go_wp2_with fail
      go_quiet (fail)
      go_wp2_with fail
      go_quiet (fail)
      go_wp2
      go_ret2
      exact ⟨by rw [HP.out, HQ.out]; rfl, (F.trans (belowN _ _ _)).trans (belowN _ _ _)⟩
    · obtain rfl : l = 5 := by omega
      have HQ := Lib.hid (@plQ_5 d c r)
      clear hT hg h6
      go_enter Try.func76, Try.ntmps76
      go_wp2_with fail
      (with_reducible refine (there_yes 5 d c r _ HT hl hd hc hr).mono ?_); rintro e w1 ⟨rfl, hb⟩
      have F := (below1 w _).trans (hb.mono (by simp))
      obtain ⟨g1, g2, g3⟩ := G.below hb (by simp)
      clear hb
      go_wp2_with fail
      go_quiet (fail)
      go_wp2
      go_ret2
      exact ⟨by rw [HP.out, HQ.out]; rfl, F.trans (belowN _ _ _)⟩
end Go.Proofs.Ytldfoadildaljaa
end
section
set_option linter.unusedVariables false
set_option linter.unusedSimpArgs false
namespace Go.Proofs.Ytldfoadildaljaa
open Go.RowKit

theorem first_any (l d c r : Int) (w : World) (HT : Hid (plOk l d c r = true)) (hl : (-9223372036854775808 ≤ l ∧ l ≤ 9223372036854775807)) (hd : (-9223372036854775808 ≤ d ∧ d ≤ 9223372036854775807)) (hc : (-9223372036854775808 ≤ c ∧ c ≤ 9223372036854775807)) (hr : (-9223372036854775808 ≤ r ∧ r ≤ 9223372036854775807)) :
    Calls Try.prog 101 #[.agg #[.int .i64 l, .int .i64 d, .int .i64 c], .int .i64 r] w fun e w' => e = .returned (.int .i64 (plF l d c r)) ∧ Below w.heap.size w w' := by
  have G := gat_new w l d c 23 (0, 0)
  obtain ⟨hg, h0, h1⟩ := plOk_yes HT.out
  have hb6 := gOk_bd hg
  have n1 : ¬ d = 0 := by omega
  have n2 : ¬ c = 0 := by omega
  have hq := quo_bd 16 h0 h1 (show 1 ≤ c by omega)
  have hm := rem_bd (r / c) (show 1 ≤ d by omega)
  have HC := Lib.hid (fun W => parity_any l d c r W hl hd hc hr)
  have HB := Lib.hid (fun W => budget_any l d c W hl hd hc)
  have HF : Hid (plF l d c r = (plP l d c r + gBud l d c) % d) := by rw [plP_yes HT.out, gBud_yes hg]; rfl
  have hp : 0 ≤ plP l d c r ∧ plP l d c r < d := by rw [plP_yes HT.out]; omega
  have hbd := gBud_bd l d c
  generalize plP l d c r = p at HC HF hp
  generalize plQ l d c r = q at HC
  generalize gBud l d c = bd at HB HF hbd
  have z1 : IntKind.i64.wrap (p + bd) = p + bd := IntWalk.i64_in _ (by omega)
  clear hg hq hm h0 h1
  go_enter Try.func101, Try.ntmps101
  go_wp2_with fail
  (with_reducible refine (HC.out _).mono ?_); rintro e w1 ⟨rfl, hb⟩
  have S1 := GS.later (w0 := w) (B := w.heap.size) ⟨G.1, G.2.1, G.2.2, below1 w _⟩ hb
  clear hb G
  obtain ⟨g1, g2, g3, F⟩ := S1
  go_wp2_with fail
  have S0 : GS w w.heap.size w.heap.size l d c w1 := ⟨g1, g2, g3, F⟩
  clear g1 g2 g3 F
  go_region_held3 (GS w w.heap.size w.heap.size l d c)
    (first | assumption | exact GS.drew ‹_›)
    ((go_at_call 97; (with_reducible refine (HB.out _).mono ?_); rintro e w2 ⟨rfl, hb⟩; have S2 := (GS.drew S0).later hb))
  go_wp2
  go_ret
  exact ⟨by rw [HF.out, ← Int.tmod_eq_emod_of_nonneg (show 0 ≤ p + bd by omega)]; rfl, S2.2.2.2⟩
theorem number_any (l d c r k : Int) (w : World) (HT : Hid (plOk l d c r = true)) (hk : 0 ≤ k ∧ k < 8) (hl : (-9223372036854775808 ≤ l ∧ l ≤ 9223372036854775807)) (hd : (-9223372036854775808 ≤ d ∧ d ≤ 9223372036854775807)) (hc : (-9223372036854775808 ≤ c ∧ c ≤ 9223372036854775807)) (hr : (-9223372036854775808 ≤ r ∧ r ≤ 9223372036854775807)) :
    Calls Try.prog 88 #[.agg #[.int .i64 l, .int .i64 d, .int .i64 c], .int .i64 r, .int .i64 k] w fun e w' => e = .returned (.int .i64 (plN l d c r k)) ∧ Below w.heap.size w w' := by
  have G := gat_new w l d c 23 (0, 0)
  obtain ⟨hg, h0, h1⟩ := plOk_yes HT.out
  have hb6 := gOk_bd hg
  have n1 : ¬ d = 0 := by omega
  have n2 : ¬ c = 0 := by omega
  have hq := quo_bd 16 h0 h1 (show 1 ≤ c by omega)
  have hm := rem_bd r (show 1 ≤ c by omega)
  have HW := Lib.hid (fun W => width_any l d c W hl hd hc)
  have HN : Hid (plN l d c r k = (r / c * gWid l d c + k) * c + r % c) := by rw [gWid_yes hg]; rfl
  have hw := gWid_bd l d c
  generalize gWid l d c = wd at HW HN hw
  have hx : 0 ≤ r / c * wd ∧ r / c * wd ≤ 112 := ⟨Int.mul_nonneg hq.1 hw.1, by
    have := Int.mul_le_mul (show r / c ≤ 16 by omega) hw.2 hw.1 (by omega)
    omega⟩
  have hy : 0 ≤ (r / c * wd + k) * c ∧ (r / c * wd + k) * c ≤ 120 * 4 := ⟨Int.mul_nonneg (by omega) (by omega), Int.mul_le_mul (by omega) (by omega) (by omega) (by omega)⟩
  have z1 : IntKind.i64.wrap (r / c * wd) = r / c * wd := IntWalk.i64_in _ (by omega)
  have z2 : IntKind.i64.wrap (r / c * wd + k) = r / c * wd + k := IntWalk.i64_in _ (by omega)
  have z3 : r.tdiv c = r / c := Int.tdiv_eq_ediv_of_nonneg h0
  clear hg
  go_enter Try.func88, Try.ntmps88
  go_wp2_with fail
  have S0 : GS w w.heap.size w.heap.size l d c (w.alloc (.cells #[.int .i64 l, .int .i64 d, .int .i64 c] 23 (0, 0))) := ⟨G.1, G.2.1, G.2.2, below1 w _⟩
  clear G
  go_region_held3 (GS w w.heap.size w.heap.size l d c)
    (first | assumption | exact GS.drew ‹_›)
    ((go_at_call 71; (with_reducible refine (HW.out _).mono ?_); rintro e w2 ⟨rfl, hb⟩; have S2 := (GS.drew S0).later hb))
  obtain ⟨g1, g2, g3, F⟩ := S2
  go_wp2_with fail
  go_quiet (fail)
  go_wp2
  go_ret
  exact ⟨by rw [HN.out]; rfl, F.trans (belowN _ _ _)⟩
theorem disk_any (l d c r k : Int) (w : World) (hl : (-9223372036854775808 ≤ l ∧ l ≤ 9223372036854775807)) (hd : (-9223372036854775808 ≤ d ∧ d ≤ 9223372036854775807)) (hc : (-9223372036854775808 ≤ c ∧ c ≤ 9223372036854775807)) (hr : (-9223372036854775808 ≤ r ∧ r ≤ 9223372036854775807)) (hk : (-9223372036854775808 ≤ k ∧ k ≤ 9223372036854775807)) :
    Calls Try.prog 78 #[.agg #[.int .i64 l, .int .i64 d, .int .i64 c], .int .i64 r, .int .i64 k] w fun e w' => e = .returned (.int .i64 (plD l d c r k)) ∧ Below w.heap.size w w' := by
  have G := gat_new w l d c 23 (0, 0)
  have HD : Hid (∀ b, plDok l d c r k = b → plD l d c r k = if b = true then (plF l d c r + k) % d else -1) := Lib.hid (fun b h => by subst h; rfl)
  have HW := Lib.hid (fun W => width_any l d c W hl hd hc)
  have HK : Hid (plDok l d c r k = (plOk l d c r && decide (0 ≤ k ∧ k < gWid l d c))) := rfl
  cases hT : plOk l d c r
  · have H := Lib.hid (HD.out false (by rw [HK.out, hT]; rfl))
    have HT := Lib.hid hT
    clear hT
    go_enter Try.func78, Try.ntmps78
    go_wp2_with fail
    (with_reducible refine (there_no l d c r _ HT hl hd hc hr).mono ?_); rintro e w1 ⟨rfl, hb⟩
    have F := (below1 w _).trans (hb.mono (by simp))
    clear hb
    go_wp2_with fail
    go_ret
    exact ⟨by rw [H.out]; rfl, F⟩
  · have HT := Lib.hid hT
    by_cases h0 : k < 0
    · have H := Lib.hid (HD.out false (by rw [HK.out, hT, decide_eq_false (by omega)]; rfl))
      have e0 : decide (k < 0) = true := decide_eq_true h0
      clear hT
      go_enter Try.func78, Try.ntmps78
      go_wp2_with fail
      (with_reducible refine (there_yes l d c r _ HT hl hd hc hr).mono ?_); rintro e w1 ⟨rfl, hb⟩
      have F := (below1 w _).trans (hb.mono (by simp))
      clear hb
      go_wp2_with fail
      go_ret
      exact ⟨by rw [H.out]; rfl, F⟩
    · have e0 : decide (k < 0) = false := decide_eq_false h0
      obtain ⟨hg, h00, h11⟩ := plOk_yes HT.out
      have hb6 := gOk_bd hg
      have n1 : ¬ d = 0 := by omega
      have hw := gWid_bd l d c
      have hf := plF_bd l c r (show 1 ≤ d by omega)
      have HF := Lib.hid (fun W => first_any l d c r W HT hl hd hc hr)
      by_cases h1 : gWid l d c ≤ k
      · have H := Lib.hid (HD.out false (by rw [HK.out, hT, decide_eq_false (by omega)]; rfl))
        generalize gWid l d c = wd at HW hw h1
        have e1 : decide (wd ≤ k) = true := decide_eq_true h1
        clear hT hg h00 h11 HK HD
        go_enter Try.func78, Try.ntmps78
        go_wp2_with fail
        (with_reducible refine (there_yes l d c r _ HT hl hd hc hr).mono ?_); rintro e w1 ⟨rfl, hb⟩
        have S1 := GS.later (w0 := w) (B := w.heap.size) ⟨G.1, G.2.1, G.2.2, below1 w _⟩ hb
        clear hb G
        obtain ⟨g1, g2, g3, F⟩ := S1
        go_wp2_with fail
        (with_reducible refine (HW.out _).mono ?_); rintro e w2 ⟨rfl, hb⟩
        have S2 := GS.later (w0 := w) (B := w.heap.size) ⟨g1, g2, g3, F⟩ hb
        clear hb g1 g2 g3 F
        go_wp2_with fail
        go_ret
        exact ⟨by rw [H.out]; rfl, S2.2.2.2⟩
      · have H := Lib.hid ((HD.out true (by rw [HK.out, hT, decide_eq_true (by omega)]; rfl)).trans (if_pos rfl))
        generalize gWid l d c = wd at HW hw h1
        generalize plF l d c r = f at HF hf H
        have e1 : decide (wd ≤ k) = false := decide_eq_false h1
        have z1 : IntKind.i64.wrap (f + k) = f + k := IntWalk.i64_in _ (by omega)
        clear hT hg h00 h11 HK HD
        go_enter Try.func78, Try.ntmps78
        go_wp2_with fail
        (with_reducible refine (there_yes l d c r _ HT hl hd hc hr).mono ?_); rintro e w1 ⟨rfl, hb⟩
        have S1 := GS.later (w0 := w) (B := w.heap.size) ⟨G.1, G.2.1, G.2.2, below1 w _⟩ hb
        clear hb G
        obtain ⟨g1, g2, g3, F⟩ := S1
        go_wp2_with fail
        (with_reducible refine (HW.out _).mono ?_); rintro e w2 ⟨rfl, hb⟩
        have S2 := GS.later (w0 := w) (B := w.heap.size) ⟨g1, g2, g3, F⟩ hb
        clear hb g1 g2 g3 F
        obtain ⟨g1, g2, g3, F⟩ := S2
        go_wp2_with fail
        have S0 : GS w w.heap.size w.heap.size l d c w2 := ⟨g1, g2, g3, F⟩
        clear g1 g2 g3 F
        go_region_held3 (GS w w.heap.size w.heap.size l d c)
          (first | assumption | exact GS.drew ‹_›)
          ((go_at_call 101; (with_reducible refine (HF.out _).mono ?_); rintro e w3 ⟨rfl, hb⟩; have S3 := (GS.drew S0).later hb))
        go_wp2
        go_ret
        exact ⟨by rw [H.out, ← Int.tmod_eq_emod_of_nonneg (show 0 ≤ f + k by omega)]; rfl, S3.2.2.2⟩
end Go.Proofs.Ytldfoadildaljaa
end
