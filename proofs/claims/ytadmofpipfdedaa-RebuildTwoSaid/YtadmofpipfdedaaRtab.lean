/- Texts put together: RefGeo, PlayGeo, RefPlace, RefGeoCap. -/
import Derived.Test.YtadmofpipfdedaaProg
import Derived.Test.YtadmofpipfdedaaRtaa
section
namespace Go.Proofs.Ytadmofpipfdedaa
open Go.RowKit

theorem ibeq_no {a b : Int} (h : a ≠ b) : (a == b) = false := by simpa using h
set_option maxHeartbeats 1000000 in
theorem refCheck_any (l d c : Int) (w : World) (_ : -9223372036854775808 ≤ l ∧ l ≤ 9223372036854775807) (_ : -9223372036854775808 ≤ d ∧ d ≤ 9223372036854775807) (_ : -9223372036854775808 ≤ c ∧ c ≤ 9223372036854775807) :
    Calls Try.prog 27 #[.agg #[.int .i64 l, .int .i64 d, .int .i64 c]] w fun e w' => e = .returned (.bool (gOk l d c)) ∧ Below w.heap.size w w' := by
  by_cases h0 : l = 5 ∨ l = 6
  · rcases h0 with rfl | rfl
    · by_cases h3 : 3 ≤ d
      · by_cases h8 : d ≤ 8
        · by_cases hcc : c = 1 ∨ c = 2 ∨ c = 4
          · have H : Hid (gOk 5 d c = true) := gOk_mk (by omega)
            rcases hcc with rfl | rfl | rfl
            all_goals
              go_enter Try.func27, Try.ntmps27
              go_wp2
              go_ret
              exact ⟨by rw [H.out]; rfl, below1 _ _⟩
          · have H : Hid (gOk 5 d c = false) := gOk_no (by omega)
            have e1 := ibeq_no (show c ≠ 1 by omega)
            have e2 := ibeq_no (show c ≠ 2 by omega)
            have e4 := ibeq_no (show c ≠ 4 by omega)
            clear hcc
            go_enter Try.func27, Try.ntmps27
            go_wp2
            go_ret
            exact ⟨by rw [H.out]; rfl, below1 _ _⟩
        · have H : Hid (gOk 5 d c = false) := gOk_no (by omega)
          go_enter Try.func27, Try.ntmps27
          go_wp2
          go_ret
          exact ⟨by rw [H.out]; rfl, below1 _ _⟩
      · have H : Hid (gOk 5 d c = false) := gOk_no (by omega)
        go_enter Try.func27, Try.ntmps27
        go_wp2
        go_ret
        exact ⟨by rw [H.out]; rfl, below1 _ _⟩
    · by_cases h3 : 4 ≤ d
      · by_cases h8 : d ≤ 8
        · by_cases hcc : c = 1 ∨ c = 2 ∨ c = 4
          · have H : Hid (gOk 6 d c = true) := gOk_mk (by omega)
            rcases hcc with rfl | rfl | rfl
            all_goals
              go_enter Try.func27, Try.ntmps27
              go_wp2
              go_ret
              exact ⟨by rw [H.out]; rfl, below1 _ _⟩
          · have H : Hid (gOk 6 d c = false) := gOk_no (by omega)
            have e1 := ibeq_no (show c ≠ 1 by omega)
            have e2 := ibeq_no (show c ≠ 2 by omega)
            have e4 := ibeq_no (show c ≠ 4 by omega)
            clear hcc
            go_enter Try.func27, Try.ntmps27
            go_wp2
            go_ret
            exact ⟨by rw [H.out]; rfl, below1 _ _⟩
        · have H : Hid (gOk 6 d c = false) := gOk_no (by omega)
          go_enter Try.func27, Try.ntmps27
          go_wp2
          go_ret
          exact ⟨by rw [H.out]; rfl, below1 _ _⟩
      · have H : Hid (gOk 6 d c = false) := gOk_no (by omega)
        go_enter Try.func27, Try.ntmps27
        go_wp2
        go_ret
        exact ⟨by rw [H.out]; rfl, below1 _ _⟩
  · have H : Hid (gOk l d c = false) := gOk_no (by omega)
    have e5 := ibeq_no (show l ≠ 5 by omega)
    have e6 := ibeq_no (show l ≠ 6 by omega)
    clear h0
    go_enter Try.func27, Try.ntmps27
    go_wp2
    go_ret
    exact ⟨by rw [H.out]; rfl, below1 _ _⟩
theorem refCheck_yes (l d c : Int) (w : World) (h : Hid (gOk l d c = true)) (hl : -9223372036854775808 ≤ l ∧ l ≤ 9223372036854775807) (hd : -9223372036854775808 ≤ d ∧ d ≤ 9223372036854775807) (hc : -9223372036854775808 ≤ c ∧ c ≤ 9223372036854775807) :
    Calls Try.prog 27 #[.agg #[.int .i64 l, .int .i64 d, .int .i64 c]] w fun e w' => e = .returned (.bool true) ∧ Below w.heap.size w w' := by
  have := refCheck_any l d c w hl hd hc
  rwa [h.out] at this
theorem refCheck_no (l d c : Int) (w : World) (h : Hid (gOk l d c = false)) (hl : -9223372036854775808 ≤ l ∧ l ≤ 9223372036854775807) (hd : -9223372036854775808 ≤ d ∧ d ≤ 9223372036854775807) (hc : -9223372036854775808 ≤ c ∧ c ≤ 9223372036854775807) :
    Calls Try.prog 27 #[.agg #[.int .i64 l, .int .i64 d, .int .i64 c]] w fun e w' => e = .returned (.bool false) ∧ Below w.heap.size w w' := by
  have := refCheck_any l d c w hl hd hc
  rwa [h.out] at this
theorem refBudget_any (l d c : Int) (w : World) (hl : -9223372036854775808 ≤ l ∧ l ≤ 9223372036854775807) (hd : -9223372036854775808 ≤ d ∧ d ≤ 9223372036854775807) (hc : -9223372036854775808 ≤ c ∧ c ≤ 9223372036854775807) :
    Calls Try.prog 68 #[.agg #[.int .i64 l, .int .i64 d, .int .i64 c]] w fun e w' => e = .returned (.int .i64 (gBud l d c)) ∧ Below w.heap.size w w' := by
  have G := gat_new w l d c 25 (0, 0)
  cases hG : gOk l d c
  · have HG := Lib.hid hG
    clear hG
    go_enter Try.func68, Try.ntmps68
    go_wp2_with fail
    (with_reducible refine (refCheck_no l d c _ HG hl hd hc).mono ?_); rintro e w1 ⟨rfl, hb⟩
    have F := (below1 w _).trans (hb.mono (by simp))
    clear hb
    go_wp2_with fail
    go_ret
    exact ⟨by rw [gBud_no HG.out]; rfl, F⟩
  · have HG := Lib.hid hG
    clear hG
    have hb6 := gOk_bd HG.out
    go_enter Try.func68, Try.ntmps68
    go_wp2_with fail
    (with_reducible refine (refCheck_yes l d c _ HG hl hd hc).mono ?_); rintro e w1 ⟨rfl, hb⟩
    have F := (below1 w _).trans (hb.mono (by simp))
    obtain ⟨g1, g2, g3⟩ := G.below hb (by simp)
    clear hb
    go_wp2_with fail
    go_ret
    exact ⟨by rw [gBud_yes HG.out]; rfl, F⟩
theorem refWidth_any (l d c : Int) (w : World) (hl : -9223372036854775808 ≤ l ∧ l ≤ 9223372036854775807) (hd : -9223372036854775808 ≤ d ∧ d ≤ 9223372036854775807) (hc : -9223372036854775808 ≤ c ∧ c ≤ 9223372036854775807) :
    Calls Try.prog 38 #[.agg #[.int .i64 l, .int .i64 d, .int .i64 c]] w fun e w' => e = .returned (.int .i64 (gWid l d c)) ∧ Below w.heap.size w w' := by
  have G := gat_new w l d c 25 (0, 0)
  cases hG : gOk l d c
  · have HG := Lib.hid hG
    clear hG
    go_enter Try.func38, Try.ntmps38
    go_wp2_with fail
    (with_reducible refine (refCheck_no l d c _ HG hl hd hc).mono ?_); rintro e w1 ⟨rfl, hb⟩
    have F := (below1 w _).trans (hb.mono (by simp))
    clear hb
    go_wp2_with fail
    go_ret
    exact ⟨by rw [gWid_no HG.out]; rfl, F⟩
  · have HG := Lib.hid hG
    clear hG
    have HW : Hid (gWid l d c = d - gBud l d c) := by rw [gWid_yes HG.out, gBud_yes HG.out]; rfl
    have hB := gBud_bd l d c
    have hd3 := gOk_bd HG.out
    go_enter Try.func38, Try.ntmps38
    go_wp2_with fail
    (with_reducible refine (refCheck_yes l d c _ HG hl hd hc).mono ?_); rintro e w1 ⟨rfl, hb⟩
    have F := (below1 w _).trans (hb.mono (by simp))
    have G1 := G.below hb (by simp)
    have z1 : w.heap.size < w1.heap.size := by have := hb.size; simp at this; omega
    clear hb G
    have HB : Hid (∀ W, Calls Try.prog 68 #[.agg #[.int .i64 l, .int .i64 d, .int .i64 c]] W fun e w' => e = .returned (.int .i64 (gBud l d c)) ∧ Below W.heap.size W w') := Lib.hid fun W => refBudget_any l d c W hl hd hc
    generalize gBud l d c = bd at hB HW HB
    obtain ⟨g1, g2, g3⟩ := G1
    go_wp2_with fail
    have S0 : GS w w.heap.size w.heap.size l d c w1 := ⟨g1, g2, g3, F⟩
    clear g1 g2 g3 F z1
    go_region_held3 (GS w w.heap.size w.heap.size l d c)
      (first | assumption | exact GS.drew ‹_›)
      ((go_at_call 68; (with_reducible refine (HB.out _).mono ?_); rintro e w2 ⟨rfl, hb⟩; have S2 := (GS.drew S0).later hb))
    go_wp2
    go_ret
    exact ⟨by rw [HW.out]; exact gret_int (IntWalk.i64_in _ (by omega)), S2.2.2.2⟩
end Go.Proofs.Ytadmofpipfdedaa
end
section
set_option linter.unusedVariables false
set_option linter.unusedSimpArgs false
namespace Go.Proofs.Ytadmofpipfdedaa
open Go.RowKit

/-- The chunks there are. -/
def chk (k : Int) : Int := if k = 0 then 1 else if k = 1 then 2 else 4
def pgE (n : Int) : Int := withinI (n.tdiv 24) 40
def pgL (n : Int) : Int := if pgE n = 36 then withinI n 9 else 5 + withinI n 2
def pgD (n : Int) : Int := if pgE n = 37 then withinI n 12 - 1 else if pgE n = 39 then 8 else if withinI n 2 = 1 then 4 + withinI (n.tdiv 6) 4 else 3 + withinI (n.tdiv 6) 4
def pgC (n : Int) : Int := if pgE n = 38 then withinI n 9 - 1 else chk (withinI (n.tdiv 2) 3)
theorem pg_bd (n : Int) : (0 ≤ pgL n ∧ pgL n ≤ 8) ∧ (-1 ≤ pgD n ∧ pgD n ≤ 10) ∧ (-1 ≤ pgC n ∧ pgC n ≤ 7) := by
  have b1 := withinI_bd n 2 (by omega)
  have b3 := withinI_bd (n.tdiv 6) 4 (by omega)
  have b5 := withinI_bd n 9 (by omega)
  have b6 := withinI_bd n 12 (by omega)
  refine ⟨?_, ?_, ?_⟩
  · unfold pgL; split <;> omega
  · unfold pgD; split
    · omega
    · split
      · omega
      · split <;> omega
  · unfold pgC chk; split
    · omega
    · split
      · omega
      · split <;> omega
theorem tdiv_nonneg_bd (m k : Int) (hm : 0 ≤ m) (hk : 1 ≤ k) : 0 ≤ m.tdiv k ∧ m.tdiv k ≤ m :=
  ⟨Int.tdiv_nonneg hm (by omega), Int.tdiv_le_self _ hm⟩
theorem tdiv_i64 (n k : Int) (hk : 1 ≤ k) (hn : -9223372036854775808 ≤ n ∧ n ≤ 9223372036854775807) : -9223372036854775808 ≤ n.tdiv k ∧ n.tdiv k ≤ 9223372036854775807 := by
  by_cases h : 0 ≤ n
  · have := tdiv_nonneg_bd n k h hk; omega
  · have := tdiv_nonneg_bd (-n) k (by omega) hk
    rw [Int.neg_tdiv] at this
    omega
theorem chk_cell (w : World) (k : Nat) (hk : k < 3) (t : TypeId) : (w.alloc (.cells #[.int .i64 1, .int .i64 2, .int .i64 4] t)).cell? ⟨w.heap.size, k, none⟩ = some (.int .i64 (chk k)) := by
  have c := fun i => cell_of_row _ _ i _ _ _ (heap_alloc_new w (.cells #[.int .i64 1, .int .i64 2, .int .i64 4] t))
  match k, hk with
  | 0, _ => exact c 0
  | 1, _ => exact c 1
  | 2, _ => exact c 2
/-- What is known of a number's parts. -/
structure PG (n : Int) (k1 : Int) (k2 : Nat) (k3 k4 k5 k6 : Int) : Prop where
  b1 : 0 ≤ k1 ∧ k1 < 2
  b2 : k2 < 3
  b3 : 0 ≤ k3 ∧ k3 < 4
  b4 : 0 ≤ k4 ∧ k4 < 40
  b5 : 0 ≤ k5 ∧ k5 < 9
  b6 : 0 ≤ k6 ∧ k6 < 12
  l : pgL n = if k4 = 36 then k5 else 5 + k1
  d : pgD n = if k4 = 37 then k6 - 1 else if k4 = 39 then 8 else if k1 = 1 then 4 + k3 else 3 + k3
  c : pgC n = if k4 = 38 then k5 - 1 else chk k2
set_option maxHeartbeats 2000000 in
theorem pgw (n : Int) (k1 k3 k4 k5 k6 : Int) (k2 : Nat) (w : World) (hn : -9223372036854775808 ≤ n ∧ n ≤ 9223372036854775807) (P : PG n k1 k2 k3 k4 k5 k6) (W1 : Hid (∀ V, Calls Try.prog 11 #[.int .i64 (n), .int .i64 2] V fun e w' => e = .returned (.int .i64 k1) ∧ w' = V)) (W2 : Hid (∀ V, Calls Try.prog 11 #[.int .i64 (n.tdiv 2), .int .i64 3] V fun e w' => e = .returned (.int .i64 (k2 : Int)) ∧ w' = V)) (W3 : Hid (∀ V, Calls Try.prog 11 #[.int .i64 (n.tdiv 6), .int .i64 4] V fun e w' => e = .returned (.int .i64 k3) ∧ w' = V)) (W4 : Hid (∀ V, Calls Try.prog 11 #[.int .i64 (n.tdiv 24), .int .i64 40] V fun e w' => e = .returned (.int .i64 k4) ∧ w' = V)) (W5 : Hid (∀ V, Calls Try.prog 11 #[.int .i64 (n), .int .i64 9] V fun e w' => e = .returned (.int .i64 k5) ∧ w' = V)) (W6 : Hid (∀ V, Calls Try.prog 11 #[.int .i64 (n), .int .i64 12] V fun e w' => e = .returned (.int .i64 k6) ∧ w' = V)) :
    Calls Try.prog 56 #[.int .i64 n] w fun e w' => e = .returned (.agg #[.int .i64 (pgL n), .int .i64 (pgD n), .int .i64 (pgC n)]) ∧ Below w.heap.size w w' := by
  obtain ⟨b1, b2, b3, b4, b5, b6, hl, hd, hc⟩ := P
  have HL := Lib.hid hl
  have HD := Lib.hid hd
  have HC := Lib.hid hc
  have HB := Lib.hid b4
  obtain ⟨D0, hD⟩ : ∃ D0 : Int, D0 = if k1 = 1 then 4 + k3 else 3 + k3 := ⟨_, rfl⟩
  have bD : 3 ≤ D0 ∧ D0 ≤ 7 := by rw [hD]; split <;> omega
  have HE := Lib.hid hD
  have q2 : (0 : Int) ≤ (k2 : Int) ∧ (k2 : Int) < 3 := by omega
  have hcell := chk_cell (w.alloc (.cells #[.int .i64 0, .int .i64 0, .int .i64 0] 25)) k2 b2 3
  rw [show (w.alloc (.cells #[.int .i64 0, .int .i64 0, .int .i64 0] 25)).heap.size = w.heap.size + 1 by simp] at hcell
  have HX : Hid (∃ ck, ck = chk k2) := Lib.hid ⟨_, rfl⟩
  generalize chk k2 = ck at hcell HC
  clear hl hd hc hD b4 HX
  go_enter Try.func56, Try.ntmps56
  go_wp2_with fail
  (with_reducible refine (W1.out _).mono ?_); rintro e w' ⟨rfl, rfl⟩
  go_wp2_with fail
  (with_reducible refine (W2.out _).mono ?_); rintro e w' ⟨rfl, rfl⟩
  go_wp2_with fail
  (with_reducible refine (W3.out _).mono ?_); rintro e w' ⟨rfl, rfl⟩
  clear hcell
  go_upto_if 25 with fail
  go_cut [25] (fun _ W => W = (((w.alloc (.cells #[.int .i64 0, .int .i64 0, .int .i64 0] 25)).alloc (.cells #[.int .i64 1, .int .i64 2, .int .i64 4] 3)).alloc (.cells #[.int .i64 (5 + k1), .int .i64 D0, .int .i64 ck] 25)))
  case first =>
    by_cases h1 : k1 = 1
    · subst h1
      obtain rfl : D0 = 4 + k3 := HE.out.trans (if_pos rfl)
      go_wp2_with fail
      (with_reducible refine (W3.out _).mono ?_); rintro e w' ⟨rfl, rfl⟩
      go_wp2_with fail
      go_meet
      exact rfl
    · obtain rfl : k1 = 0 := by omega
      obtain rfl : D0 = 3 + k3 := HE.out.trans (if_neg (by decide))
      clear h1
      go_wp2_with fail
      go_meet
      exact rfl
  case rest =>
    subst hcut
    by_cases h36 : k4 = 36
    · subst h36
      have H1 := Lib.hid (show k5 = pgL n by rw [HL.out]; simp)
      have H2 := Lib.hid (show D0 = pgD n by rw [HD.out, HE.out]; simp)
      have H3 := Lib.hid (show ck = pgC n by rw [HC.out]; simp)
      go_wp2_with fail
      (with_reducible refine (W4.out _).mono ?_); rintro e w' ⟨rfl, rfl⟩
      go_wp2_with fail
      (with_reducible refine (W5.out _).mono ?_); rintro e w' ⟨rfl, rfl⟩
      go_wp2_with fail
      refine bodyPost_ret (v := .agg #[.int .i64 (k5), .int .i64 (D0), .int .i64 (ck)]) (by simp [results, Try.results56, go_sem]) rfl ⟨?_, below3 _ _ _ _⟩
      rw [H1.out, H2.out, H3.out]
    by_cases h37 : k4 = 37
    · subst h37
      have H1 := Lib.hid (show 5 + k1 = pgL n by rw [HL.out]; simp)
      have H2 := Lib.hid (show k6 - 1 = pgD n by rw [HD.out]; simp)
      have H3 := Lib.hid (show ck = pgC n by rw [HC.out]; simp)
      go_wp2_with fail
      (with_reducible refine (W4.out _).mono ?_); rintro e w' ⟨rfl, rfl⟩
      go_wp2_with fail
      (with_reducible refine (W6.out _).mono ?_); rintro e w' ⟨rfl, rfl⟩
      go_wp2_with fail
      refine bodyPost_ret (v := .agg #[.int .i64 (5 + k1), .int .i64 (k6 - 1), .int .i64 (ck)]) (by simp [results, Try.results56, go_sem]) rfl ⟨?_, below3 _ _ _ _⟩
      rw [H1.out, H2.out, H3.out]
    by_cases h38 : k4 = 38
    · subst h38
      have H1 := Lib.hid (show 5 + k1 = pgL n by rw [HL.out]; simp)
      have H2 := Lib.hid (show D0 = pgD n by rw [HD.out, HE.out]; simp)
      have H3 := Lib.hid (show k5 - 1 = pgC n by rw [HC.out]; simp)
      go_wp2_with fail
      (with_reducible refine (W4.out _).mono ?_); rintro e w' ⟨rfl, rfl⟩
      go_wp2_with fail
      (with_reducible refine (W5.out _).mono ?_); rintro e w' ⟨rfl, rfl⟩
      go_wp2_with fail
      refine bodyPost_ret (v := .agg #[.int .i64 (5 + k1), .int .i64 (D0), .int .i64 (k5 - 1)]) (by simp [results, Try.results56, go_sem]) rfl ⟨?_, below3 _ _ _ _⟩
      rw [H1.out, H2.out, H3.out]
    by_cases h39 : k4 = 39
    · subst h39
      have H1 := Lib.hid (show 5 + k1 = pgL n by rw [HL.out]; simp)
      have H2 := Lib.hid (show 8 = pgD n by rw [HD.out]; simp)
      have H3 := Lib.hid (show ck = pgC n by rw [HC.out]; simp)
      go_wp2_with fail
      (with_reducible refine (W4.out _).mono ?_); rintro e w' ⟨rfl, rfl⟩
      go_wp2_with fail
      refine bodyPost_ret (v := .agg #[.int .i64 (5 + k1), .int .i64 (8), .int .i64 (ck)]) (by simp [results, Try.results56, go_sem]) rfl ⟨?_, below3 _ _ _ _⟩
      rw [H1.out, H2.out, H3.out]
    have e36 : (k4 == 36) = false := ibeq_no h36
    have e37 : (k4 == 37) = false := ibeq_no h37
    have e38 : (k4 == 38) = false := ibeq_no h38
    have e39 : (k4 == 39) = false := ibeq_no h39
    have H1 := Lib.hid (show 5 + k1 = pgL n by rw [HL.out]; simp [h36])
    have H2 := Lib.hid (show D0 = pgD n by rw [HD.out, HE.out]; simp [h37, h39])
    have H3 := Lib.hid (show ck = pgC n by rw [HC.out]; simp [h38])
    clear h36 h37 h38 h39
    go_wp2_with fail
    (with_reducible refine (W4.out _).mono ?_); rintro e w' ⟨rfl, rfl⟩
    go_wp2_with fail
    refine bodyPost_ret (v := .agg #[.int .i64 (5 + k1), .int .i64 (D0), .int .i64 (ck)]) (by simp [results, Try.results56, go_sem]) rfl ⟨?_, below3 _ _ _ _⟩
    rw [H1.out, H2.out, H3.out]
theorem playGeom_any (n : Int) (w : World) (hn : -9223372036854775808 ≤ n ∧ n ≤ 9223372036854775807) :
    Calls Try.prog 56 #[.int .i64 n] w fun e w' => e = .returned (.agg #[.int .i64 (pgL n), .int .i64 (pgD n), .int .i64 (pgC n)]) ∧ Below w.heap.size w w' := by
  have b2 := withinI_bd (n.tdiv 2) 3 (by omega)
  obtain ⟨k2, hk2⟩ := Int.eq_ofNat_of_zero_le b2.1
  have P : PG n (withinI n 2) k2 (withinI (n.tdiv 6) 4) (withinI (n.tdiv 24) 40) (withinI n 9) (withinI n 12) :=
    ⟨withinI_bd n 2 (by omega), by omega, withinI_bd _ 4 (by omega), withinI_bd _ 40 (by omega), withinI_bd n 9 (by omega), withinI_bd n 12 (by omega), rfl, rfl, by unfold pgC; rw [hk2]; rfl⟩
  have W1 := Lib.hid fun V => within_any n 2 V hn (by omega)
  have W2 := Lib.hid fun V => within_any (n.tdiv 2) 3 V (tdiv_i64 n 2 (by omega) hn) (by omega)
  rw [hk2] at W2
  have W3 := Lib.hid fun V => within_any (n.tdiv 6) 4 V (tdiv_i64 n 6 (by omega) hn) (by omega)
  have W4 := Lib.hid fun V => within_any (n.tdiv 24) 40 V (tdiv_i64 n 24 (by omega) hn) (by omega)
  have W5 := Lib.hid fun V => within_any n 9 V hn (by omega)
  have W6 := Lib.hid fun V => within_any n 12 V hn (by omega)
  generalize withinI n 2 = k1 at P W1
  generalize withinI (n.tdiv 6) 4 = k3 at P W3
  generalize withinI (n.tdiv 24) 40 = k4 at P W4
  generalize withinI n 9 = k5 at P W5
  generalize withinI n 12 = k6 at P W6
  exact pgw n k1 k3 k4 k5 k6 k2 w hn P W1 W2 W3 W4 W5 W6
end Go.Proofs.Ytadmofpipfdedaa
end
section
set_option linter.unusedVariables false
set_option linter.unusedSimpArgs false
namespace Go.Proofs.Ytadmofpipfdedaa
open Go.RowKit

theorem refFine_any (l d c r : Int) (w : World) (hl : (-9223372036854775808 ≤ l ∧ l ≤ 9223372036854775807)) (hd : (-9223372036854775808 ≤ d ∧ d ≤ 9223372036854775807)) (hc : (-9223372036854775808 ≤ c ∧ c ≤ 9223372036854775807)) (hr : (-9223372036854775808 ≤ r ∧ r ≤ 9223372036854775807)) :
    Calls Try.prog 63 #[.agg #[.int .i64 l, .int .i64 d, .int .i64 c], .int .i64 r] w fun e w' => e = .returned (.bool (plOk l d c r)) ∧ Below w.heap.size w w' := by
  cases hG : gOk l d c
  · have H : Hid (plOk l d c r = false) := plOk_no (by rw [hG]; simp)
    have HG := Lib.hid hG
    clear hG
    go_enter Try.func63, Try.ntmps63
    go_wp2_with fail
    (with_reducible refine (refCheck_no l d c _ HG hl hd hc).mono ?_); rintro e w1 ⟨rfl, hb⟩
    have F := (below1 w _).trans (hb.mono (by simp))
    clear hb
    go_wp2_with fail
    go_ret
    exact ⟨by rw [H.out]; rfl, F⟩
  · have HG := Lib.hid hG
    by_cases h0 : 0 ≤ r
    · have e0 : decide (0 ≤ r) = true := decide_eq_true h0
      by_cases h1 : r < 16
      · have e1 : decide (r < 16) = true := decide_eq_true h1
        have H : Hid (plOk l d c r = true) := plOk_mk hG h0 h1
        clear hG
        go_enter Try.func63, Try.ntmps63
        go_wp2_with fail
        (with_reducible refine (refCheck_yes l d c _ HG hl hd hc).mono ?_); rintro e w1 ⟨rfl, hb⟩
        have F := (below1 w _).trans (hb.mono (by simp))
        clear hb
        go_wp2_with fail
        go_ret
        exact ⟨by rw [H.out]; rfl, F⟩
      · have e1 : decide (r < 16) = false := decide_eq_false h1
        have H : Hid (plOk l d c r = false) := plOk_no (by omega)
        clear hG
        go_enter Try.func63, Try.ntmps63
        go_wp2_with fail
        (with_reducible refine (refCheck_yes l d c _ HG hl hd hc).mono ?_); rintro e w1 ⟨rfl, hb⟩
        have F := (below1 w _).trans (hb.mono (by simp))
        clear hb
        go_wp2_with fail
        go_ret
        exact ⟨by rw [H.out]; rfl, F⟩
    · have e0 : decide (0 ≤ r) = false := decide_eq_false h0
      have H : Hid (plOk l d c r = false) := plOk_no (by omega)
      clear hG
      go_enter Try.func63, Try.ntmps63
      go_wp2_with fail
      (with_reducible refine (refCheck_yes l d c _ HG hl hd hc).mono ?_); rintro e w1 ⟨rfl, hb⟩
      have F := (below1 w _).trans (hb.mono (by simp))
      clear hb
      go_wp2_with fail
      go_ret
      exact ⟨by rw [H.out]; rfl, F⟩
theorem refFine_yes (l d c r : Int) (w : World) (h : Hid (plOk l d c r = true)) (hl : (-9223372036854775808 ≤ l ∧ l ≤ 9223372036854775807)) (hd : (-9223372036854775808 ≤ d ∧ d ≤ 9223372036854775807)) (hc : (-9223372036854775808 ≤ c ∧ c ≤ 9223372036854775807)) (hr : (-9223372036854775808 ≤ r ∧ r ≤ 9223372036854775807)) :
    Calls Try.prog 63 #[.agg #[.int .i64 l, .int .i64 d, .int .i64 c], .int .i64 r] w fun e w' => e = .returned (.bool true) ∧ Below w.heap.size w w' := by
  have := refFine_any l d c r w hl hd hc hr
  rwa [h.out] at this
theorem refFine_no (l d c r : Int) (w : World) (h : Hid (plOk l d c r = false)) (hl : (-9223372036854775808 ≤ l ∧ l ≤ 9223372036854775807)) (hd : (-9223372036854775808 ≤ d ∧ d ≤ 9223372036854775807)) (hc : (-9223372036854775808 ≤ c ∧ c ≤ 9223372036854775807)) (hr : (-9223372036854775808 ≤ r ∧ r ≤ 9223372036854775807)) :
    Calls Try.prog 63 #[.agg #[.int .i64 l, .int .i64 d, .int .i64 c], .int .i64 r] w fun e w' => e = .returned (.bool false) ∧ Below w.heap.size w w' := by
  have := refFine_any l d c r w hl hd hc hr
  rwa [h.out] at this
theorem refParity_any (l d c r : Int) (w : World) (hl : (-9223372036854775808 ≤ l ∧ l ≤ 9223372036854775807)) (hd : (-9223372036854775808 ≤ d ∧ d ≤ 9223372036854775807)) (hc : (-9223372036854775808 ≤ c ∧ c ≤ 9223372036854775807)) (hr : (-9223372036854775808 ≤ r ∧ r ≤ 9223372036854775807)) :
    Calls Try.prog 65 #[.agg #[.int .i64 l, .int .i64 d, .int .i64 c], .int .i64 r] w fun e w' => e = .returned (.tuple #[.int .i64 (plP l d c r), .int .i64 (plQ l d c r)]) ∧ Below w.heap.size w w' := by
  have G := gat_new w l d c 25 (0, 0)
  cases hT : plOk l d c r
  · have HP := Lib.hid (plP_no hT)
    have HQ := Lib.hid (plQ_no hT)
    have HT := Lib.hid hT
    clear hT
    go_enter Try.func65, Try.ntmps65
    go_wp2_with fail
    (with_reducible refine (refFine_no l d c r _ HT hl hd hc hr).mono ?_); rintro e w1 ⟨rfl, hb⟩
    have F := (below1 w _).trans (hb.mono (by simp))
    clear hb
    go_wp2_with fail
    go_ret2
    exact ⟨by rw [HP.out, HQ.out]; rfl, F⟩
  · have HT := Lib.hid hT
    obtain ⟨hg, h0, h1⟩ := plOk_yes hT
    have hb6 := gOk_bd hg
    have hq := quo_bd 16 h0 h1 (show 1 ≤ c by omega)
    have hm := rem_bd (r / c) (show 1 ≤ d by omega)
    have HP := Lib.hid (plP_yes hT)
    by_cases h6 : l = 6
    · subst h6
      have HQ := Lib.hid (plQ_6 hT)
      clear hT hg
      go_enter Try.func65, Try.ntmps65
      go_wp2_with fail
      (with_reducible refine (refFine_yes 6 d c r _ HT hl hd hc hr).mono ?_); rintro e w1 ⟨rfl, hb⟩
      have F := (below1 w _).trans (hb.mono (by simp))
      obtain ⟨g1, g2, g3⟩ := G.below hb (by simp)
      clear hb
      go_wp2_with fail
      go_quiet (fail)
      go_wp2_with fail
      go_quiet (fail)
      go_wp2
      go_ret2
      exact ⟨by rw [HP.out, HQ.out]; rfl, (F.trans (belowN _ _ _)).trans (belowN _ _ _)⟩
    · obtain rfl : l = 5 := by omega
      have HQ := Lib.hid (@plQ_5 d c r)
      clear hT hg h6
      go_enter Try.func65, Try.ntmps65
      go_wp2_with fail
      (with_reducible refine (refFine_yes 5 d c r _ HT hl hd hc hr).mono ?_); rintro e w1 ⟨rfl, hb⟩
      have F := (below1 w _).trans (hb.mono (by simp))
      obtain ⟨g1, g2, g3⟩ := G.below hb (by simp)
      clear hb
      go_wp2_with fail
      go_quiet (fail)
      go_wp2
      go_ret2
      exact ⟨by rw [HP.out, HQ.out]; rfl, F.trans (belowN _ _ _)⟩
theorem refDisk_any (l d c r k : Int) (w : World) (hl : (-9223372036854775808 ≤ l ∧ l ≤ 9223372036854775807)) (hd : (-9223372036854775808 ≤ d ∧ d ≤ 9223372036854775807)) (hc : (-9223372036854775808 ≤ c ∧ c ≤ 9223372036854775807)) (hr : (-9223372036854775808 ≤ r ∧ r ≤ 9223372036854775807)) (hk : (-9223372036854775808 ≤ k ∧ k ≤ 9223372036854775807)) :
    Calls Try.prog 64 #[.agg #[.int .i64 l, .int .i64 d, .int .i64 c], .int .i64 r, .int .i64 k] w fun e w' => e = .returned (.int .i64 (plD l d c r k)) ∧ Below w.heap.size w w' := by
  have G := gat_new w l d c 25 (0, 0)
  have HD : Hid (∀ b, plDok l d c r k = b → plD l d c r k = if b = true then (plF l d c r + k) % d else -1) := Lib.hid (fun b h => by subst h; rfl)
  have HW := Lib.hid (fun W => refWidth_any l d c W hl hd hc)
  have HK : Hid (plDok l d c r k = (plOk l d c r && decide (0 ≤ k ∧ k < gWid l d c))) := rfl
  cases hT : plOk l d c r
  · have H := Lib.hid ((HD.out false (by rw [HK.out, hT]; rfl)).trans (if_neg (by decide)))
    have HT := Lib.hid hT
    clear hT
    go_enter Try.func64, Try.ntmps64
    go_wp2_with fail
    (with_reducible refine (refFine_no l d c r _ HT hl hd hc hr).mono ?_); rintro e w1 ⟨rfl, hb⟩
    have F := (below1 w _).trans (hb.mono (by simp))
    clear hb
    go_wp2_with fail
    go_ret
    exact ⟨by rw [H.out]; rfl, F⟩
  · have HT := Lib.hid hT
    by_cases h0 : k < 0
    · have H := Lib.hid ((HD.out false (by rw [HK.out, hT, decide_eq_false (by omega)]; rfl)).trans (if_neg (by decide)))
      have e0 : decide (k < 0) = true := decide_eq_true h0
      clear hT
      go_enter Try.func64, Try.ntmps64
      go_wp2_with fail
      (with_reducible refine (refFine_yes l d c r _ HT hl hd hc hr).mono ?_); rintro e w1 ⟨rfl, hb⟩
      have F := (below1 w _).trans (hb.mono (by simp))
      clear hb
      go_wp2_with fail
      go_ret
      exact ⟨by rw [H.out]; rfl, F⟩
    · have e0 : decide (k < 0) = false := decide_eq_false h0
      obtain ⟨hg, h00, h11⟩ := plOk_yes HT.out
      have hb6 := gOk_bd hg
      have hw := gWid_bd l d c
      by_cases h1 : gWid l d c ≤ k
      · have H := Lib.hid ((HD.out false (by rw [HK.out, hT, decide_eq_false (by omega)]; rfl)).trans (if_neg (by decide)))
        generalize gWid l d c = wd at HW hw h1
        have e1 : decide (wd ≤ k) = true := decide_eq_true h1
        clear hT hg h00 h11 HK HD
        go_enter Try.func64, Try.ntmps64
        go_wp2_with fail
        (with_reducible refine (refFine_yes l d c r _ HT hl hd hc hr).mono ?_); rintro e w1 ⟨rfl, hb⟩
        have S1 := GS.later (w0 := w) (B := w.heap.size) ⟨G.1, G.2.1, G.2.2, below1 w _⟩ hb
        clear hb G
        obtain ⟨g1, g2, g3, F⟩ := S1
        go_wp2_with fail
        (with_reducible refine (HW.out _).mono ?_); rintro e w2 ⟨rfl, hb⟩
        have S2 := GS.later (w0 := w) (B := w.heap.size) ⟨g1, g2, g3, F⟩ hb
        clear hb g1 g2 g3 F
        go_wp2_with fail
        go_ret
        exact ⟨by rw [H.out]; rfl, S2.2.2.2⟩
      · have H0 := (HD.out true (by rw [HK.out, hT, decide_eq_true (by omega)]; rfl)).trans (if_pos rfl)
        have H : Hid (plD l d c r k = (plP l d c r + gBud l d c + k) % d) := by rw [H0, plP_yes hT, gBud_yes hg]; unfold plF; exact Int.emod_add_emod _ _ _
        have hm := rem_bd (r / c) (show 1 ≤ d by omega)
        have hp : 0 ≤ plP l d c r ∧ plP l d c r < d := by rw [plP_yes hT]; omega
        have hbd := gBud_bd l d c
        have HP := Lib.hid (fun W => refParity_any l d c r W hl hd hc hr)
        have HB := Lib.hid (fun W => refBudget_any l d c W hl hd hc)
        clear H0 hm
        generalize gWid l d c = wd at HW hw h1
        generalize plP l d c r = p at HP hp H
        generalize plQ l d c r = q at HP
        generalize gBud l d c = bd at HB hbd H
        have e1 : decide (wd ≤ k) = false := decide_eq_false h1
        have n1 : ¬ d = 0 := by omega
        have z1 : IntKind.i64.wrap (p + bd) = p + bd := IntWalk.i64_in _ (by omega)
        have z2 : IntKind.i64.wrap (p + bd + k) = p + bd + k := IntWalk.i64_in _ (by omega)
        clear hT hg h00 h11 HK HD
        go_enter Try.func64, Try.ntmps64
        go_wp2_with fail
        (with_reducible refine (refFine_yes l d c r _ HT hl hd hc hr).mono ?_); rintro e w1 ⟨rfl, hb⟩
        have S1 := GS.later (w0 := w) (B := w.heap.size) ⟨G.1, G.2.1, G.2.2, below1 w _⟩ hb
        clear hb G
        obtain ⟨g1, g2, g3, F⟩ := S1
        go_wp2_with fail
        (with_reducible refine (HW.out _).mono ?_); rintro e w2 ⟨rfl, hb⟩
        have S2 := GS.later (w0 := w) (B := w.heap.size) ⟨g1, g2, g3, F⟩ hb
        clear hb g1 g2 g3 F
        obtain ⟨g1, g2, g3, F⟩ := S2
        go_wp2_with fail
        (with_reducible refine (HP.out _).mono ?_); rintro e w3 ⟨rfl, hb⟩
        have S0 := GS.later (w0 := w) (B := w.heap.size) ⟨g1, g2, g3, F⟩ hb
        clear hb g1 g2 g3 F
        obtain ⟨g1, g2, g3, F⟩ := S0
        go_wp2_with fail
        have S0 : GS w w.heap.size w.heap.size l d c w3 := ⟨g1, g2, g3, F⟩
        clear g1 g2 g3 F
        go_region_held3 (GS w w.heap.size w.heap.size l d c)
          (first | assumption | exact GS.drew ‹_›)
          ((go_at_call 68; (with_reducible refine (HB.out _).mono ?_); rintro e w4 ⟨rfl, hb⟩; have S4 := (GS.drew S0).later hb))
        go_wp2
        go_ret
        exact ⟨by rw [H.out, ← Int.tmod_eq_emod_of_nonneg (show 0 ≤ p + bd + k by omega)]; rfl, S4.2.2.2⟩
end Go.Proofs.Ytadmofpipfdedaa
end
section
set_option linter.unusedVariables false
set_option linter.unusedSimpArgs false
namespace Go.Proofs.Ytadmofpipfdedaa
open Go.RowKit

end Go.Proofs.Ytadmofpipfdedaa
end
