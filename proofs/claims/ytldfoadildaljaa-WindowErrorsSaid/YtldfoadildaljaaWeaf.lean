/- Texts put together: RefGeo, PlayGeo, RefPlace, RefGeoCap, GeoCan. -/
import Derived.Test.YtldfoadildaljaaProg
import Derived.Test.YtldfoadildaljaaWeaa
section
namespace Go.Proofs.Ytldfoadildaljaa
open Go.RowKit

theorem ibeq_no {a b : Int} (h : a ≠ b) : (a == b) = false := by simpa using h
set_option maxHeartbeats 1000000 in
theorem refCheck_any (l d c : Int) (w : World) (_ : -9223372036854775808 ≤ l ∧ l ≤ 9223372036854775807) (_ : -9223372036854775808 ≤ d ∧ d ≤ 9223372036854775807) (_ : -9223372036854775808 ≤ c ∧ c ≤ 9223372036854775807) :
    Calls Try.prog 41 #[.agg #[.int .i64 l, .int .i64 d, .int .i64 c]] w fun e w' => e = .returned (.bool (gOk l d c)) ∧ Below w.heap.size w w' := by
  by_cases h0 : l = 5 ∨ l = 6
  · rcases h0 with rfl | rfl
    · by_cases h3 : 3 ≤ d
      · by_cases h8 : d ≤ 8
        · by_cases hcc : c = 1 ∨ c = 2 ∨ c = 4
          · have H : Hid (gOk 5 d c = true) := gOk_mk (by omega)
            rcases hcc with rfl | rfl | rfl
            all_goals
              go_enter Try.func41, Try.ntmps41
              go_wp2
              go_ret
              exact ⟨by rw [H.out]; rfl, below1 _ _⟩
          · have H : Hid (gOk 5 d c = false) := gOk_no (by omega)
            have e1 := ibeq_no (show c ≠ 1 by omega)
            have e2 := ibeq_no (show c ≠ 2 by omega)
            have e4 := ibeq_no (show c ≠ 4 by omega)
            clear hcc
            go_enter Try.func41, Try.ntmps41
            go_wp2
            go_ret
            exact ⟨by rw [H.out]; rfl, below1 _ _⟩
        · have H : Hid (gOk 5 d c = false) := gOk_no (by omega)
          go_enter Try.func41, Try.ntmps41
          go_wp2
          go_ret
          exact ⟨by rw [H.out]; rfl, below1 _ _⟩
      · have H : Hid (gOk 5 d c = false) := gOk_no (by omega)
        go_enter Try.func41, Try.ntmps41
        go_wp2
        go_ret
        exact ⟨by rw [H.out]; rfl, below1 _ _⟩
    · by_cases h3 : 4 ≤ d
      · by_cases h8 : d ≤ 8
        · by_cases hcc : c = 1 ∨ c = 2 ∨ c = 4
          · have H : Hid (gOk 6 d c = true) := gOk_mk (by omega)
            rcases hcc with rfl | rfl | rfl
            all_goals
              go_enter Try.func41, Try.ntmps41
              go_wp2
              go_ret
              exact ⟨by rw [H.out]; rfl, below1 _ _⟩
          · have H : Hid (gOk 6 d c = false) := gOk_no (by omega)
            have e1 := ibeq_no (show c ≠ 1 by omega)
            have e2 := ibeq_no (show c ≠ 2 by omega)
            have e4 := ibeq_no (show c ≠ 4 by omega)
            clear hcc
            go_enter Try.func41, Try.ntmps41
            go_wp2
            go_ret
            exact ⟨by rw [H.out]; rfl, below1 _ _⟩
        · have H : Hid (gOk 6 d c = false) := gOk_no (by omega)
          go_enter Try.func41, Try.ntmps41
          go_wp2
          go_ret
          exact ⟨by rw [H.out]; rfl, below1 _ _⟩
      · have H : Hid (gOk 6 d c = false) := gOk_no (by omega)
        go_enter Try.func41, Try.ntmps41
        go_wp2
        go_ret
        exact ⟨by rw [H.out]; rfl, below1 _ _⟩
  · have H : Hid (gOk l d c = false) := gOk_no (by omega)
    have e5 := ibeq_no (show l ≠ 5 by omega)
    have e6 := ibeq_no (show l ≠ 6 by omega)
    clear h0
    go_enter Try.func41, Try.ntmps41
    go_wp2
    go_ret
    exact ⟨by rw [H.out]; rfl, below1 _ _⟩
theorem refCheck_yes (l d c : Int) (w : World) (h : Hid (gOk l d c = true)) (hl : -9223372036854775808 ≤ l ∧ l ≤ 9223372036854775807) (hd : -9223372036854775808 ≤ d ∧ d ≤ 9223372036854775807) (hc : -9223372036854775808 ≤ c ∧ c ≤ 9223372036854775807) :
    Calls Try.prog 41 #[.agg #[.int .i64 l, .int .i64 d, .int .i64 c]] w fun e w' => e = .returned (.bool true) ∧ Below w.heap.size w w' := by
  have := refCheck_any l d c w hl hd hc
  rwa [h.out] at this
theorem refCheck_no (l d c : Int) (w : World) (h : Hid (gOk l d c = false)) (hl : -9223372036854775808 ≤ l ∧ l ≤ 9223372036854775807) (hd : -9223372036854775808 ≤ d ∧ d ≤ 9223372036854775807) (hc : -9223372036854775808 ≤ c ∧ c ≤ 9223372036854775807) :
    Calls Try.prog 41 #[.agg #[.int .i64 l, .int .i64 d, .int .i64 c]] w fun e w' => e = .returned (.bool false) ∧ Below w.heap.size w w' := by
  have := refCheck_any l d c w hl hd hc
  rwa [h.out] at this
theorem refBudget_any (l d c : Int) (w : World) (hl : -9223372036854775808 ≤ l ∧ l ≤ 9223372036854775807) (hd : -9223372036854775808 ≤ d ∧ d ≤ 9223372036854775807) (hc : -9223372036854775808 ≤ c ∧ c ≤ 9223372036854775807) :
    Calls Try.prog 53 #[.agg #[.int .i64 l, .int .i64 d, .int .i64 c]] w fun e w' => e = .returned (.int .i64 (gBud l d c)) ∧ Below w.heap.size w w' := by
  have G := gat_new w l d c 23 (0, 0)
  cases hG : gOk l d c
  · have HG := Lib.hid hG
    clear hG
    go_enter Try.func53, Try.ntmps53
    go_wp2_with fail
    (with_reducible refine (refCheck_no l d c _ HG hl hd hc).mono ?_); rintro e w1 ⟨rfl, hb⟩
    have F := (below1 w _).trans (hb.mono (by simp))
    clear hb
    go_wp2_with fail
    go_ret
    exact ⟨by rw [gBud_no HG.out]; rfl, F⟩
  · have HG := Lib.hid hG
    clear hG
    have hb6 := gOk_bd HG.out
    go_enter Try.func53, Try.ntmps53
    go_wp2_with fail
    (with_reducible refine (refCheck_yes l d c _ HG hl hd hc).mono ?_); rintro e w1 ⟨rfl, hb⟩
    have F := (below1 w _).trans (hb.mono (by simp))
    obtain ⟨g1, g2, g3⟩ := G.below hb (by simp)
    clear hb
    go_wp2_with fail
    go_ret
    exact ⟨by rw [gBud_yes HG.out]; rfl, F⟩
theorem refWidth_any (l d c : Int) (w : World) (hl : -9223372036854775808 ≤ l ∧ l ≤ 9223372036854775807) (hd : -9223372036854775808 ≤ d ∧ d ≤ 9223372036854775807) (hc : -9223372036854775808 ≤ c ∧ c ≤ 9223372036854775807) :
    Calls Try.prog 31 #[.agg #[.int .i64 l, .int .i64 d, .int .i64 c]] w fun e w' => e = .returned (.int .i64 (gWid l d c)) ∧ Below w.heap.size w w' := by
  have G := gat_new w l d c 23 (0, 0)
  cases hG : gOk l d c
  · have HG := Lib.hid hG
    clear hG
    go_enter Try.func31, Try.ntmps31
    go_wp2_with fail
    (with_reducible refine (refCheck_no l d c _ HG hl hd hc).mono ?_); rintro e w1 ⟨rfl, hb⟩
    have F := (below1 w _).trans (hb.mono (by simp))
    clear hb
    go_wp2_with fail
    go_ret
    exact ⟨by rw [gWid_no HG.out]; rfl, F⟩
  · have HG := Lib.hid hG
    clear hG
    have HW : Hid (gWid l d c = d - gBud l d c) := by rw [gWid_yes HG.out, gBud_yes HG.out]; rfl
    have hB := gBud_bd l d c
    have hd3 := gOk_bd HG.out
    go_enter Try.func31, Try.ntmps31
    go_wp2_with fail
    (with_reducible refine (refCheck_yes l d c _ HG hl hd hc).mono ?_); rintro e w1 ⟨rfl, hb⟩
    have F := (below1 w _).trans (hb.mono (by simp))
    have G1 := G.below hb (by simp)
    have z1 : w.heap.size < w1.heap.size := by have := hb.size; simp at this; omega
    clear hb G
    have HB : Hid (∀ W, Calls Try.prog 53 #[.agg #[.int .i64 l, .int .i64 d, .int .i64 c]] W fun e w' => e = .returned (.int .i64 (gBud l d c)) ∧ Below W.heap.size W w') := Lib.hid fun W => refBudget_any l d c W hl hd hc
    generalize gBud l d c = bd at hB HW HB
    obtain ⟨g1, g2, g3⟩ := G1
    go_wp2_with fail
    have S0 : GS w w.heap.size w.heap.size l d c w1 := ⟨g1, g2, g3, F⟩
    clear g1 g2 g3 F z1
    go_region_held3 (GS w w.heap.size w.heap.size l d c)
      (first | assumption | exact GS.drew ‹_›)
      ((go_at_call 53; (with_reducible refine (HB.out _).mono ?_); rintro e w2 ⟨rfl, hb⟩; have S2 := (GS.drew S0).later hb))
    go_wp2
    go_ret
    exact ⟨by rw [HW.out]; exact gret_int (IntWalk.i64_in _ (by omega)), S2.2.2.2⟩
end Go.Proofs.Ytldfoadildaljaa
end
section
set_option linter.unusedVariables false
set_option linter.unusedSimpArgs false
namespace Go.Proofs.Ytldfoadildaljaa
open Go.RowKit

/-- The chunks there are. -/
def chk (k : Int) : Int := if k = 0 then 1 else if k = 1 then 2 else 4
theorem tdiv_nonneg_bd (m k : Int) (hm : 0 ≤ m) (hk : 1 ≤ k) : 0 ≤ m.tdiv k ∧ m.tdiv k ≤ m :=
  ⟨Int.tdiv_nonneg hm (by omega), Int.tdiv_le_self _ hm⟩
theorem tdiv_i64 (n k : Int) (hk : 1 ≤ k) (hn : -9223372036854775808 ≤ n ∧ n ≤ 9223372036854775807) : -9223372036854775808 ≤ n.tdiv k ∧ n.tdiv k ≤ 9223372036854775807 := by
  by_cases h : 0 ≤ n
  · have := tdiv_nonneg_bd n k h hk; omega
  · have := tdiv_nonneg_bd (-n) k (by omega) hk
    rw [Int.neg_tdiv] at this
    omega
theorem chk_cell (w : World) (k : Nat) (hk : k < 3) (t : TypeId) : (w.alloc (.cells #[.int .i64 1, .int .i64 2, .int .i64 4] t)).cell? ⟨w.heap.size, k, none⟩ = some (.int .i64 (chk k)) := by
  have c := fun i => cell_of_row _ _ i _ _ _ (heap_alloc_new w (.cells #[.int .i64 1, .int .i64 2, .int .i64 4] t))
  match k, hk with
  | 0, _ => exact c 0
  | 1, _ => exact c 1
  | 2, _ => exact c 2
end Go.Proofs.Ytldfoadildaljaa
end
section
set_option linter.unusedVariables false
set_option linter.unusedSimpArgs false
namespace Go.Proofs.Ytldfoadildaljaa
open Go.RowKit

end Go.Proofs.Ytldfoadildaljaa
end
section
set_option linter.unusedVariables false
set_option linter.unusedSimpArgs false
namespace Go.Proofs.Ytldfoadildaljaa
open Go.RowKit

end Go.Proofs.Ytldfoadildaljaa
end
section
namespace Go.Proofs.Ytldfoadildaljaa
open Go.RowKit

set_option maxHeartbeats 1000000 in
theorem can_ne (l d c l' d' c' : Int) (w : World) (hl : -9223372036854775808 ≤ l ∧ l ≤ 9223372036854775807) (hd : -9223372036854775808 ≤ d ∧ d ≤ 9223372036854775807) (hc : -9223372036854775808 ≤ c ∧ c ≤ 9223372036854775807)
    (hl' : -9223372036854775808 ≤ l' ∧ l' ≤ 9223372036854775807) (hd' : -9223372036854775808 ≤ d' ∧ d' ≤ 9223372036854775807) (hc' : -9223372036854775808 ≤ c' ∧ c' ≤ 9223372036854775807)
    (HG : Hid (gOk l d c = true)) (HG' : Hid (gOk l' d' c' = true)) (hE : Hid (gEq l d c l' d' c' = false)) :
    Calls Try.prog 59 #[.agg #[.int .i64 l, .int .i64 d, .int .i64 c], .agg #[.int .i64 l', .int .i64 d', .int .i64 c']] w fun e w' => e = .returned (.bool (gCan l d c l' d' c')) ∧ Below w.heap.size w w' := by
  have S0 := gs2_start w l d c l' d' c' 23 23 (0, 0) (0, 0)
  have H := Lib.hid ((gCan_ok HG.out HG'.out hE.out).trans (gGe_eq l d c l' d' c'))
  have hE' := gEq_no hE.out
  have HW : Hid (∀ W, Calls Try.prog 71 #[.agg #[.int .i64 l, .int .i64 d, .int .i64 c]] W fun e w' => e = .returned (.int .i64 (gWid l d c)) ∧ Below W.heap.size W w') := Lib.hid fun W => width_any l d c W hl hd hc
  have HW' : Hid (∀ W, Calls Try.prog 71 #[.agg #[.int .i64 l', .int .i64 d', .int .i64 c']] W fun e w' => e = .returned (.int .i64 (gWid l' d' c')) ∧ Below W.heap.size W w') := Lib.hid fun W => width_any l' d' c' W hl' hd' hc'
  have HC : Hid (∀ W, Calls Try.prog 75 #[.agg #[.int .i64 l, .int .i64 d, .int .i64 c]] W fun e w' => e = .returned (.int .i64 0) ∧ Below W.heap.size W w') := Lib.hid fun W => check_yes l d c W HG hl hd hc
  have HC' : Hid (∀ W, Calls Try.prog 75 #[.agg #[.int .i64 l', .int .i64 d', .int .i64 c']] W fun e w' => e = .returned (.int .i64 0) ∧ Below W.heap.size W w') := Lib.hid fun W => check_yes l' d' c' W HG' hl' hd' hc'
  generalize gCan l d c l' d' c' = can at H
  generalize gWid l d c = wd at H HW
  generalize gWid l' d' c' = wd' at H HW'
  clear hE
  have hE2 : (¬ l = l') ∨ (l = l' ∧ ¬ d = d') ∨ (l = l' ∧ d = d' ∧ ¬ c = c') := by omega
  clear hE'
  go_enter Try.func59, Try.ntmps59
  go_upto_region 1 with fail
  go_cut [17] (fun v W => v = .bool false ∧ GS2 w w.heap.size w.heap.size (w.heap.size + 1) l d c l' d' c' W)
  case first =>
    rcases hE2 with h1 | ⟨rfl, h1⟩ | ⟨rfl, rfl, h1⟩
    all_goals
      go_wp2_with fail
      (with_reducible refine (HC.out _).mono ?_); rintro e w1 ⟨rfl, hb⟩
      have S1 := S0.later hb
      clear hb S0
      obtain ⟨g1, g2, g3, g4, g5, g6, F⟩ := S1
      go_wp2_with fail
      (with_reducible refine (HC'.out _).mono ?_); rintro e w2 ⟨rfl, hb⟩
      have S2 := GS2.later ⟨g1, g2, g3, g4, g5, g6, F⟩ hb
      clear hb g1 g2 g3 g4 g5 g6 F
      obtain ⟨g1, g2, g3, g4, g5, g6, F⟩ := S2
      go_wp2_with fail
      go_meet
      exact ⟨rfl, ⟨g1, g2, g3, g4, g5, g6, F⟩⟩
  case rest =>
    obtain ⟨rfl, S3⟩ := hcut
    clear S0 hE2
    obtain ⟨g1, g2, g3, g4, g5, g6, F⟩ := S3
    by_cases hdd : d ≤ d'
    · by_cases hll : l ≤ l'
      · have S3 : GS2 w w.heap.size w.heap.size (w.heap.size + 1) l d c l' d' c' wc := ⟨g1, g2, g3, g4, g5, g6, F⟩
        clear g1 g2 g3 g4 g5 g6 F
        have Hn := Lib.hid (H.out.trans (show _ = decide (wd ≤ wd') by simp [hdd, hll]))
        go_wp2_with fail
        go_region_held3 (GS2 w w.heap.size w.heap.size (w.heap.size + 1) l d c l' d' c')
          (first | assumption | exact GS2.drew ‹_›)
          (first
            | (go_at_call_of 71 (Value.agg #[.int .i64 l, .int .i64 d, .int .i64 c]); (with_reducible refine (HW.out _).mono ?_); rintro e wA ⟨rfl, hbA⟩; have SA : GS2 w w.heap.size w.heap.size (w.heap.size + 1) l d c l' d' c' wA := GS2.later (by first | assumption | exact GS2.drew ‹_›) hbA; clear hbA)
            | (go_at_call_of 71 (Value.agg #[.int .i64 l', .int .i64 d', .int .i64 c']); (with_reducible refine (HW'.out _).mono ?_); rintro e wB ⟨rfl, hbB⟩; have SB : GS2 w w.heap.size w.heap.size (w.heap.size + 1) l d c l' d' c' wB := GS2.later (by first | assumption | exact GS2.drew ‹_›) hbB; clear hbB))
        go_wp2
        go_ret
        exact ⟨by rw [Hn.out]; rfl, SA.2.2.2.2.2.2⟩
      · have Hn := Lib.hid (H.out.trans (decide_eq_false (by omega)))
        have e1 : decide (d ≤ d') = true := decide_eq_true hdd
        have e2 : decide (l ≤ l') = false := decide_eq_false hll
        go_wp2_with fail
        go_quiet (fail)
        go_wp2
        go_ret
        exact ⟨by rw [Hn.out]; rfl, F.trans (belowN _ _ _)⟩
    · have Hn := Lib.hid (H.out.trans (decide_eq_false (by omega)))
      have e1 : decide (d ≤ d') = false := decide_eq_false hdd
      go_wp2_with fail
      go_quiet (fail)
      go_wp2
      go_ret
      exact ⟨by rw [Hn.out]; rfl, F.trans (belowN _ _ _)⟩
set_option maxHeartbeats 1000000 in
theorem can_any (l d c l' d' c' : Int) (w : World) (hl : -9223372036854775808 ≤ l ∧ l ≤ 9223372036854775807) (hd : -9223372036854775808 ≤ d ∧ d ≤ 9223372036854775807) (hc : -9223372036854775808 ≤ c ∧ c ≤ 9223372036854775807)
    (hl' : -9223372036854775808 ≤ l' ∧ l' ≤ 9223372036854775807) (hd' : -9223372036854775808 ≤ d' ∧ d' ≤ 9223372036854775807) (hc' : -9223372036854775808 ≤ c' ∧ c' ≤ 9223372036854775807) :
    Calls Try.prog 59 #[.agg #[.int .i64 l, .int .i64 d, .int .i64 c], .agg #[.int .i64 l', .int .i64 d', .int .i64 c']] w fun e w' => e = .returned (.bool (gCan l d c l' d' c')) ∧ Below w.heap.size w w' := by
  have S0 := gs2_start w l d c l' d' c' 23 23 (0, 0) (0, 0)
  cases hG : gOk l d c
  · have H : Hid (gCan l d c l' d' c' = false) := by unfold gCan; rw [hG]; rfl
    have HG := Lib.hid hG
    clear hG
    go_enter Try.func59, Try.ntmps59
    go_wp2_with fail
    (with_reducible refine (check_no l d c _ HG hl hd hc).mono ?_); rintro e w1 ⟨rfl, hb⟩
    have S1 := S0.later hb
    clear hb S0
    go_wp2_with fail
    go_ret
    exact ⟨by rw [H.out]; rfl, S1.2.2.2.2.2.2⟩
  · have HG := Lib.hid hG
    cases hG' : gOk l' d' c'
    · have H : Hid (gCan l d c l' d' c' = false) := by unfold gCan; rw [hG, hG']; rfl
      have HG' := Lib.hid hG'
      clear hG hG'
      go_enter Try.func59, Try.ntmps59
      go_wp2_with fail
      (with_reducible refine (check_yes l d c _ HG hl hd hc).mono ?_); rintro e w1 ⟨rfl, hb⟩
      have S1 := S0.later hb
      clear hb S0
      obtain ⟨g1, g2, g3, g4, g5, g6, F⟩ := S1
      go_wp2_with fail
      (with_reducible refine (check_no l' d' c' _ HG' hl' hd' hc').mono ?_); rintro e w2 ⟨rfl, hb⟩
      have S2 := GS2.later ⟨g1, g2, g3, g4, g5, g6, F⟩ hb
      clear hb g1 g2 g3 g4 g5 g6 F
      go_wp2_with fail
      go_ret
      exact ⟨by rw [H.out]; rfl, S2.2.2.2.2.2.2⟩
    · have HG' := Lib.hid hG'
      cases hE : gEq l d c l' d' c'
      · exact can_ne l d c l' d' c' w hl hd hc hl' hd' hc' HG HG' (Lib.hid hE)
      · obtain ⟨rfl, rfl, rfl⟩ := gEq_yes hE
        have H : Hid (gCan l d c l d c = false) := by unfold gCan; rw [hE, Bool.not_true, Bool.and_false, Bool.false_and]; rfl
        clear hG hG' hE
        go_enter Try.func59, Try.ntmps59
        go_wp2_with fail
        (with_reducible refine (check_yes l d c _ HG hl hd hc).mono ?_); rintro e w1 ⟨rfl, hb⟩
        have S1 := S0.later hb
        clear hb S0
        obtain ⟨g1, g2, g3, g4, g5, g6, F⟩ := S1
        go_wp2_with fail
        (with_reducible refine (check_yes l d c _ HG hl hd hc).mono ?_); rintro e w2 ⟨rfl, hb⟩
        have S2 := GS2.later ⟨g1, g2, g3, g4, g5, g6, F⟩ hb
        clear hb g1 g2 g3 g4 g5 g6 F
        obtain ⟨g1, g2, g3, g4, g5, g6, F⟩ := S2
        go_wp2_with fail
        go_ret
        exact ⟨by rw [H.out]; rfl, F⟩
end Go.Proofs.Ytldfoadildaljaa
end
