/- Which geometry may become which: what geom.Can computes. -/
import Derived.Test.YtabeadbnoifedaaGeo
namespace Go.Proofs.Ytabeadbnoifedaa
open Go.RowKit

set_option maxHeartbeats 1000000 in
theorem can_ne (l d c l' d' c' : Int) (w : World) (hl : -9223372036854775808 ≤ l ∧ l ≤ 9223372036854775807) (hd : -9223372036854775808 ≤ d ∧ d ≤ 9223372036854775807) (hc : -9223372036854775808 ≤ c ∧ c ≤ 9223372036854775807)
    (hl' : -9223372036854775808 ≤ l' ∧ l' ≤ 9223372036854775807) (hd' : -9223372036854775808 ≤ d' ∧ d' ≤ 9223372036854775807) (hc' : -9223372036854775808 ≤ c' ∧ c' ≤ 9223372036854775807)
    (HG : Hid (gOk l d c = true)) (HG' : Hid (gOk l' d' c' = true)) (hE : Hid (gEq l d c l' d' c' = false)) :
    Calls Try.prog 22 #[.agg #[.int .i64 l, .int .i64 d, .int .i64 c], .agg #[.int .i64 l', .int .i64 d', .int .i64 c']] w fun e w' => e = .returned (.bool (gCan l d c l' d' c')) ∧ Below w.heap.size w w' := by
  have S0 := gs2_start w l d c l' d' c' 23 23 (0, 0) (0, 0)
  have H := Lib.hid ((gCan_ok HG.out HG'.out hE.out).trans (gGe_eq l d c l' d' c'))
  have hE' := gEq_no hE.out
  have HW : Hid (∀ W, Calls Try.prog 33 #[.agg #[.int .i64 l, .int .i64 d, .int .i64 c]] W fun e w' => e = .returned (.int .i64 (gWid l d c)) ∧ Below W.heap.size W w') := Lib.hid fun W => width_any l d c W hl hd hc
  have HW' : Hid (∀ W, Calls Try.prog 33 #[.agg #[.int .i64 l', .int .i64 d', .int .i64 c']] W fun e w' => e = .returned (.int .i64 (gWid l' d' c')) ∧ Below W.heap.size W w') := Lib.hid fun W => width_any l' d' c' W hl' hd' hc'
  have HC : Hid (∀ W, Calls Try.prog 32 #[.agg #[.int .i64 l, .int .i64 d, .int .i64 c]] W fun e w' => e = .returned (.int .i64 0) ∧ Below W.heap.size W w') := Lib.hid fun W => check_yes l d c W HG hl hd hc
  have HC' : Hid (∀ W, Calls Try.prog 32 #[.agg #[.int .i64 l', .int .i64 d', .int .i64 c']] W fun e w' => e = .returned (.int .i64 0) ∧ Below W.heap.size W w') := Lib.hid fun W => check_yes l' d' c' W HG' hl' hd' hc'
  generalize gCan l d c l' d' c' = can at H
  generalize gWid l d c = wd at H HW
  generalize gWid l' d' c' = wd' at H HW'
  clear hE
  have hE2 : (¬ l = l') ∨ (l = l' ∧ ¬ d = d') ∨ (l = l' ∧ d = d' ∧ ¬ c = c') := by omega
  clear hE'
  go_enter Try.func22, Try.ntmps22
  go_upto_region 1 with fail
  go_cut [17] (fun v W => v = .bool false ∧ GS2 w w.heap.size w.heap.size (w.heap.size + 1) l d c l' d' c' W)
  case first =>
    rcases hE2 with h1 | ⟨rfl, h1⟩ | ⟨rfl, rfl, h1⟩
    all_goals
      go_wp2_with fail
      (with_reducible refine (HC.out _).mono ?_); rintro e w1 ⟨rfl, hb⟩
      have S1 := S0.later hb
      clear hb S0
      obtain ⟨g1, g2, g3, g4, g5, g6, F⟩ := S1
      go_wp2_with fail
      (with_reducible refine (HC'.out _).mono ?_); rintro e w2 ⟨rfl, hb⟩
      have S2 := GS2.later ⟨g1, g2, g3, g4, g5, g6, F⟩ hb
      clear hb g1 g2 g3 g4 g5 g6 F
      obtain ⟨g1, g2, g3, g4, g5, g6, F⟩ := S2
      go_wp2_with fail
      go_meet
      exact ⟨rfl, ⟨g1, g2, g3, g4, g5, g6, F⟩⟩
  case rest =>
    obtain ⟨rfl, S3⟩ := hcut
    clear S0 hE2
    obtain ⟨g1, g2, g3, g4, g5, g6, F⟩ := S3
    by_cases hdd : d ≤ d'
    · by_cases hll : l ≤ l'
      · have S3 : GS2 w w.heap.size w.heap.size (w.heap.size + 1) l d c l' d' c' wc := ⟨g1, g2, g3, g4, g5, g6, F⟩
        clear g1 g2 g3 g4 g5 g6 F
        have Hn := Lib.hid (H.out.trans (show _ = decide (wd ≤ wd') by simp [hdd, hll]))
        go_wp2_with fail
        go_region_held3 (GS2 w w.heap.size w.heap.size (w.heap.size + 1) l d c l' d' c')
          (first | assumption | exact GS2.drew ‹_›)
          (first
            | (go_at_call_of 33 (Value.agg #[.int .i64 l, .int .i64 d, .int .i64 c]); (with_reducible refine (HW.out _).mono ?_); rintro e wA ⟨rfl, hbA⟩; have SA : GS2 w w.heap.size w.heap.size (w.heap.size + 1) l d c l' d' c' wA := GS2.later (by first | assumption | exact GS2.drew ‹_›) hbA; clear hbA)
            | (go_at_call_of 33 (Value.agg #[.int .i64 l', .int .i64 d', .int .i64 c']); (with_reducible refine (HW'.out _).mono ?_); rintro e wB ⟨rfl, hbB⟩; have SB : GS2 w w.heap.size w.heap.size (w.heap.size + 1) l d c l' d' c' wB := GS2.later (by first | assumption | exact GS2.drew ‹_›) hbB; clear hbB))
        go_wp2
        go_ret
        exact ⟨by rw [Hn.out]; rfl, SA.2.2.2.2.2.2⟩
      · have Hn := Lib.hid (H.out.trans (decide_eq_false (by omega)))
        have e1 : decide (d ≤ d') = true := decide_eq_true hdd
        have e2 : decide (l ≤ l') = false := decide_eq_false hll
        go_wp2_with fail
        go_quiet (fail)
        go_wp2
        go_ret
        exact ⟨by rw [Hn.out]; rfl, F.trans (belowN _ _ _)⟩
    · have Hn := Lib.hid (H.out.trans (decide_eq_false (by omega)))
      have e1 : decide (d ≤ d') = false := decide_eq_false hdd
      go_wp2_with fail
      go_quiet (fail)
      go_wp2
      go_ret
      exact ⟨by rw [Hn.out]; rfl, F.trans (belowN _ _ _)⟩
set_option maxHeartbeats 1000000 in
theorem can_any (l d c l' d' c' : Int) (w : World) (hl : -9223372036854775808 ≤ l ∧ l ≤ 9223372036854775807) (hd : -9223372036854775808 ≤ d ∧ d ≤ 9223372036854775807) (hc : -9223372036854775808 ≤ c ∧ c ≤ 9223372036854775807)
    (hl' : -9223372036854775808 ≤ l' ∧ l' ≤ 9223372036854775807) (hd' : -9223372036854775808 ≤ d' ∧ d' ≤ 9223372036854775807) (hc' : -9223372036854775808 ≤ c' ∧ c' ≤ 9223372036854775807) :
    Calls Try.prog 22 #[.agg #[.int .i64 l, .int .i64 d, .int .i64 c], .agg #[.int .i64 l', .int .i64 d', .int .i64 c']] w fun e w' => e = .returned (.bool (gCan l d c l' d' c')) ∧ Below w.heap.size w w' := by
  have S0 := gs2_start w l d c l' d' c' 23 23 (0, 0) (0, 0)
  cases hG : gOk l d c
  · have H : Hid (gCan l d c l' d' c' = false) := by unfold gCan; rw [hG]; rfl
    have HG := Lib.hid hG
    clear hG
    go_enter Try.func22, Try.ntmps22
    go_wp2_with fail
    (with_reducible refine (check_no l d c _ HG hl hd hc).mono ?_); rintro e w1 ⟨rfl, hb⟩
    have S1 := S0.later hb
    clear hb S0
    go_wp2_with fail
    go_ret
    exact ⟨by rw [H.out]; rfl, S1.2.2.2.2.2.2⟩
  · have HG := Lib.hid hG
    cases hG' : gOk l' d' c'
    · have H : Hid (gCan l d c l' d' c' = false) := by unfold gCan; rw [hG, hG']; rfl
      have HG' := Lib.hid hG'
      clear hG hG'
      go_enter Try.func22, Try.ntmps22
      go_wp2_with fail
      (with_reducible refine (check_yes l d c _ HG hl hd hc).mono ?_); rintro e w1 ⟨rfl, hb⟩
      have S1 := S0.later hb
      clear hb S0
      obtain ⟨g1, g2, g3, g4, g5, g6, F⟩ := S1
      go_wp2_with fail
      (with_reducible refine (check_no l' d' c' _ HG' hl' hd' hc').mono ?_); rintro e w2 ⟨rfl, hb⟩
      have S2 := GS2.later ⟨g1, g2, g3, g4, g5, g6, F⟩ hb
      clear hb g1 g2 g3 g4 g5 g6 F
      go_wp2_with fail
      go_ret
      exact ⟨by rw [H.out]; rfl, S2.2.2.2.2.2.2⟩
    · have HG' := Lib.hid hG'
      cases hE : gEq l d c l' d' c'
      · exact can_ne l d c l' d' c' w hl hd hc hl' hd' hc' HG HG' (Lib.hid hE)
      · obtain ⟨rfl, rfl, rfl⟩ := gEq_yes hE
        have H : Hid (gCan l d c l d c = false) := by unfold gCan; rw [hE, Bool.not_true, Bool.and_false, Bool.false_and]; rfl
        clear hG hG' hE
        go_enter Try.func22, Try.ntmps22
        go_wp2_with fail
        (with_reducible refine (check_yes l d c _ HG hl hd hc).mono ?_); rintro e w1 ⟨rfl, hb⟩
        have S1 := S0.later hb
        clear hb S0
        obtain ⟨g1, g2, g3, g4, g5, g6, F⟩ := S1
        go_wp2_with fail
        (with_reducible refine (check_yes l d c _ HG hl hd hc).mono ?_); rintro e w2 ⟨rfl, hb⟩
        have S2 := GS2.later ⟨g1, g2, g3, g4, g5, g6, F⟩ hb
        clear hb g1 g2 g3 g4 g5 g6 F
        obtain ⟨g1, g2, g3, g4, g5, g6, F⟩ := S2
        go_wp2_with fail
        go_ret
        exact ⟨by rw [H.out]; rfl, F⟩
end Go.Proofs.Ytabeadbnoifedaa
