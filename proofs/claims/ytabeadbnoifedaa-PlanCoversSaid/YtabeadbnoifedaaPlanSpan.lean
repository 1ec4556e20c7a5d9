/- What plan.Span and plan.Cursor compute. -/
import Derived.Test.YtabeadbnoifedaaPlan
set_option maxRecDepth 20000
set_option linter.unusedVariables false
set_option linter.unusedSimpArgs false
namespace Go.Proofs.Ytabeadbnoifedaa
open Go.RowKit

set_option maxHeartbeats 1600000 in
theorem planSpan_any (l d c l' d' c' k : Int) (w : World) (hl : (-9223372036854775808 ≤ l ∧ l ≤ 9223372036854775807)) (hd : (-9223372036854775808 ≤ d ∧ d ≤ 9223372036854775807)) (hc : (-9223372036854775808 ≤ c ∧ c ≤ 9223372036854775807)) (hl' : (-9223372036854775808 ≤ l' ∧ l' ≤ 9223372036854775807)) (hd' : (-9223372036854775808 ≤ d' ∧ d' ≤ 9223372036854775807)) (hc' : (-9223372036854775808 ≤ c' ∧ c' ≤ 9223372036854775807)) (hk : (-9223372036854775808 ≤ k ∧ k ≤ 9223372036854775807)) :
    Calls Try.prog 10 #[.agg #[.int .i64 l, .int .i64 d, .int .i64 c], .agg #[.int .i64 l', .int .i64 d', .int .i64 c'], .int .i64 k] w fun e w' => e = .returned (.tuple #[.int .i64 (pnF l d c l' d' c' k), .int .i64 (pnT l d c l' d' c' k)]) ∧ Below w.heap.size w w' := by
  have S0 := gs2_start w l d c l' d' c' 23 23 (0, 0) (0, 0)
  have HW : Hid (∀ W, Calls Try.prog 9 #[.agg #[.int .i64 l, .int .i64 d, .int .i64 c], .agg #[.int .i64 l', .int .i64 d', .int .i64 c']] W fun e w' => e = .returned (.int .i64 (pnW l d c l' d' c')) ∧ Below W.heap.size W w') := Lib.hid fun W => planWindows_any l d c l' d' c' W hl hd hc hl' hd' hc'
  have HS : Hid (∀ W, Calls Try.prog 23 #[.agg #[.int .i64 l, .int .i64 d, .int .i64 c], .agg #[.int .i64 l', .int .i64 d', .int .i64 c']] W fun e w' => e = .returned (.int .i64 (pnN l d c l' d' c')) ∧ Below W.heap.size W w') := Lib.hid fun W => planSize_any l d c l' d' c' W hl hd hc hl' hd' hc'
  have HF : Hid (pnF l d c l' d' c' k = if decide (0 ≤ k ∧ k < pnW l d c l' d' c') = true then k * pnN l d c l' d' c' else 0) := rfl
  have HT : Hid (pnT l d c l' d' c' k = if decide (0 ≤ k ∧ k < pnW l d c l' d' c') = true then (k + 1) * pnN l d c l' d' c' else 0) := rfl
  have b1 := pnW_bd l d c l' d' c'
  have b3 := pnN_bd l d c l' d' c'
  generalize pnF l d c l' d' c' k = F0 at HF ⊢
  generalize pnT l d c l' d' c' k = T0 at HT ⊢
  generalize pnW l d c l' d' c' = Wn at HW HF HT b1
  generalize pnN l d c l' d' c' = N at HS HF HT b3
  clear hl hd hc hl' hd' hc'
  by_cases h0 : k < 0
  · have q0 : decide (k < 0) = true := decide_eq_true h0
    have HF2 := Lib.hid (HF.out.trans (if_neg (by rw [decide_eq_true_iff]; omega)))
    have HT2 := Lib.hid (HT.out.trans (if_neg (by rw [decide_eq_true_iff]; omega)))
    go_enter Try.func10, Try.ntmps10
    go_wp2_with fail
    go_ret2
    exact ⟨by rw [HF2.out, HT2.out]; rfl, below2 _ _ _⟩
  · have q0 : decide (k < 0) = false := decide_eq_false h0
    by_cases h1 : Wn ≤ k
    · have q1 : decide (Wn ≤ k) = true := decide_eq_true h1
      have HF2 := Lib.hid (HF.out.trans (if_neg (by rw [decide_eq_true_iff]; omega)))
      have HT2 := Lib.hid (HT.out.trans (if_neg (by rw [decide_eq_true_iff]; omega)))
      go_enter Try.func10, Try.ntmps10
      go_wp2_with fail
      (with_reducible refine (HW.out _).mono ?_); rintro e w1 ⟨rfl, hb⟩
      have S1 := S0.later hb
      clear hb S0
      go_wp2_with fail
      go_ret2
      exact ⟨by rw [HF2.out, HT2.out]; rfl, S1.2.2.2.2.2.2⟩
    · have q1 : decide (Wn ≤ k) = false := decide_eq_false h1
      have HF2 := Lib.hid (HF.out.trans (if_pos (by rw [decide_eq_true_iff]; omega)))
      have HT2 := Lib.hid (HT.out.trans (if_pos (by rw [decide_eq_true_iff]; omega)))
      have m0 := mul_bd28 (k := k) (n := N) (by omega) (by omega) b3.1 b3.2
      have m1 := mul_bd28 (k := k + 1) (n := N) (by omega) (by omega) b3.1 b3.2
      have i0 : IntKind.i64.wrap (k * N) = k * N := IntWalk.i64_in _ (by omega)
      have i1 : IntKind.i64.wrap ((k + 1) * N) = (k + 1) * N := IntWalk.i64_in _ (by omega)
      have i2 : IntKind.i64.wrap (k + 1) = k + 1 := IntWalk.i64_in _ (by omega)
      go_enter Try.func10, Try.ntmps10
      go_wp2_with fail
      (with_reducible refine (HW.out _).mono ?_); rintro e w1 ⟨rfl, hb⟩
      have S1 := S0.later hb
      clear hb S0
      obtain ⟨g1, g2, g3, g4, g5, g6, F⟩ := S1
      go_wp2_with fail
      have S1 : GS2 w w.heap.size w.heap.size (w.heap.size + 1) l d c l' d' c' w1 := ⟨g1, g2, g3, g4, g5, g6, F⟩
      clear g1 g2 g3 g4 g5 g6 F
      go_region_held3 (GS2 w w.heap.size w.heap.size (w.heap.size + 1) l d c l' d' c')
        (first | assumption | exact GS2.drew ‹_›)
        ((go_at_call 23; (with_reducible refine (HS.out _).mono ?_); rintro e wA ⟨rfl, hbA⟩; have SA : GS2 w w.heap.size w.heap.size (w.heap.size + 1) l d c l' d' c' wA := GS2.later (by first | assumption | exact GS2.drew ‹_›) hbA; clear hbA))
      all_goals
        go_wp2
        go_ret2
        exact ⟨by rw [HF2.out, HT2.out]; rfl, SA.2.2.2.2.2.2⟩
set_option maxHeartbeats 1600000 in
theorem planCursor_any (l d c l' d' c' k : Int) (w : World) (hl : (-9223372036854775808 ≤ l ∧ l ≤ 9223372036854775807)) (hd : (-9223372036854775808 ≤ d ∧ d ≤ 9223372036854775807)) (hc : (-9223372036854775808 ≤ c ∧ c ≤ 9223372036854775807)) (hl' : (-9223372036854775808 ≤ l' ∧ l' ≤ 9223372036854775807)) (hd' : (-9223372036854775808 ≤ d' ∧ d' ≤ 9223372036854775807)) (hc' : (-9223372036854775808 ≤ c' ∧ c' ≤ 9223372036854775807)) (hk : (-9223372036854775808 ≤ k ∧ k ≤ 9223372036854775807)) :
    Calls Try.prog 11 #[.agg #[.int .i64 l, .int .i64 d, .int .i64 c], .agg #[.int .i64 l', .int .i64 d', .int .i64 c'], .int .i64 k] w fun e w' => e = .returned (.int .i64 (pnC l d c l' d' c' k)) ∧ Below w.heap.size w w' := by
  have S0 := gs2_start w l d c l' d' c' 23 23 (0, 0) (0, 0)
  have HW : Hid (∀ W, Calls Try.prog 9 #[.agg #[.int .i64 l, .int .i64 d, .int .i64 c], .agg #[.int .i64 l', .int .i64 d', .int .i64 c']] W fun e w' => e = .returned (.int .i64 (pnW l d c l' d' c')) ∧ Below W.heap.size W w') := Lib.hid fun W => planWindows_any l d c l' d' c' W hl hd hc hl' hd' hc'
  have HP : Hid (∀ W, Calls Try.prog 24 #[.agg #[.int .i64 l, .int .i64 d, .int .i64 c]] W fun e w' => e = .returned (.int .i64 (gCap l d c)) ∧ Below W.heap.size W w') := Lib.hid fun W => capacity_any l d c W hl hd hc
  have HS : Hid (∀ W, Calls Try.prog 23 #[.agg #[.int .i64 l, .int .i64 d, .int .i64 c], .agg #[.int .i64 l', .int .i64 d', .int .i64 c']] W fun e w' => e = .returned (.int .i64 (pnN l d c l' d' c')) ∧ Below W.heap.size W w') := Lib.hid fun W => planSize_any l d c l' d' c' W hl hd hc hl' hd' hc'
  have HF : Hid (pnC l d c l' d' c' k = if decide (0 ≤ k ∧ k ≤ pnW l d c l' d' c') = true then (if k * pnN l d c l' d' c' ≤ gCap l d c then k * pnN l d c l' d' c' else gCap l d c) else 0) := rfl
  have b1 := pnW_bd l d c l' d' c'
  have b3 := pnN_bd l d c l' d' c'
  have b4 := gWid_bd l d c
  have b5 : 0 ≤ gCap l d c ∧ gCap l d c ≤ 112 := by unfold gCap; omega
  generalize pnC l d c l' d' c' k = F0 at HF ⊢
  generalize pnW l d c l' d' c' = Wn at HW HF b1
  generalize pnN l d c l' d' c' = N at HS HF b3
  generalize gCap l d c = cp at HP HF b5
  clear hl hd hc hl' hd' hc' b4
  by_cases h0 : k < 0
  · have q0 : decide (k < 0) = true := decide_eq_true h0
    have HF2 := Lib.hid (HF.out.trans (if_neg (by rw [decide_eq_true_iff]; omega)))
    go_enter Try.func11, Try.ntmps11
    go_wp2_with fail
    go_ret
    exact ⟨by rw [HF2.out]; rfl, below2 _ _ _⟩
  · have q0 : decide (k < 0) = false := decide_eq_false h0
    by_cases h1 : Wn < k
    · have q1 : decide (Wn < k) = true := decide_eq_true h1
      have HF2 := Lib.hid (HF.out.trans (if_neg (by rw [decide_eq_true_iff]; omega)))
      go_enter Try.func11, Try.ntmps11
      go_wp2_with fail
      (with_reducible refine (HW.out _).mono ?_); rintro e w1 ⟨rfl, hb⟩
      have S1 := S0.later hb
      clear hb S0
      go_wp2_with fail
      go_ret
      exact ⟨by rw [HF2.out]; rfl, S1.2.2.2.2.2.2⟩
    · have q1 : decide (Wn < k) = false := decide_eq_false h1
      have HF2 := Lib.hid (HF.out.trans (if_pos (by rw [decide_eq_true_iff]; omega)))
      have m0 := mul_bd28 (k := k) (n := N) (by omega) (by omega) b3.1 b3.2
      have i0 : IntKind.i64.wrap (k * N) = k * N := IntWalk.i64_in _ (by omega)
      obtain ⟨M, HM, hM⟩ : ∃ M, Hid (F0 = M) ∧ ((cp < k * N ∧ M = cp) ∨ (¬ cp < k * N ∧ M = k * N)) := by
        refine ⟨_, HF2, ?_⟩
        by_cases q : cp < k * N
        · exact .inl ⟨q, if_neg (by omega)⟩
        · exact .inr ⟨q, if_pos (by omega)⟩
      rcases hM with ⟨hM, rfl⟩ | ⟨hM, rfl⟩
      all_goals
        go_enter Try.func11, Try.ntmps11
        go_wp2_with fail
        (with_reducible refine (HW.out _).mono ?_); rintro e w1 ⟨rfl, hb⟩
        have S1 := S0.later hb
        clear hb S0
        obtain ⟨g1, g2, g3, g4, g5, g6, F⟩ := S1
        go_wp2_with fail
        have S1 : GS2 w w.heap.size w.heap.size (w.heap.size + 1) l d c l' d' c' w1 := ⟨g1, g2, g3, g4, g5, g6, F⟩
        clear g1 g2 g3 g4 g5 g6 F
        go_region_held3 (GS2 w w.heap.size w.heap.size (w.heap.size + 1) l d c l' d' c')
          (first | assumption | exact GS2.drew ‹_›)
          (first
            | (go_at_call 24; (with_reducible refine (HP.out _).mono ?_); rintro e wA ⟨rfl, hb0⟩; have SA : GS2 w w.heap.size w.heap.size (w.heap.size + 1) l d c l' d' c' wA := GS2.later (by first | assumption | exact GS2.drew ‹_›) hb0; clear hb0)
            | (go_at_call 23; (with_reducible refine (HS.out _).mono ?_); rintro e wB ⟨rfl, hb1⟩; have SB : GS2 w w.heap.size w.heap.size (w.heap.size + 1) l d c l' d' c' wB := GS2.later (by first | assumption | exact GS2.drew ‹_›) hb1; clear hb1))
        all_goals
          go_wp2
          go_ret
          first
            | exact ⟨by rw [HM.out]; rfl, SA.2.2.2.2.2.2⟩
            | exact ⟨by rw [HM.out]; rfl, SB.2.2.2.2.2.2⟩
end Go.Proofs.Ytabeadbnoifedaa
