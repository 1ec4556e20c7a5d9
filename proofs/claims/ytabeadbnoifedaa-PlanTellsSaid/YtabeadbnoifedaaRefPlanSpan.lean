/- What the document's own Span and Cursor compute. -/
import Derived.Test.YtabeadbnoifedaaRefPlan
set_option maxRecDepth 20000
set_option linter.unusedVariables false
set_option linter.unusedSimpArgs false
namespace Go.Proofs.Ytabeadbnoifedaa
open Go.RowKit

set_option maxHeartbeats 1600000 in
theorem refSpan_any (l d c l' d' c' k : Int) (w : World) (hl : (-9223372036854775808 ≤ l ∧ l ≤ 9223372036854775807)) (hd : (-9223372036854775808 ≤ d ∧ d ≤ 9223372036854775807)) (hc : (-9223372036854775808 ≤ c ∧ c ≤ 9223372036854775807)) (hl' : (-9223372036854775808 ≤ l' ∧ l' ≤ 9223372036854775807)) (hd' : (-9223372036854775808 ≤ d' ∧ d' ≤ 9223372036854775807)) (hc' : (-9223372036854775808 ≤ c' ∧ c' ≤ 9223372036854775807)) (hk : (-9223372036854775808 ≤ k ∧ k ≤ 9223372036854775807)) :
    Calls Try.prog 17 #[.agg #[.int .i64 l, .int .i64 d, .int .i64 c], .agg #[.int .i64 l', .int .i64 d', .int .i64 c'], .int .i64 k] w fun e w' => e = .returned (.tuple #[.int .i64 (pnF l d c l' d' c' k), .int .i64 (pnT l d c l' d' c' k)]) ∧ Below w.heap.size w w' := by
  have S0 := gs2_start w l d c l' d' c' 23 23 (0, 0) (0, 0)
  have HW : Hid (∀ W, Calls Try.prog 16 #[.agg #[.int .i64 l, .int .i64 d, .int .i64 c], .agg #[.int .i64 l', .int .i64 d', .int .i64 c']] W fun e w' => e = .returned (.int .i64 (pnW l d c l' d' c')) ∧ Below W.heap.size W w') := Lib.hid fun W => refWindows_any l d c l' d' c' W hl hd hc hl' hd' hc'
  have HR : Hid (∀ W, Calls Try.prog 15 #[.agg #[.int .i64 l, .int .i64 d, .int .i64 c], .agg #[.int .i64 l', .int .i64 d', .int .i64 c']] W fun e w' => e = .returned (.int .i64 (pnR l d c l' d' c')) ∧ Below W.heap.size W w') := Lib.hid fun W => refRows_any l d c l' d' c' W hl hd hc hl' hd' hc'
  have HV : Hid (∀ W, Calls Try.prog 28 #[.agg #[.int .i64 l', .int .i64 d', .int .i64 c']] W fun e w' => e = .returned (.int .i64 (gWid l' d' c')) ∧ Below W.heap.size W w') := Lib.hid fun W => refWidth_any l' d' c' W hl' hd' hc'
  have HF : Hid (pnF l d c l' d' c' k = if decide (0 ≤ k ∧ k < pnW l d c l' d' c') = true then k * pnN l d c l' d' c' else 0) := rfl
  have HT : Hid (pnT l d c l' d' c' k = if decide (0 ≤ k ∧ k < pnW l d c l' d' c') = true then (k + 1) * pnN l d c l' d' c' else 0) := rfl
  have b1 := pnW_bd l d c l' d' c'
  have b3 := pnN_bd l d c l' d' c'
  have HN : Hid (pnN l d c l' d' c' = pnR l d c l' d' c' * gWid l' d' c') := rfl
  have r1 := pnR_bd l d c l' d' c'
  have r2 := gWid_bd l' d' c'
  generalize pnR l d c l' d' c' = R at HR HN r1
  generalize gWid l' d' c' = wd at HV HN r2
  generalize pnF l d c l' d' c' k = F0 at HF ⊢
  generalize pnT l d c l' d' c' k = T0 at HT ⊢
  generalize pnW l d c l' d' c' = Wn at HW HF HT b1
  generalize pnN l d c l' d' c' = N at HN HF HT b3
  clear hl hd hc hl' hd' hc'
  by_cases h0 : k < 0
  · have q0 : decide (k < 0) = true := decide_eq_true h0
    have HF2 := Lib.hid (HF.out.trans (if_neg (by rw [decide_eq_true_iff]; omega)))
    have HT2 := Lib.hid (HT.out.trans (if_neg (by rw [decide_eq_true_iff]; omega)))
    go_enter Try.func17, Try.ntmps17
    go_wp2_with fail
    go_ret2
    exact ⟨by rw [HF2.out, HT2.out]; rfl, below2 _ _ _⟩
  · have q0 : decide (k < 0) = false := decide_eq_false h0
    by_cases h1 : Wn ≤ k
    · have q1 : decide (Wn ≤ k) = true := decide_eq_true h1
      have HF2 := Lib.hid (HF.out.trans (if_neg (by rw [decide_eq_true_iff]; omega)))
      have HT2 := Lib.hid (HT.out.trans (if_neg (by rw [decide_eq_true_iff]; omega)))
      go_enter Try.func17, Try.ntmps17
      go_wp2_with fail
      (with_reducible refine (HW.out _).mono ?_); rintro e w1 ⟨rfl, hb⟩
      have S1 := S0.later hb
      clear hb S0
      go_wp2_with fail
      go_ret2
      exact ⟨by rw [HF2.out, HT2.out]; rfl, S1.2.2.2.2.2.2⟩
    · have q1 : decide (Wn ≤ k) = false := decide_eq_false h1
      have HF2 := Lib.hid (HF.out.trans (if_pos (by rw [decide_eq_true_iff]; omega)))
      have HT2 := Lib.hid (HT.out.trans (if_pos (by rw [decide_eq_true_iff]; omega)))
      have m0 := mul_bd28 (k := k) (n := N) (by omega) (by omega) b3.1 b3.2
      have m1 := mul_bd28 (k := k + 1) (n := N) (by omega) (by omega) b3.1 b3.2
      have i0 : IntKind.i64.wrap (k * N) = k * N := IntWalk.i64_in _ (by omega)
      have i1 : IntKind.i64.wrap ((k + 1) * N) = (k + 1) * N := IntWalk.i64_in _ (by omega)
      have i2 : IntKind.i64.wrap (k + 1) = k + 1 := IntWalk.i64_in _ (by omega)
      have i3 : IntKind.i64.wrap (R * wd) = N := (IntWalk.i64_in _ (by rw [← HN.out]; omega)).trans HN.out.symm
      clear HN
      go_enter Try.func17, Try.ntmps17
      go_wp2_with fail
      (with_reducible refine (HW.out _).mono ?_); rintro e w1 ⟨rfl, hb⟩
      have S1 := S0.later hb
      clear hb S0
      obtain ⟨g1, g2, g3, g4, g5, g6, F⟩ := S1
      go_wp2_with fail
      have S1 : GS2 w w.heap.size w.heap.size (w.heap.size + 1) l d c l' d' c' w1 := ⟨g1, g2, g3, g4, g5, g6, F⟩
      clear g1 g2 g3 g4 g5 g6 F
      go_region_held3 (GS2 w w.heap.size w.heap.size (w.heap.size + 1) l d c l' d' c')
        (first | assumption | exact GS2.drew ‹_›)
        (first
          | (go_at_call 15; (with_reducible refine (HR.out _).mono ?_); rintro e wA ⟨rfl, hb0⟩; have SA : GS2 w w.heap.size w.heap.size (w.heap.size + 1) l d c l' d' c' wA := GS2.later (by first | assumption | exact GS2.drew ‹_›) hb0; clear hb0)
          | (go_at_call 28; (with_reducible refine (HV.out _).mono ?_); rintro e wB ⟨rfl, hb1⟩; have SB : GS2 w w.heap.size w.heap.size (w.heap.size + 1) l d c l' d' c' wB := GS2.later (by first | assumption | exact GS2.drew ‹_›) hb1; clear hb1))
      all_goals
        go_wp2
        go_ret2
        first
          | exact ⟨by rw [HF2.out, HT2.out]; rfl, SA.2.2.2.2.2.2⟩
          | exact ⟨by rw [HF2.out, HT2.out]; rfl, SB.2.2.2.2.2.2⟩
set_option maxHeartbeats 1600000 in
theorem refCursor_any (l d c l' d' c' k : Int) (w : World) (hl : (-9223372036854775808 ≤ l ∧ l ≤ 9223372036854775807)) (hd : (-9223372036854775808 ≤ d ∧ d ≤ 9223372036854775807)) (hc : (-9223372036854775808 ≤ c ∧ c ≤ 9223372036854775807)) (hl' : (-9223372036854775808 ≤ l' ∧ l' ≤ 9223372036854775807)) (hd' : (-9223372036854775808 ≤ d' ∧ d' ≤ 9223372036854775807)) (hc' : (-9223372036854775808 ≤ c' ∧ c' ≤ 9223372036854775807)) (hk : (-9223372036854775808 ≤ k ∧ k ≤ 9223372036854775807)) :
    Calls Try.prog 18 #[.agg #[.int .i64 l, .int .i64 d, .int .i64 c], .agg #[.int .i64 l', .int .i64 d', .int .i64 c'], .int .i64 k] w fun e w' => e = .returned (.int .i64 (pnC l d c l' d' c' k)) ∧ Below w.heap.size w w' := by
  have S0 := gs2_start w l d c l' d' c' 23 23 (0, 0) (0, 0)
  have HW : Hid (∀ W, Calls Try.prog 16 #[.agg #[.int .i64 l, .int .i64 d, .int .i64 c], .agg #[.int .i64 l', .int .i64 d', .int .i64 c']] W fun e w' => e = .returned (.int .i64 (pnW l d c l' d' c')) ∧ Below W.heap.size W w') := Lib.hid fun W => refWindows_any l d c l' d' c' W hl hd hc hl' hd' hc'
  have HP : Hid (∀ W, Calls Try.prog 19 #[.agg #[.int .i64 l, .int .i64 d, .int .i64 c]] W fun e w' => e = .returned (.int .i64 (gCap l d c)) ∧ Below W.heap.size W w') := Lib.hid fun W => refCapacity_any l d c W hl hd hc
  have HR : Hid (∀ W, Calls Try.prog 15 #[.agg #[.int .i64 l, .int .i64 d, .int .i64 c], .agg #[.int .i64 l', .int .i64 d', .int .i64 c']] W fun e w' => e = .returned (.int .i64 (pnR l d c l' d' c')) ∧ Below W.heap.size W w') := Lib.hid fun W => refRows_any l d c l' d' c' W hl hd hc hl' hd' hc'
  have HV : Hid (∀ W, Calls Try.prog 28 #[.agg #[.int .i64 l', .int .i64 d', .int .i64 c']] W fun e w' => e = .returned (.int .i64 (gWid l' d' c')) ∧ Below W.heap.size W w') := Lib.hid fun W => refWidth_any l' d' c' W hl' hd' hc'
  have HF : Hid (pnC l d c l' d' c' k = if decide (0 ≤ k ∧ k ≤ pnW l d c l' d' c') = true then (if k * pnN l d c l' d' c' ≤ gCap l d c then k * pnN l d c l' d' c' else gCap l d c) else 0) := rfl
  have b1 := pnW_bd l d c l' d' c'
  have b3 := pnN_bd l d c l' d' c'
  have b4 := gWid_bd l d c
  have b5 : 0 ≤ gCap l d c ∧ gCap l d c ≤ 112 := by unfold gCap; omega
  have HN : Hid (pnN l d c l' d' c' = pnR l d c l' d' c' * gWid l' d' c') := rfl
  have r1 := pnR_bd l d c l' d' c'
  have r2 := gWid_bd l' d' c'
  generalize pnR l d c l' d' c' = R at HR HN r1
  generalize gWid l' d' c' = wd at HV HN r2
  generalize pnC l d c l' d' c' k = F0 at HF ⊢
  generalize pnW l d c l' d' c' = Wn at HW HF b1
  generalize pnN l d c l' d' c' = N at HN HF b3
  generalize gCap l d c = cp at HP HF b5
  clear hl hd hc hl' hd' hc' b4
  by_cases h0 : k < 0
  · have q0 : decide (k < 0) = true := decide_eq_true h0
    have HF2 := Lib.hid (HF.out.trans (if_neg (by rw [decide_eq_true_iff]; omega)))
    go_enter Try.func18, Try.ntmps18
    go_wp2_with fail
    go_ret
    exact ⟨by rw [HF2.out]; rfl, below2 _ _ _⟩
  · have q0 : decide (k < 0) = false := decide_eq_false h0
    by_cases h1 : Wn < k
    · have q1 : decide (Wn < k) = true := decide_eq_true h1
      have HF2 := Lib.hid (HF.out.trans (if_neg (by rw [decide_eq_true_iff]; omega)))
      go_enter Try.func18, Try.ntmps18
      go_wp2_with fail
      (with_reducible refine (HW.out _).mono ?_); rintro e w1 ⟨rfl, hb⟩
      have S1 := S0.later hb
      clear hb S0
      go_wp2_with fail
      go_ret
      exact ⟨by rw [HF2.out]; rfl, S1.2.2.2.2.2.2⟩
    · have q1 : decide (Wn < k) = false := decide_eq_false h1
      have HF2 := Lib.hid (HF.out.trans (if_pos (by rw [decide_eq_true_iff]; omega)))
      have m0 := mul_bd28 (k := k) (n := N) (by omega) (by omega) b3.1 b3.2
      have i0 : IntKind.i64.wrap (k * N) = k * N := IntWalk.i64_in _ (by omega)
      obtain ⟨M, HM, hM⟩ : ∃ M, Hid (F0 = M) ∧ ((cp < k * N ∧ M = cp) ∨ (¬ cp < k * N ∧ M = k * N)) := by
        refine ⟨_, HF2, ?_⟩
        by_cases q : cp < k * N
        · exact .inl ⟨q, if_neg (by omega)⟩
        · exact .inr ⟨q, if_pos (by omega)⟩
      have m2 := mul_bd28 (k := k) (n := R) (by omega) (by omega) (by omega) (by omega)
      have i3 : IntKind.i64.wrap (k * R) = k * R := IntWalk.i64_in _ (by omega)
      have e4 : k * R * wd = k * N := by rw [HN.out, Int.mul_assoc]
      have i4 : IntKind.i64.wrap (k * R * wd) = k * N := by rw [e4]; exact i0
      clear e4 HN
      rcases hM with ⟨hM, rfl⟩ | ⟨hM, rfl⟩
      all_goals
        go_enter Try.func18, Try.ntmps18
        go_wp2_with fail
        (with_reducible refine (HW.out _).mono ?_); rintro e w1 ⟨rfl, hb⟩
        have S1 := S0.later hb
        clear hb S0
        obtain ⟨g1, g2, g3, g4, g5, g6, F⟩ := S1
        go_wp2_with fail
        have S1 : GS2 w w.heap.size w.heap.size (w.heap.size + 1) l d c l' d' c' w1 := ⟨g1, g2, g3, g4, g5, g6, F⟩
        clear g1 g2 g3 g4 g5 g6 F
        go_region_held3 (GS2 w w.heap.size w.heap.size (w.heap.size + 1) l d c l' d' c')
          (first | assumption | exact GS2.drew ‹_›)
          (first
            | (go_at_call 19; (with_reducible refine (HP.out _).mono ?_); rintro e wA ⟨rfl, hb0⟩; have SA : GS2 w w.heap.size w.heap.size (w.heap.size + 1) l d c l' d' c' wA := GS2.later (by first | assumption | exact GS2.drew ‹_›) hb0; clear hb0)
            | (go_at_call 15; (with_reducible refine (HR.out _).mono ?_); rintro e wB ⟨rfl, hb1⟩; have SB : GS2 w w.heap.size w.heap.size (w.heap.size + 1) l d c l' d' c' wB := GS2.later (by first | assumption | exact GS2.drew ‹_›) hb1; clear hb1)
            | (go_at_call 28; (with_reducible refine (HV.out _).mono ?_); rintro e wC ⟨rfl, hb2⟩; have SC : GS2 w w.heap.size w.heap.size (w.heap.size + 1) l d c l' d' c' wC := GS2.later (by first | assumption | exact GS2.drew ‹_›) hb2; clear hb2))
        all_goals
          go_wp2
          go_ret
          first
            | exact ⟨by rw [HM.out]; rfl, SA.2.2.2.2.2.2⟩
            | exact ⟨by rw [HM.out]; rfl, SB.2.2.2.2.2.2⟩
end Go.Proofs.Ytabeadbnoifedaa
