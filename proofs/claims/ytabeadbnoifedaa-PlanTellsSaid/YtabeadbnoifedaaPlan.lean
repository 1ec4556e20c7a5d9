/- What plan's functions compute: how many rows a window has, how many windows there are, what each moves, up to where. -/
import Derived.Test.YtabeadbnoifedaaPlanMath
import Derived.Test.YtabeadbnoifedaaGeoCan
import Derived.Test.YtabeadbnoifedaaGeoCap
set_option maxRecDepth 20000
set_option linter.unusedVariables false
set_option linter.unusedSimpArgs false
namespace Go.Proofs.Ytabeadbnoifedaa
open Go.RowKit

theorem pnR_no {l d c l' d' c' : Int} (h : gCan l d c l' d' c' = false) : pnR l d c l' d' c' = 0 := if_neg (by rw [h]; decide)
theorem pnW_no {l d c l' d' c' : Int} (h : gCan l d c l' d' c' = false) : pnW l d c l' d' c' = 0 := if_neg (by rw [h]; decide)
theorem pnR_yes {l d c l' d' c' : Int} (h : gCan l d c l' d' c' = true) : pnR l d c l' d' c' = if c < c' then c' else c := by
  unfold pnR
  rw [if_pos h]
  by_cases q : c ≤ c'
  · rw [if_pos q]; split <;> omega
  · rw [if_neg q, if_neg (by omega)]
theorem pnR_bd (l d c l' d' c' : Int) : 0 ≤ pnR l d c l' d' c' ∧ pnR l d c l' d' c' ≤ 4 := by
  cases h : gCan l d c l' d' c'
  · rw [pnR_no h]; omega
  · obtain ⟨R, K, w, w', P⟩ := pn_of h
    rw [P.eR]; have := P.r; omega
theorem pnW_bd (l d c l' d' c' : Int) : 0 ≤ pnW l d c l' d' c' ∧ pnW l d c l' d' c' ≤ 16 := by
  cases h : gCan l d c l' d' c'
  · rw [pnW_no h]; omega
  · obtain ⟨R, K, w, w', P⟩ := pn_of h
    rw [P.eK]; have := P.rk; omega
theorem pnN_no {l d c l' d' c' : Int} (h : gCan l d c l' d' c' = false) : pnN l d c l' d' c' = 0 := by unfold pnN; rw [pnR_no h]; omega
theorem pnN_bd (l d c l' d' c' : Int) : 0 ≤ pnN l d c l' d' c' ∧ pnN l d c l' d' c' ≤ 28 := by
  cases h : gCan l d c l' d' c'
  · rw [pnN_no h]; omega
  · obtain ⟨R, K, w, w', P⟩ := pn_of h
    rw [P.n]; have := P.n_bd; omega
theorem mul_bd28 {k n : Int} (h0 : 0 ≤ k) (h1 : k ≤ 17) (n0 : 0 ≤ n) (n1 : n ≤ 28) : 0 ≤ k * n ∧ k * n ≤ 476 :=
  ⟨Int.mul_nonneg h0 n0, Int.le_trans (Int.mul_le_mul_of_nonneg_right h1 n0) (by omega)⟩
theorem pnF_bd (l d c l' d' c' k : Int) : 0 ≤ pnF l d c l' d' c' k ∧ pnF l d c l' d' c' k ≤ 476 := by
  unfold pnF
  have h2 := pnN_bd l d c l' d' c'
  have h3 := pnW_bd l d c l' d' c'
  cases h : pnSok l d c l' d' c' k
  · rw [if_neg (by decide)]; omega
  · rw [if_pos rfl]
    have h1 := of_decide_eq_true h
    exact mul_bd28 (by omega) (by omega) h2.1 h2.2
theorem pnT_bd (l d c l' d' c' k : Int) : 0 ≤ pnT l d c l' d' c' k ∧ pnT l d c l' d' c' k ≤ 476 := by
  unfold pnT
  have h2 := pnN_bd l d c l' d' c'
  have h3 := pnW_bd l d c l' d' c'
  cases h : pnSok l d c l' d' c' k
  · rw [if_neg (by decide)]; omega
  · rw [if_pos rfl]
    have h1 := of_decide_eq_true h
    exact mul_bd28 (by omega) (by omega) h2.1 h2.2
theorem pnC_bd (l d c l' d' c' k : Int) : 0 ≤ pnC l d c l' d' c' k ∧ pnC l d c l' d' c' k ≤ 476 := by
  unfold pnC
  have h2 := pnN_bd l d c l' d' c'
  have h3 := pnW_bd l d c l' d' c'
  have h4 := gWid_bd l d c
  cases h : pnCok l d c l' d' c' k
  · rw [if_neg (by decide)]; omega
  · rw [if_pos rfl]
    have h1 := of_decide_eq_true h
    have h5 := mul_bd28 h1.1 (by omega) h2.1 h2.2
    unfold gCap
    split <;> omega
set_option maxHeartbeats 800000 in
theorem planRows_any (l d c l' d' c' : Int) (w : World) (hl : (-9223372036854775808 ≤ l ∧ l ≤ 9223372036854775807)) (hd : (-9223372036854775808 ≤ d ∧ d ≤ 9223372036854775807)) (hc : (-9223372036854775808 ≤ c ∧ c ≤ 9223372036854775807)) (hl' : (-9223372036854775808 ≤ l' ∧ l' ≤ 9223372036854775807)) (hd' : (-9223372036854775808 ≤ d' ∧ d' ≤ 9223372036854775807)) (hc' : (-9223372036854775808 ≤ c' ∧ c' ≤ 9223372036854775807)) :
    Calls Try.prog 8 #[.agg #[.int .i64 l, .int .i64 d, .int .i64 c], .agg #[.int .i64 l', .int .i64 d', .int .i64 c']] w fun e w' => e = .returned (.int .i64 (pnR l d c l' d' c')) ∧ Below w.heap.size w w' := by
  have S0 := gs2_start w l d c l' d' c' 23 23 (0, 0) (0, 0)
  have HC : Hid (∀ W, Calls Try.prog 22 #[.agg #[.int .i64 l, .int .i64 d, .int .i64 c], .agg #[.int .i64 l', .int .i64 d', .int .i64 c']] W fun e w' => e = .returned (.bool (gCan l d c l' d' c')) ∧ Below W.heap.size W w') := Lib.hid fun W => can_any l d c l' d' c' W hl hd hc hl' hd' hc'
  cases hC : gCan l d c l' d' c'
  · have H := Lib.hid (pnR_no hC)
    rw [hC] at HC
    clear hC
    go_enter Try.func8, Try.ntmps8
    go_wp2_with fail
    (with_reducible refine (HC.out _).mono ?_); rintro e w1 ⟨rfl, hb⟩
    have S1 := S0.later hb
    clear hb S0
    go_wp2_with fail
    go_ret
    exact ⟨by rw [H.out]; rfl, S1.2.2.2.2.2.2⟩
  · have H := Lib.hid (pnR_yes hC)
    rw [hC] at HC
    clear hC
    by_cases q : c < c'
    · have q1 : decide (c < c') = true := decide_eq_true q
      have H2 := Lib.hid (H.out.trans (if_pos q))
      go_enter Try.func8, Try.ntmps8
      go_wp2_with fail
      (with_reducible refine (HC.out _).mono ?_); rintro e w1 ⟨rfl, hb⟩
      have S1 := S0.later hb
      clear hb S0
      obtain ⟨g1, g2, g3, g4, g5, g6, F⟩ := S1
      go_wp2_with fail
      go_ret
      exact ⟨by rw [H2.out]; rfl, F⟩
    · have q1 : decide (c < c') = false := decide_eq_false q
      have H2 := Lib.hid (H.out.trans (if_neg q))
      go_enter Try.func8, Try.ntmps8
      go_wp2_with fail
      (with_reducible refine (HC.out _).mono ?_); rintro e w1 ⟨rfl, hb⟩
      have S1 := S0.later hb
      clear hb S0
      obtain ⟨g1, g2, g3, g4, g5, g6, F⟩ := S1
      go_wp2_with fail
      go_ret
      exact ⟨by rw [H2.out]; rfl, F⟩
set_option maxHeartbeats 800000 in
theorem planWindows_any (l d c l' d' c' : Int) (w : World) (hl : (-9223372036854775808 ≤ l ∧ l ≤ 9223372036854775807)) (hd : (-9223372036854775808 ≤ d ∧ d ≤ 9223372036854775807)) (hc : (-9223372036854775808 ≤ c ∧ c ≤ 9223372036854775807)) (hl' : (-9223372036854775808 ≤ l' ∧ l' ≤ 9223372036854775807)) (hd' : (-9223372036854775808 ≤ d' ∧ d' ≤ 9223372036854775807)) (hc' : (-9223372036854775808 ≤ c' ∧ c' ≤ 9223372036854775807)) :
    Calls Try.prog 9 #[.agg #[.int .i64 l, .int .i64 d, .int .i64 c], .agg #[.int .i64 l', .int .i64 d', .int .i64 c']] w fun e w' => e = .returned (.int .i64 (pnW l d c l' d' c')) ∧ Below w.heap.size w w' := by
  have S0 := gs2_start w l d c l' d' c' 23 23 (0, 0) (0, 0)
  have HC : Hid (∀ W, Calls Try.prog 8 #[.agg #[.int .i64 l, .int .i64 d, .int .i64 c], .agg #[.int .i64 l', .int .i64 d', .int .i64 c']] W fun e w' => e = .returned (.int .i64 (pnR l d c l' d' c')) ∧ Below W.heap.size W w') := Lib.hid fun W => planRows_any l d c l' d' c' W hl hd hc hl' hd' hc'
  cases hC : gCan l d c l' d' c'
  · have H := Lib.hid (pnW_no hC)
    rw [pnR_no hC] at HC
    clear hC
    go_enter Try.func9, Try.ntmps9
    go_wp2_with fail
    (with_reducible refine (HC.out _).mono ?_); rintro e w1 ⟨rfl, hb⟩
    have S1 := S0.later hb
    clear hb S0
    go_wp2_with fail
    go_ret
    exact ⟨by rw [H.out]; rfl, S1.2.2.2.2.2.2⟩
  · obtain ⟨R, K, wd, wd', P⟩ := pn_of hC
    have H := Lib.hid P.eK
    rw [P.eR] at HC
    rcases P.rk with ⟨rfl, rfl⟩ | ⟨rfl, rfl⟩ | ⟨rfl, rfl⟩
    all_goals
      clear hC P
      go_enter Try.func9, Try.ntmps9
      go_wp2_with fail
      (with_reducible refine (HC.out _).mono ?_); rintro e w1 ⟨rfl, hb⟩
      have S1 := S0.later hb
      clear hb S0
      go_wp2_with fail
      go_ret
      exact ⟨by rw [H.out]; rfl, S1.2.2.2.2.2.2⟩
set_option maxHeartbeats 800000 in
theorem planSize_any (l d c l' d' c' : Int) (w : World) (hl : (-9223372036854775808 ≤ l ∧ l ≤ 9223372036854775807)) (hd : (-9223372036854775808 ≤ d ∧ d ≤ 9223372036854775807)) (hc : (-9223372036854775808 ≤ c ∧ c ≤ 9223372036854775807)) (hl' : (-9223372036854775808 ≤ l' ∧ l' ≤ 9223372036854775807)) (hd' : (-9223372036854775808 ≤ d' ∧ d' ≤ 9223372036854775807)) (hc' : (-9223372036854775808 ≤ c' ∧ c' ≤ 9223372036854775807)) :
    Calls Try.prog 23 #[.agg #[.int .i64 l, .int .i64 d, .int .i64 c], .agg #[.int .i64 l', .int .i64 d', .int .i64 c']] w fun e w' => e = .returned (.int .i64 (pnN l d c l' d' c')) ∧ Below w.heap.size w w' := by
  have S0 := gs2_start w l d c l' d' c' 23 23 (0, 0) (0, 0)
  have HR : Hid (∀ W, Calls Try.prog 8 #[.agg #[.int .i64 l, .int .i64 d, .int .i64 c], .agg #[.int .i64 l', .int .i64 d', .int .i64 c']] W fun e w' => e = .returned (.int .i64 (pnR l d c l' d' c')) ∧ Below W.heap.size W w') := Lib.hid fun W => planRows_any l d c l' d' c' W hl hd hc hl' hd' hc'
  have HW : Hid (∀ W, Calls Try.prog 33 #[.agg #[.int .i64 l', .int .i64 d', .int .i64 c']] W fun e w' => e = .returned (.int .i64 (gWid l' d' c')) ∧ Below W.heap.size W w') := Lib.hid fun W => width_any l' d' c' W hl' hd' hc'
  have HN : Hid (pnN l d c l' d' c' = pnR l d c l' d' c' * gWid l' d' c') := rfl
  have b1 := pnR_bd l d c l' d' c'
  have b2 := gWid_bd l' d' c'
  have b3 := pnN_bd l d c l' d' c'
  rw [HN.out] at b3 ⊢
  clear HN
  generalize pnR l d c l' d' c' = R at HR b1 b3
  generalize gWid l' d' c' = wd at HW b2 b3
  have hm : IntKind.i64.wrap (R * wd) = R * wd := IntWalk.i64_in _ (by omega)
  go_enter Try.func23, Try.ntmps23
  go_wp2_with fail
  go_region_held3 (GS2 w w.heap.size w.heap.size (w.heap.size + 1) l d c l' d' c')
    (first | assumption | exact GS2.drew ‹_›)
    (first
      | (go_at_call 8; (with_reducible refine (HR.out _).mono ?_); rintro e wA ⟨rfl, hbA⟩; have SA : GS2 w w.heap.size w.heap.size (w.heap.size + 1) l d c l' d' c' wA := GS2.later (by first | assumption | exact GS2.drew ‹_›) hbA; clear hbA)
      | (go_at_call 33; (with_reducible refine (HW.out _).mono ?_); rintro e wB ⟨rfl, hbB⟩; have SB : GS2 w w.heap.size w.heap.size (w.heap.size + 1) l d c l' d' c' wB := GS2.later (by first | assumption | exact GS2.drew ‹_›) hbB; clear hbB))
  all_goals
    go_wp2
    go_ret
    first
      | exact ⟨rfl, SA.2.2.2.2.2.2⟩
      | exact ⟨rfl, SB.2.2.2.2.2.2⟩
end Go.Proofs.Ytabeadbnoifedaa
