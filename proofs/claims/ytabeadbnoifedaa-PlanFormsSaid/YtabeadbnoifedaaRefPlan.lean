/- The document's own windows: what its least, Rows, Windows compute; the statements' example of windows. -/
import Derived.Test.YtabeadbnoifedaaPlan
import Derived.Test.YtabeadbnoifedaaRefCan
import Derived.Test.YtabeadbnoifedaaRefGeoCap
set_option maxRecDepth 20000
set_option linter.unusedVariables false
set_option linter.unusedSimpArgs false
namespace Go.Proofs.Ytabeadbnoifedaa
open Go.RowKit

set_option maxHeartbeats 800000 in
theorem refLeast_11 (w : World) : Calls Try.prog 27 #[.int .i64 1, .int .i64 1] w fun e w' => e = .returned (.int .i64 1) ∧ w' = w := by
  go_enter Try.func27, Try.ntmps27
  go_wp2
  go_loopw [5] (fun v wr => ∃ n : Int, v = .int .i64 n ∧ (n = 1) ∧ wr = w) (fun v _ => (5 - intOf v).toNat)
  case atStart => exact ⟨_, rfl, by omega, rfl⟩
  case round =>
    obtain ⟨n, rfl, hn, rfl⟩ := hrel
    subst hn
    go_wp2
    go_ret
    exact ⟨rfl, rfl⟩
set_option maxHeartbeats 800000 in
theorem refLeast_12 (w : World) : Calls Try.prog 27 #[.int .i64 1, .int .i64 2] w fun e w' => e = .returned (.int .i64 2) ∧ w' = w := by
  go_enter Try.func27, Try.ntmps27
  go_wp2
  go_loopw [5] (fun v wr => ∃ n : Int, v = .int .i64 n ∧ (n = 1 ∨ n = 2) ∧ wr = w) (fun v _ => (5 - intOf v).toNat)
  case atStart => exact ⟨_, rfl, by omega, rfl⟩
  case round =>
    obtain ⟨n, rfl, hn, rfl⟩ := hrel
    rcases hn with rfl | rfl
    · go_wp2
      go_roundw
      case rel => exact ⟨_, rfl, by omega, by first | rfl | trivial⟩
      case measure => simp [intOf]
    · go_wp2
      go_ret
      exact ⟨rfl, rfl⟩
set_option maxHeartbeats 800000 in
theorem refLeast_14 (w : World) : Calls Try.prog 27 #[.int .i64 1, .int .i64 4] w fun e w' => e = .returned (.int .i64 4) ∧ w' = w := by
  go_enter Try.func27, Try.ntmps27
  go_wp2
  go_loopw [5] (fun v wr => ∃ n : Int, v = .int .i64 n ∧ (n = 1 ∨ n = 2 ∨ n = 3 ∨ n = 4) ∧ wr = w) (fun v _ => (5 - intOf v).toNat)
  case atStart => exact ⟨_, rfl, by omega, rfl⟩
  case round =>
    obtain ⟨n, rfl, hn, rfl⟩ := hrel
    rcases hn with rfl | rfl | rfl | rfl
    · go_wp2
      go_roundw
      case rel => exact ⟨_, rfl, by omega, by first | rfl | trivial⟩
      case measure => simp [intOf]
    · go_wp2
      go_roundw
      case rel => exact ⟨_, rfl, by omega, by first | rfl | trivial⟩
      case measure => simp [intOf]
    · go_wp2
      go_roundw
      case rel => exact ⟨_, rfl, by omega, by first | rfl | trivial⟩
      case measure => simp [intOf]
    · go_wp2
      go_ret
      exact ⟨rfl, rfl⟩
set_option maxHeartbeats 800000 in
theorem refLeast_21 (w : World) : Calls Try.prog 27 #[.int .i64 2, .int .i64 1] w fun e w' => e = .returned (.int .i64 2) ∧ w' = w := by
  go_enter Try.func27, Try.ntmps27
  go_wp2
  go_loopw [5] (fun v wr => ∃ n : Int, v = .int .i64 n ∧ (n = 2) ∧ wr = w) (fun v _ => (5 - intOf v).toNat)
  case atStart => exact ⟨_, rfl, by omega, rfl⟩
  case round =>
    obtain ⟨n, rfl, hn, rfl⟩ := hrel
    subst hn
    go_wp2
    go_ret
    exact ⟨rfl, rfl⟩
set_option maxHeartbeats 800000 in
theorem refLeast_22 (w : World) : Calls Try.prog 27 #[.int .i64 2, .int .i64 2] w fun e w' => e = .returned (.int .i64 2) ∧ w' = w := by
  go_enter Try.func27, Try.ntmps27
  go_wp2
  go_loopw [5] (fun v wr => ∃ n : Int, v = .int .i64 n ∧ (n = 2) ∧ wr = w) (fun v _ => (5 - intOf v).toNat)
  case atStart => exact ⟨_, rfl, by omega, rfl⟩
  case round =>
    obtain ⟨n, rfl, hn, rfl⟩ := hrel
    subst hn
    go_wp2
    go_ret
    exact ⟨rfl, rfl⟩
set_option maxHeartbeats 800000 in
theorem refLeast_24 (w : World) : Calls Try.prog 27 #[.int .i64 2, .int .i64 4] w fun e w' => e = .returned (.int .i64 4) ∧ w' = w := by
  go_enter Try.func27, Try.ntmps27
  go_wp2
  go_loopw [5] (fun v wr => ∃ n : Int, v = .int .i64 n ∧ (n = 2 ∨ n = 4) ∧ wr = w) (fun v _ => (5 - intOf v).toNat)
  case atStart => exact ⟨_, rfl, by omega, rfl⟩
  case round =>
    obtain ⟨n, rfl, hn, rfl⟩ := hrel
    rcases hn with rfl | rfl
    · go_wp2
      go_roundw
      case rel => exact ⟨_, rfl, by omega, by first | rfl | trivial⟩
      case measure => simp [intOf]
    · go_wp2
      go_ret
      exact ⟨rfl, rfl⟩
set_option maxHeartbeats 800000 in
theorem refLeast_41 (w : World) : Calls Try.prog 27 #[.int .i64 4, .int .i64 1] w fun e w' => e = .returned (.int .i64 4) ∧ w' = w := by
  go_enter Try.func27, Try.ntmps27
  go_wp2
  go_loopw [5] (fun v wr => ∃ n : Int, v = .int .i64 n ∧ (n = 4) ∧ wr = w) (fun v _ => (5 - intOf v).toNat)
  case atStart => exact ⟨_, rfl, by omega, rfl⟩
  case round =>
    obtain ⟨n, rfl, hn, rfl⟩ := hrel
    subst hn
    go_wp2
    go_ret
    exact ⟨rfl, rfl⟩
set_option maxHeartbeats 800000 in
theorem refLeast_42 (w : World) : Calls Try.prog 27 #[.int .i64 4, .int .i64 2] w fun e w' => e = .returned (.int .i64 4) ∧ w' = w := by
  go_enter Try.func27, Try.ntmps27
  go_wp2
  go_loopw [5] (fun v wr => ∃ n : Int, v = .int .i64 n ∧ (n = 4) ∧ wr = w) (fun v _ => (5 - intOf v).toNat)
  case atStart => exact ⟨_, rfl, by omega, rfl⟩
  case round =>
    obtain ⟨n, rfl, hn, rfl⟩ := hrel
    subst hn
    go_wp2
    go_ret
    exact ⟨rfl, rfl⟩
set_option maxHeartbeats 800000 in
theorem refLeast_44 (w : World) : Calls Try.prog 27 #[.int .i64 4, .int .i64 4] w fun e w' => e = .returned (.int .i64 4) ∧ w' = w := by
  go_enter Try.func27, Try.ntmps27
  go_wp2
  go_loopw [5] (fun v wr => ∃ n : Int, v = .int .i64 n ∧ (n = 4) ∧ wr = w) (fun v _ => (5 - intOf v).toNat)
  case atStart => exact ⟨_, rfl, by omega, rfl⟩
  case round =>
    obtain ⟨n, rfl, hn, rfl⟩ := hrel
    subst hn
    go_wp2
    go_ret
    exact ⟨rfl, rfl⟩
theorem refLeast_any (c c' : Int) (w : World) (hc : c = 1 ∨ c = 2 ∨ c = 4) (hc' : c' = 1 ∨ c' = 2 ∨ c' = 4) :
    Calls Try.prog 27 #[.int .i64 c, .int .i64 c'] w fun e w' => e = .returned (.int .i64 (if c < c' then c' else c)) ∧ w' = w := by
  rcases hc with rfl | rfl | rfl <;> rcases hc' with rfl | rfl | rfl
  · exact refLeast_11 w
  · exact refLeast_12 w
  · exact refLeast_14 w
  · exact refLeast_21 w
  · exact refLeast_22 w
  · exact refLeast_24 w
  · exact refLeast_41 w
  · exact refLeast_42 w
  · exact refLeast_44 w
theorem refCan_gc (l d c l' d' c' : Int) (w : World) (hl : (-9223372036854775808 ≤ l ∧ l ≤ 9223372036854775807)) (hd : (-9223372036854775808 ≤ d ∧ d ≤ 9223372036854775807)) (hc : (-9223372036854775808 ≤ c ∧ c ≤ 9223372036854775807)) (hl' : (-9223372036854775808 ≤ l' ∧ l' ≤ 9223372036854775807)) (hd' : (-9223372036854775808 ≤ d' ∧ d' ≤ 9223372036854775807)) (hc' : (-9223372036854775808 ≤ c' ∧ c' ≤ 9223372036854775807)) :
    Calls Try.prog 26 #[.agg #[.int .i64 l, .int .i64 d, .int .i64 c], .agg #[.int .i64 l', .int .i64 d', .int .i64 c']] w fun e w' => e = .returned (.bool (gCan l d c l' d' c')) ∧ Below w.heap.size w w' := refCan_any l d c l' d' c' w hl hd hc hl' hd' hc'
set_option maxHeartbeats 800000 in
theorem refRows_any (l d c l' d' c' : Int) (w : World) (hl : (-9223372036854775808 ≤ l ∧ l ≤ 9223372036854775807)) (hd : (-9223372036854775808 ≤ d ∧ d ≤ 9223372036854775807)) (hc : (-9223372036854775808 ≤ c ∧ c ≤ 9223372036854775807)) (hl' : (-9223372036854775808 ≤ l' ∧ l' ≤ 9223372036854775807)) (hd' : (-9223372036854775808 ≤ d' ∧ d' ≤ 9223372036854775807)) (hc' : (-9223372036854775808 ≤ c' ∧ c' ≤ 9223372036854775807)) :
    Calls Try.prog 15 #[.agg #[.int .i64 l, .int .i64 d, .int .i64 c], .agg #[.int .i64 l', .int .i64 d', .int .i64 c']] w fun e w' => e = .returned (.int .i64 (pnR l d c l' d' c')) ∧ Below w.heap.size w w' := by
  have S0 := gs2_start w l d c l' d' c' 23 23 (0, 0) (0, 0)
  have HC : Hid (∀ W, Calls Try.prog 26 #[.agg #[.int .i64 l, .int .i64 d, .int .i64 c], .agg #[.int .i64 l', .int .i64 d', .int .i64 c']] W fun e w' => e = .returned (.bool (gCan l d c l' d' c')) ∧ Below W.heap.size W w') := Lib.hid fun W => refCan_gc l d c l' d' c' W hl hd hc hl' hd' hc'
  cases hC : gCan l d c l' d' c'
  · have H := Lib.hid (pnR_no hC)
    rw [hC] at HC
    clear hC
    go_enter Try.func15, Try.ntmps15
    go_wp2_with fail
    (with_reducible refine (HC.out _).mono ?_); rintro e w1 ⟨rfl, hb⟩
    have S1 := S0.later hb
    clear hb S0
    go_wp2_with fail
    go_ret
    exact ⟨by rw [H.out]; rfl, S1.2.2.2.2.2.2⟩
  · have H := Lib.hid (pnR_yes hC)
    have k1 := (gOk_yes (gCan_parts hC).1).2.2
    have k2 := (gOk_yes (gCan_parts hC).2.1).2.2
    have HL := Lib.hid (fun W => refLeast_any c c' W k1 k2)
    rw [← H.out] at HL
    rw [hC] at HC
    clear hC H k1 k2
    generalize pnR l d c l' d' c' = R at HL ⊢
    go_enter Try.func15, Try.ntmps15
    go_wp2_with fail
    (with_reducible refine (HC.out _).mono ?_); rintro e w1 ⟨rfl, hb⟩
    have S1 := S0.later hb
    clear hb S0
    obtain ⟨g1, g2, g3, g4, g5, g6, F⟩ := S1
    go_wp2_with fail
    (with_reducible refine (HL.out _).mono ?_); rintro e w2 ⟨rfl, rfl⟩
    go_wp2_with fail
    go_ret
    exact ⟨rfl, F⟩
set_option maxHeartbeats 800000 in
theorem refWindows_any (l d c l' d' c' : Int) (w : World) (hl : (-9223372036854775808 ≤ l ∧ l ≤ 9223372036854775807)) (hd : (-9223372036854775808 ≤ d ∧ d ≤ 9223372036854775807)) (hc : (-9223372036854775808 ≤ c ∧ c ≤ 9223372036854775807)) (hl' : (-9223372036854775808 ≤ l' ∧ l' ≤ 9223372036854775807)) (hd' : (-9223372036854775808 ≤ d' ∧ d' ≤ 9223372036854775807)) (hc' : (-9223372036854775808 ≤ c' ∧ c' ≤ 9223372036854775807)) :
    Calls Try.prog 16 #[.agg #[.int .i64 l, .int .i64 d, .int .i64 c], .agg #[.int .i64 l', .int .i64 d', .int .i64 c']] w fun e w' => e = .returned (.int .i64 (pnW l d c l' d' c')) ∧ Below w.heap.size w w' := by
  have S0 := gs2_start w l d c l' d' c' 23 23 (0, 0) (0, 0)
  have HC : Hid (∀ W, Calls Try.prog 26 #[.agg #[.int .i64 l, .int .i64 d, .int .i64 c], .agg #[.int .i64 l', .int .i64 d', .int .i64 c']] W fun e w' => e = .returned (.bool (gCan l d c l' d' c')) ∧ Below W.heap.size W w') := Lib.hid fun W => refCan_gc l d c l' d' c' W hl hd hc hl' hd' hc'
  have HR : Hid (∀ W, Calls Try.prog 15 #[.agg #[.int .i64 l, .int .i64 d, .int .i64 c], .agg #[.int .i64 l', .int .i64 d', .int .i64 c']] W fun e w' => e = .returned (.int .i64 (pnR l d c l' d' c')) ∧ Below W.heap.size W w') := Lib.hid fun W => refRows_any l d c l' d' c' W hl hd hc hl' hd' hc'
  cases hC : gCan l d c l' d' c'
  · have H := Lib.hid (pnW_no hC)
    rw [hC] at HC
    clear hC
    go_enter Try.func16, Try.ntmps16
    go_wp2_with fail
    (with_reducible refine (HC.out _).mono ?_); rintro e w1 ⟨rfl, hb⟩
    have S1 := S0.later hb
    clear hb S0
    go_wp2_with fail
    go_ret
    exact ⟨by rw [H.out]; rfl, S1.2.2.2.2.2.2⟩
  · obtain ⟨R, K, wd, wd', P⟩ := pn_of hC
    have H := Lib.hid P.eK
    rw [P.eR] at HR
    rw [hC] at HC
    rcases P.rk with ⟨rfl, rfl⟩ | ⟨rfl, rfl⟩ | ⟨rfl, rfl⟩
    all_goals
      clear hC P
      go_enter Try.func16, Try.ntmps16
      go_wp2_with fail
      (with_reducible refine (HC.out _).mono ?_); rintro e w1 ⟨rfl, hb⟩
      have S1 := S0.later hb
      clear hb S0
      obtain ⟨g1, g2, g3, g4, g5, g6, F⟩ := S1
      go_wp2_with fail
      (with_reducible refine (HR.out _).mono ?_); rintro e w2 ⟨rfl, hb⟩
      have S2 := GS2.later ⟨g1, g2, g3, g4, g5, g6, F⟩ hb
      clear hb g1 g2 g3 g4 g5 g6 F
      go_wp2_with fail
      go_ret
      exact ⟨by rw [H.out]; rfl, S2.2.2.2.2.2.2⟩
theorem wakesPlan_any (w : World) : Calls Try.prog 12 #[] w fun e w' => e = .returned (.bool true) ∧ Below w.heap.size w w' := by
  have HC := Lib.hid (fun W => planWindows_any 5 3 1 5 4 1 W (by omega) (by omega) (by omega) (by omega) (by omega) (by omega))
  rw [show pnW 5 3 1 5 4 1 = 16 by decide] at HC
  go_enter Try.func12, Try.ntmps12
  go_wp2_with fail
  (with_reducible refine (HC.out _).mono ?_); rintro e w1 ⟨rfl, hb⟩
  go_wp2_with fail
  go_ret
  exact ⟨rfl, hb⟩
end Go.Proofs.Ytabeadbnoifedaa
