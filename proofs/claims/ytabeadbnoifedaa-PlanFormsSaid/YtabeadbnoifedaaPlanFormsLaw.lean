/- PlanForms walked. -/
import Derived.Test.YtabeadbnoifedaaPlanFormsLoops
set_option linter.unusedVariables false
set_option linter.unusedSimpArgs false
namespace Go.Proofs.Ytabeadbnoifedaa
open Go.RowKit

theorem and1023 (n : Int) : 0 ≤ bits .and .i64 n 1023 ∧ bits .and .i64 n 1023 ≤ 1023 := by
  unfold bits
  dsimp only
  rw [show IntKind.i64.bits = 64 from rfl]
  have h : ((BitVec.ofInt 64 n) &&& (BitVec.ofInt 64 1023)).toNat ≤ 1023 := by
    rw [BitVec.toNat_and]
    exact Nat.le_trans Nat.and_le_right (by decide)
  rw [IntKind.wrap_i64]
  omega
set_option maxRecDepth 100000 in
set_option maxHeartbeats 3200000 in
theorem planforms (n : Int) (w : World) (hn : (-9223372036854775808 ≤ n ∧ n ≤ 9223372036854775807)) :
    Calls Try.prog 3 #[.int .i64 n] w fun e w' => e = .returned (.bool true) ∧ Below w.heap.size w w' := by
  have A1 := Lib.hid (fun V => planRows_any 5 3 1 6 5 4 V (by omega) (by omega) (by omega) (by omega) (by omega) (by omega))
  rw [show pnR 5 3 1 6 5 4 = 4 by decide] at A1
  have A2 := Lib.hid (fun V => planWindows_any 5 3 1 6 5 4 V (by omega) (by omega) (by omega) (by omega) (by omega) (by omega))
  rw [show pnW 5 3 1 6 5 4 = 4 by decide] at A2
  have A3 := Lib.hid (fun V => planRows_any 5 3 1 5 3 2 V (by omega) (by omega) (by omega) (by omega) (by omega) (by omega))
  rw [show pnR 5 3 1 5 3 2 = 2 by decide] at A3
  have A4 := Lib.hid (fun V => planWindows_any 5 3 2 6 5 4 V (by omega) (by omega) (by omega) (by omega) (by omega) (by omega))
  rw [show pnW 5 3 2 6 5 4 = 4 by decide] at A4
  have A5 := Lib.hid (fun V => planRows_any 5 3 1 5 3 1 V (by omega) (by omega) (by omega) (by omega) (by omega) (by omega))
  rw [show pnR 5 3 1 5 3 1 = 0 by decide] at A5
  have A6 := Lib.hid (fun V => planWindows_any 6 5 4 5 3 1 V (by omega) (by omega) (by omega) (by omega) (by omega) (by omega))
  rw [show pnW 6 5 4 5 3 1 = 0 by decide] at A6
  have C1 := Lib.hid (fun V => planSpan_any 5 3 1 6 5 4 (4) V (by omega) (by omega) (by omega) (by omega) (by omega) (by omega) (by omega))
  rw [show pnF 5 3 1 6 5 4 (4) = 0 by decide] at C1
  rw [show pnT 5 3 1 6 5 4 (4) = 0 by decide] at C1
  have C3 := Lib.hid (fun V => planCursor_any 5 3 1 6 5 4 (-1) V (by omega) (by omega) (by omega) (by omega) (by omega) (by omega) (by omega))
  rw [show pnC 5 3 1 6 5 4 (-1) = 0 by decide] at C3
  have C4 := Lib.hid (fun V => planCursor_any 6 5 4 5 3 1 (1) V (by omega) (by omega) (by omega) (by omega) (by omega) (by omega) (by omega))
  rw [show pnC 6 5 4 5 3 1 (1) = 0 by decide] at C4
  have hz := and1023 n
  have C2 := Lib.hid (fun V => planSpan_any 5 3 1 6 5 4 (-1 - bits .and .i64 n 1023) V (by omega) (by omega) (by omega) (by omega) (by omega) (by omega) (by omega))
  rw [show pnF 5 3 1 6 5 4 (-1 - bits .and .i64 n 1023) = 0 from if_neg (by unfold pnSok; rw [decide_eq_true_iff]; omega), show pnT 5 3 1 6 5 4 (-1 - bits .and .i64 n 1023) = 0 from if_neg (by unfold pnSok; rw [decide_eq_true_iff]; omega)] at C2
  have Hwk := Lib.hid (fun V => wakesPlan_any V)
  go_enter Try.func3, Try.ntmps3
  have S0 := gs3_start (Below.refl w.heap.size w) 5 3 1 6 5 4 5 3 2 23
  obtain ⟨q1, q2, q3, q4, q5, q6, q7, q8, q9, F⟩ := S0
  go_wp2_with fail
  (with_reducible refine (A1.out _).mono ?_); rintro e wk1 ⟨rfl, hb⟩
  have SK1 := GS3.later (w0 := w) (B := w.heap.size) ⟨q1, q2, q3, q4, q5, q6, q7, q8, q9, F⟩ hb
  clear hb q1 q2 q3 q4 q5 q6 q7 q8 q9 F
  obtain ⟨q1, q2, q3, q4, q5, q6, q7, q8, q9, F⟩ := SK1
  go_wp2_with fail
  (with_reducible refine (A2.out _).mono ?_); rintro e wk2 ⟨rfl, hb⟩
  have SK2 := GS3.later (w0 := w) (B := w.heap.size) ⟨q1, q2, q3, q4, q5, q6, q7, q8, q9, F⟩ hb
  clear hb q1 q2 q3 q4 q5 q6 q7 q8 q9 F
  obtain ⟨q1, q2, q3, q4, q5, q6, q7, q8, q9, F⟩ := SK2
  go_wp2_with fail
  (with_reducible refine (A3.out _).mono ?_); rintro e wk3 ⟨rfl, hb⟩
  have SK3 := GS3.later (w0 := w) (B := w.heap.size) ⟨q1, q2, q3, q4, q5, q6, q7, q8, q9, F⟩ hb
  clear hb q1 q2 q3 q4 q5 q6 q7 q8 q9 F
  obtain ⟨q1, q2, q3, q4, q5, q6, q7, q8, q9, F⟩ := SK3
  go_wp2_with fail
  (with_reducible refine (A4.out _).mono ?_); rintro e wk4 ⟨rfl, hb⟩
  have SK4 := GS3.later (w0 := w) (B := w.heap.size) ⟨q1, q2, q3, q4, q5, q6, q7, q8, q9, F⟩ hb
  clear hb q1 q2 q3 q4 q5 q6 q7 q8 q9 F
  obtain ⟨q1, q2, q3, q4, q5, q6, q7, q8, q9, F⟩ := SK4
  go_wp2_with fail
  (with_reducible refine (A5.out _).mono ?_); rintro e wk5 ⟨rfl, hb⟩
  have SK5 := GS3.later (w0 := w) (B := w.heap.size) ⟨q1, q2, q3, q4, q5, q6, q7, q8, q9, F⟩ hb
  clear hb q1 q2 q3 q4 q5 q6 q7 q8 q9 F
  obtain ⟨q1, q2, q3, q4, q5, q6, q7, q8, q9, F⟩ := SK5
  go_wp2_with fail
  (with_reducible refine (A6.out _).mono ?_); rintro e wk6 ⟨rfl, hb⟩
  have SK6 := GS3.later (w0 := w) (B := w.heap.size) ⟨q1, q2, q3, q4, q5, q6, q7, q8, q9, F⟩ hb
  clear hb q1 q2 q3 q4 q5 q6 q7 q8 q9 F
  obtain ⟨q1, q2, q3, q4, q5, q6, q7, q8, q9, F⟩ := SK6
  rename World => wa
  have SA := GS3.later (w0 := w) (B := w.heap.size) ⟨q1, q2, q3, q4, q5, q6, q7, q8, q9, F⟩ (below1 wa (.cells rowF 25))
  have TA := heap_alloc_new wa (.cells rowF 25)
  clear q1 q2 q3 q4 q5 q6 q7 q8 q9 F
  go_upto_block 0 with fail
  refine wp_block ?_
  refine pfA _ _ _ _ _ _ _ _ _ _ _ _ _ _ _ _ _ _ _ _ _ _ _ _ _ _ _ _ _ _ _ _ _ _ _ _ _ _ _ _ _ _ _ _ _ _ _ _ _ _ _ _ _ _ _ _ _ _ _ _ _ _ _ _ _ _ _ _ _ _ _ _ _ _ _ _ _ _ _ _ _ _ _ _ _ _ _ _ _ _ _ _ _ _ _ _ _ _ _ _ _ _ _ _ _ _ _ _ _ _ _ _ _ _ _ _ _ _ _ _ _ _ _ _ _ _ _ _ _ _ _ _ _ ⟨Nat.zero_le _, SA, TA⟩ (fun v6 v7 v8 v9 v60 v61 v62 v63 v64 v65 v66 v67 v68 v69 v70 v71 v72 v73 v74 v75 v76 v77 v78 v79 v80 v81 k V2 hI hx => ?_)
  obtain ⟨_, hS, _⟩ := hI
  clear SA TA
  have SA := GS3.later (w0 := w) (B := w.heap.size) hS (below1 V2 (.cells rowG 3))
  have TA := heap_alloc_new V2 (.cells rowG 3)
  go_upto_block 2 with fail
  refine wp_block ?_
  refine pfB _ _ _ _ _ _ _ _ _ _ _ _ _ _ _ _ _ _ _ _ _ _ _ _ _ _ _ _ _ _ _ _ _ _ _ _ _ _ _ _ _ _ _ _ _ _ _ _ _ _ _ _ _ _ _ _ _ _ _ _ _ _ _ _ _ _ _ _ _ _ _ _ _ _ _ _ _ _ _ _ _ _ _ _ _ _ _ _ _ _ _ _ _ _ _ _ _ _ _ _ _ _ _ _ _ _ _ _ _ _ _ _ _ _ _ _ _ _ _ _ _ _ _ _ _ _ _ _ _ _ _ _ _ ⟨Nat.zero_le _, SA, TA⟩ (fun v10 v11 v85 v86 v87 v88 v89 v90 v91 v92 v93 v94 v95 k2 V3 hI2 hx2 => ?_)
  obtain ⟨_, hS2, _⟩ := hI2
  clear SA TA hS
  obtain ⟨q1, q2, q3, q4, q5, q6, q7, q8, q9, F⟩ := hS2
  go_wp2_with fail
  (with_reducible refine (C1.out _).mono ?_); rintro e wk7 ⟨rfl, hb⟩
  have SK7 := GS3.later (w0 := w) (B := w.heap.size) ⟨q1, q2, q3, q4, q5, q6, q7, q8, q9, F⟩ hb
  clear hb q1 q2 q3 q4 q5 q6 q7 q8 q9 F
  obtain ⟨q1, q2, q3, q4, q5, q6, q7, q8, q9, F⟩ := SK7
  go_wp2_with fail
  (with_reducible refine (C2.out _).mono ?_); rintro e wk8 ⟨rfl, hb⟩
  have SK8 := GS3.later (w0 := w) (B := w.heap.size) ⟨q1, q2, q3, q4, q5, q6, q7, q8, q9, F⟩ hb
  clear hb q1 q2 q3 q4 q5 q6 q7 q8 q9 F
  obtain ⟨q1, q2, q3, q4, q5, q6, q7, q8, q9, F⟩ := SK8
  go_wp2_with fail
  (with_reducible refine (C3.out _).mono ?_); rintro e wk9 ⟨rfl, hb⟩
  have SK9 := GS3.later (w0 := w) (B := w.heap.size) ⟨q1, q2, q3, q4, q5, q6, q7, q8, q9, F⟩ hb
  clear hb q1 q2 q3 q4 q5 q6 q7 q8 q9 F
  obtain ⟨q1, q2, q3, q4, q5, q6, q7, q8, q9, F⟩ := SK9
  go_wp2_with fail
  (with_reducible refine (C4.out _).mono ?_); rintro e wk10 ⟨rfl, hb⟩
  have SK10 := GS3.later (w0 := w) (B := w.heap.size) ⟨q1, q2, q3, q4, q5, q6, q7, q8, q9, F⟩ hb
  clear hb q1 q2 q3 q4 q5 q6 q7 q8 q9 F
  obtain ⟨q1, q2, q3, q4, q5, q6, q7, q8, q9, F⟩ := SK10
  go_wp2_with fail
  (with_reducible refine (Hwk.out _).mono ?_); rintro e wk11 ⟨rfl, hb⟩
  have SK11 := GS3.later (w0 := w) (B := w.heap.size) ⟨q1, q2, q3, q4, q5, q6, q7, q8, q9, F⟩ hb
  clear hb q1 q2 q3 q4 q5 q6 q7 q8 q9 F
  obtain ⟨q1, q2, q3, q4, q5, q6, q7, q8, q9, F⟩ := SK11
  go_wp2_with fail
  go_ret
  exact ⟨rfl, F⟩
end Go.Proofs.Ytabeadbnoifedaa
