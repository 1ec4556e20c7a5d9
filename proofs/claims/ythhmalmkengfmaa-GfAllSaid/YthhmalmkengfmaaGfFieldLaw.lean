/- GfField walked. -/
import Derived.Test.YthhmalmkengfmaaRefPow
namespace Go.Proofs.Ythhmalmkengfmaa
open Go.RowKit

theorem bne_no {a b : Nat} (h : a = b) : ((a : Int) != (b : Int)) = false := by simp [h]
theorem beq_yes {a b : Nat} (h : a = b) : ((a : Int) == (b : Int)) = true := by simp [h]
theorem glog_bd {b : Nat} (hb : b < 256) : -1 ≤ glog b ∧ glog b < 255 := by
  have := gL_lt b hb
  unfold glog; split <;> omega
theorem mul_one_any (a : Nat) (ha : a < 256) (w : World) : Calls Try.prog 8 #[.int .u8 (a : Int), .int .u8 1] w fun e w' => e = .returned (.int .u8 ((gmul a 1 : Nat) : Int)) ∧ w' = w := mul_any a 1 ha (by decide) w
theorem mul_zero_any (a : Nat) (ha : a < 256) (w : World) : Calls Try.prog 8 #[.int .u8 (a : Int), .int .u8 0] w fun e w' => e = .returned (.int .u8 ((gmul a 0 : Nat) : Int)) ∧ w' = w := mul_any a 0 ha (by decide) w
theorem div_zero_any (a : Nat) (ha : a < 256) (w : World) : Calls Try.prog 9 #[.int .u8 (a : Int), .int .u8 0] w fun e w' => e = .returned (.int .u8 ((gdiv a 0 : Nat) : Int)) ∧ w' = w := div_any a 0 ha (by decide) w
theorem log_zero_any (w : World) : Calls Try.prog 12 #[.int .u8 0] w fun e w' => e = .returned (.int .i64 (-1)) ∧ w' = w := log_any 0 (by decide) w
set_option maxRecDepth 100000 in
set_option maxHeartbeats 1000000 in
theorem gffield (a b c : Nat) (m n : Int) (w : World) (ha : a < 256) (hb : b < 256) (hc : c < 256) (_ : -9223372036854775808 ≤ m ∧ m ≤ 9223372036854775807) (_ : -9223372036854775808 ≤ n ∧ n ≤ 9223372036854775807) :
    Calls Try.prog 6 #[.int .u8 (a : Int), .int .u8 (b : Int), .int .u8 (c : Int), .int .i64 m, .int .i64 n] w fun e w' => e = .returned (.bool true) ∧ Below w.heap.size w w' := by
  have m1 : -100000 < m.tmod 100000 := Int.lt_tmod_of_pos _ (by omega)
  have m2 : m.tmod 100000 < 100000 := Int.tmod_lt_of_pos _ (by omega)
  have n1 : -100000 < n.tmod 100000 := Int.lt_tmod_of_pos _ (by omega)
  have n2 : n.tmod 100000 < 100000 := Int.tmod_lt_of_pos _ (by omega)
  have hx := xor_lt8 hb hc
  have ex := u8_xor_nat b c hb hc
  have l1 : gmul a b < 256 := gmul_lt ha
  have l2 : gmul b c < 256 := gmul_lt hb
  have l3 : gmul a c < 256 := gmul_lt ha
  have ey := u8_xor_nat _ _ l1 l3
  rw [← gmul_xor_right ha hb hc] at ey
  have f1 := bne_no (gmul_comm ha hb)
  have f2 := bne_no (gmul_assoc ha hb hc)
  have f4 := bne_no (gmul_one_right ha)
  have f5 : (((gmul a 0 : Nat) : Int) != 0) = false := by rw [gmul_zero_right]; rfl
  have f6 : (((gdiv a 0 : Nat) : Int) != 0) = false := by unfold gdiv; rw [show ginv 0 = 0 from rfl, gmul_zero_right]; rfl
  have lm := gpow_lt (m.tmod 100000)
  have ln := gpow_lt (n.tmod 100000)
  have lk := gpow_lt (-m.tmod 100000)
  have g1 := beq_yes (gpow_add (m.tmod 100000) (n.tmod 100000))
  have g2 : (((gpow 0 : Nat) : Int) == 1) = true := by decide +kernel
  have g3 : (((gpow 255 : Nat) : Int) == 1) = true := by decide +kernel
  have g4 : (((gmul (gpow (m.tmod 100000)) (gpow (-m.tmod 100000)) : Nat) : Int) == 1) = true := by rw [gpow_add, Int.add_right_neg]; exact g2
  have lb := glog_bd hb
  have b1 := lb.1
  have b2 := lb.2
  clear lb
  by_cases h0 : b = 0
  · have e0 : ((b : Int) != 0) = false := by simp; omega
    clear h0
    go_enter Try.func6, Try.ntmps6
    go_wp2_with (first
      | (go_at_call 8; (with_reducible refine (mul_one_any a ha _).mono ?_); rintro e w' ⟨rfl, rfl⟩)
      | (go_at_call 8; (with_reducible refine (mul_zero_any a ha _).mono ?_); rintro e w' ⟨rfl, rfl⟩)
      | (go_at_call 8; (with_reducible refine (mul_any _ _ (by assumption) (by assumption) _).mono ?_); rintro e w' ⟨rfl, rfl⟩)
      | (go_at_call 9; (with_reducible refine (div_zero_any a ha _).mono ?_); rintro e w' ⟨rfl, rfl⟩)
      | (go_at_call 12; (with_reducible refine (log_zero_any _).mono ?_); rintro e w' ⟨rfl, rfl⟩)
      | (go_at_call 10; (with_reducible refine (pow_any _ (by omega) _).mono ?_); rintro e w' ⟨rfl, rfl⟩)
      | (go_at_call 13; (with_reducible refine (wakesGf_any _).mono ?_); rintro e w' ⟨rfl, rfl⟩))
    go_ret
    exact ⟨rfl, Below.refl _ _⟩
  · have e0 : ((b : Int) != 0) = true := by simp; omega
    have d1 := gdiv_lt b ha
    have d2 := ginv_lt b
    have h1 := bne_no (gdiv_mul ha hb h0)
    have h2 : (((gmul b (ginv b) : Nat) : Int) != 1) = false := by rw [gmul_inv hb h0]; rfl
    have h3 := bne_no (gpow_log hb h0)
    clear h0
    go_enter Try.func6, Try.ntmps6
    go_wp2_with (first
      | (go_at_call 8; (with_reducible refine (mul_one_any a ha _).mono ?_); rintro e w' ⟨rfl, rfl⟩)
      | (go_at_call 8; (with_reducible refine (mul_zero_any a ha _).mono ?_); rintro e w' ⟨rfl, rfl⟩)
      | (go_at_call 8; (with_reducible refine (mul_any _ _ (by assumption) (by assumption) _).mono ?_); rintro e w' ⟨rfl, rfl⟩)
      | (go_at_call 9; (with_reducible refine (div_zero_any a ha _).mono ?_); rintro e w' ⟨rfl, rfl⟩)
      | (go_at_call 9; (with_reducible refine (div_any a b ha hb _).mono ?_); rintro e w' ⟨rfl, rfl⟩)
      | (go_at_call 11; (with_reducible refine (inv_any b hb _).mono ?_); rintro e w' ⟨rfl, rfl⟩)
      | (go_at_call 12; (with_reducible refine (log_any b hb _).mono ?_); rintro e w' ⟨rfl, rfl⟩)
      | (go_at_call 12; (with_reducible refine (log_zero_any _).mono ?_); rintro e w' ⟨rfl, rfl⟩)
      | (go_at_call 10; (with_reducible refine (pow_any _ (by omega) _).mono ?_); rintro e w' ⟨rfl, rfl⟩)
      | (go_at_call 13; (with_reducible refine (wakesGf_any _).mono ?_); rintro e w' ⟨rfl, rfl⟩))
    go_ret
    exact ⟨rfl, Below.refl _ _⟩
end Go.Proofs.Ythhmalmkengfmaa
