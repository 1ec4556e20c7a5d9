/- GfTells, GfField, GfSquares walked. -/
import Derived.Test.YthhmalmkengfmaaRefPow
namespace Go.Proofs.Ythhmalmkengfmaa
open Go.RowKit

theorem beq_rfl (z : Int) : (z == z) = true := by simp
theorem gftells (a b : Nat) (n : Int) (w : World) (ha : a < 256) (hb : b < 256) (hn : -9223372036854775808 ≤ n ∧ n ≤ 9223372036854775807) :
    Calls Try.prog 5 #[.int .u8 (a : Int), .int .u8 (b : Int), .int .i64 n] w fun e w' => e = .returned (.bool true) ∧ Below w.heap.size w w' := by
  have hi := ginv_lt b
  have Hd : gdiv a b = gmul a (ginv b) := rfl
  go_enter Try.func5, Try.ntmps5
  go_wp2_with (first
    | (go_at_call 8; refine (mul_any a b ha hb _).mono ?_; rintro e w' ⟨rfl, rfl⟩)
    | (go_at_call_of 14 (Value.int IntKind.u8 (b : Int)); refine (refMul_any a b ha hb _).mono ?_; rintro e w' ⟨rfl, rfl⟩)
    | (go_at_call 11; refine (inv_any a ha _).mono ?_; rintro e w' ⟨rfl, rfl⟩)
    | (go_at_call 15; refine (refInv_any _ (by assumption) _).mono ?_; rintro e w' ⟨rfl, rfl⟩)
    | (go_at_call 9; refine (div_any a b ha hb _).mono ?_; rintro e w' ⟨rfl, rfl⟩)
    | (go_at_call 14; refine (refMul_any a (ginv b) ha hi _).mono ?_; rintro e w' ⟨rfl, rfl⟩)
    | (go_at_call 10; refine (pow_any n hn _).mono ?_; rintro e w' ⟨rfl, rfl⟩)
    | (go_at_call 16; refine (refPow_any n hn _).mono ?_; rintro e w' ⟨rfl, rfl⟩)
    | (go_at_call 12; refine (log_any a ha _).mono ?_; rintro e w' ⟨rfl, rfl⟩)
    | (go_at_call 17; refine (refLog_any a ha _).mono ?_; rintro e w' ⟨rfl, rfl⟩)
    | (go_at_call 13; refine (wakesGf_any _).mono ?_; rintro e w' ⟨rfl, rfl⟩))
  go_ret
  exact ⟨rfl, Below.refl _ _⟩
theorem gfsquares (a b : Nat) (w : World) (ha : a < 256) (hb : b < 256) :
    Calls Try.prog 7 #[.int .u8 (a : Int), .int .u8 (b : Int)] w fun e w' => e = .returned (.bool true) ∧ Below w.heap.size w w' := by
  have ex := u8_xor_nat a b ha hb
  have hx := xor_lt8 ha hb
  have hm1 : gmul a a < 256 := gmul_lt ha
  have hm2 : gmul b b < 256 := gmul_lt hb
  have ey := u8_xor_nat (gmul a a) (gmul b b) hm1 hm2
  rw [← gmul_square ha hb] at ey
  have H8 := Lib.hid (gsq_eight a ha)
  have Hs : Hid (∀ k, gmul (gsq k a) (gsq k a) = gsq (k + 1) a) := Lib.hid fun _ => rfl
  have Hl := Lib.hid fun k => gsq_lt k ha
  go_enter Try.func7, Try.ntmps7
  go_wp2_with (go_at_call 8; refine (mul_any _ _ (by assumption) (by assumption) _).mono ?_; rintro e w' ⟨rfl, rfl⟩)
  go_loop [6, 7] (fun vx vk => ∃ k x : Nat, k ≤ 8 ∧ x < 256 ∧ vk = .int .i64 (k : Int) ∧ vx = .int .u8 (x : Int) ∧ Hid (x = gsq k a)) (fun _ vk => 8 - (intOf vk).toNat)
  case atStart => exact ⟨0, a, by omega, ha, rfl, rfl, (rfl : a = gsq 0 a)⟩
  case round =>
    obtain ⟨k, x, hk, hx0, rfl, rfl, Hx⟩ := hrel
    by_cases h8 : k < 8
    · have hxx : gmul x x < 256 := gmul_lt hx0
      have Hn : Hid (gmul x x = gsq (k + 1) a) := by rw [Hx.out]; exact Hs.out k
      clear Hx
      go_wp2_with (go_at_call 8; refine (mul_any x x hx0 hx0 _).mono ?_; rintro e w' ⟨rfl, rfl⟩)
      go_round
      case rel => exact ⟨k + 1, gmul x x, by omega, hxx, by go_num, rfl, Hn⟩
      case measure => simp [intOf]; omega
    · obtain rfl : k = 8 := by omega
      obtain rfl : x = a := Hx.out.trans H8.out
      clear Hx Hs Hl H8
      go_wp2_with (go_at_call 13; refine (wakesGf_any _).mono ?_; rintro e w' ⟨rfl, rfl⟩)
      go_ret
      exact ⟨rfl, Below.refl _ _⟩
end Go.Proofs.Ythhmalmkengfmaa
