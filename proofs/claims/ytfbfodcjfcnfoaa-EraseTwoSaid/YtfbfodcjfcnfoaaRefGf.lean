/- The document's own product. -/
import Derived.Test.YtfbfodcjfcnfoaaGfAid
namespace Go.Proofs.Ytfbfodcjfcnfoaa
open Go.RowKit

theorem mulF_more (k b : Nat) (h : k < 8) (s x : Nat) : mulF (8 - k) s x (b / 2 ^ k) = mulF (8 - (k + 1)) (if b / 2 ^ k % 2 = 1 then s ^^^ x else s) (dbl x) (b / 2 ^ (k + 1)) := by
  rw [show 8 - k = (8 - (k + 1)) + 1 from by omega, mulF_step, Nat.div_div_eq_div_mul, ← Nat.pow_succ]
theorem bit_any (b k : Nat) (hb : b < 256) : bits .and .u8 ((b : Int) / 2 ^ k) 1 = ((b / 2 ^ k % 2 : Nat) : Int) := by
  have hlt : b / 2 ^ k < 256 := Nat.lt_of_le_of_lt (Nat.div_le_self _ _) hb
  have := u8_and_nat (b / 2 ^ k) 1 hlt (by decide)
  rw [nat_mask1] at this
  rw [← this]
  simp
theorem refMul_any (a b : Nat) (ha : a < 256) (hb : b < 256) (w : World) : Calls Try.prog 24 #[.int .u8 (a : Int), .int .u8 (b : Int)] w fun e w' => e = .returned (.int .u8 ((gmul a b : Nat) : Int)) ∧ w' = w := by
  go_enter Try.func24, Try.ntmps24
  go_wp2
  go_loop [5, 6, 7] (fun vx vs vk => ∃ k s x : Nat, k ≤ 8 ∧ s < 256 ∧ x < 256 ∧ vx = .int .i64 (x : Int) ∧ vs = .int .i64 (s : Int) ∧ vk = .int .i64 (k : Int) ∧ Hid (mulF (8 - k) s x (b / 2 ^ k) = gmul a b)) (fun _ _ vk => 8 - (intOf vk).toNat)
  case atStart => exact ⟨0, 0, a, by omega, by decide, ha, rfl, rfl, rfl, (by rw [Nat.pow_zero, Nat.div_one]; rfl : mulF (8 - 0) 0 a (b / 2 ^ 0) = gmul a b)⟩
  case round =>
    obtain ⟨k, s, x, hk, hs, hx, rfl, rfl, rfl, Hm⟩ := hrel
    by_cases h8 : k < 8
    · have hdx := dbl_lt x hx
      have hxl := xor_lt8 hs hx
      have ex := i64_xor_small s x (by omega) (by omega)
      have e0 := bit_any b k hb
      have Hk := Lib.hid ((mulF_more k b h8 s x).symm.trans Hm.out)
      clear Hm
      by_cases hbit : b / 2 ^ k % 2 = 1
      · rw [hbit, show ((1 : Nat) : Int) = 1 from rfl] at e0
        have Hr : Hid (mulF (8 - (k + 1)) (s ^^^ x) (dbl x) (b / 2 ^ (k + 1)) = gmul a b) := by have := Hk.out; rw [if_pos hbit] at this; exact this
        clear Hk hbit
        by_cases h : x < 128
        · have Hd : Hid (dbl x = 2 * x) := if_pos h
          go_wp2
          go_round
          case rel => exact ⟨k + 1, (s ^^^ x), dbl x, by omega, by assumption, hdx, by rw [Hd.out]; go_num, rfl, by go_num, Hr⟩
          case measure => simp [intOf]; omega
        · have e1 := i64_xor_small (2 * x) 285 (by omega) (by omega)
          have e2 : ((2 * x : Nat) : Int) = (x : Int) * 2 := by omega
          rw [e2, xor285 x hx h, show ((285 : Nat) : Int) = 285 from rfl] at e1
          clear e2
          go_wp2
          go_round
          case rel => exact ⟨k + 1, (s ^^^ x), dbl x, by omega, by assumption, hdx, rfl, rfl, by go_num, Hr⟩
          case measure => simp [intOf]; omega
      · rw [show b / 2 ^ k % 2 = 0 from by omega, show ((0 : Nat) : Int) = 0 from rfl] at e0
        have Hr : Hid (mulF (8 - (k + 1)) s (dbl x) (b / 2 ^ (k + 1)) = gmul a b) := by have := Hk.out; rw [if_neg hbit] at this; exact this
        clear Hk hbit
        by_cases h : x < 128
        · have Hd : Hid (dbl x = 2 * x) := if_pos h
          go_wp2
          go_round
          case rel => exact ⟨k + 1, s, dbl x, by omega, by assumption, hdx, by rw [Hd.out]; go_num, rfl, by go_num, Hr⟩
          case measure => simp [intOf]; omega
        · have e1 := i64_xor_small (2 * x) 285 (by omega) (by omega)
          have e2 : ((2 * x : Nat) : Int) = (x : Int) * 2 := by omega
          rw [e2, xor285 x hx h, show ((285 : Nat) : Int) = 285 from rfl] at e1
          clear e2
          go_wp2
          go_round
          case rel => exact ⟨k + 1, s, dbl x, by omega, by assumption, hdx, rfl, rfl, by go_num, Hr⟩
          case measure => simp [intOf]; omega
    · obtain rfl : k = 8 := by omega
      have Hr : Hid (s = gmul a b) := Hm.out
      clear Hm
      go_wp2
      go_ret
      exact ⟨ret_int (congrArg Nat.cast Hr.out), rfl⟩
end Go.Proofs.Ytfbfodcjfcnfoaa
