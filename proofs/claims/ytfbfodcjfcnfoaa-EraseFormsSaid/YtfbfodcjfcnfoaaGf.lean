/- What gf's functions compute. -/
import Derived.Test.YtfbfodcjfcnfoaaProg
import Derived.Test.YtfbfodcjfcnfoaaMem
import Derived.Test.YtfbfodcjfcnfoaaGfMath
import Derived.Laws.BitsAllLaws
import Derived.Deep.DeepFit
namespace Go.Proofs.Ytfbfodcjfcnfoaa
open Go.RowKit

theorem and128 : ∀ a, a < 256 → a &&& 128 = if a < 128 then 0 else 128 := by decide +kernel
theorem ret_int {k : IntKind} {a b : Int} (h : a = b) : Ending.returned (.int k a) = .returned (.int k b) := by rw [h]
theorem double_any (a : Nat) (ha : a < 256) (w : World) : Calls Try.prog 35 #[.int .u8 (a : Int)] w fun e w' => e = .returned (.int .u8 ((dbl a : Nat) : Int)) ∧ w' = w := by
  have e0 := u8_and_nat a 128 ha (by decide)
  rw [show ((128 : Nat) : Int) = 128 from rfl, and128 a ha] at e0
  by_cases h : a < 128
  · rw [if_pos h] at e0
    have Hd : Hid (dbl a = 2 * a) := if_pos h
    go_enter Try.func35, Try.ntmps35
    go_wp2
    go_ret
    exact ⟨ret_int (by rw [Hd.out]; omega), rfl⟩
  · rw [if_neg h] at e0
    have Hd : Hid (dbl a = (2 * a - 256) ^^^ 29) := if_neg h
    have e1 := u8_xor_nat (2 * a - 256) 29 (by omega) (by decide)
    have e2 : ((2 * a - 256 : Nat) : Int) = (a : Int) * 2 % 256 := by omega
    rw [e2, show ((29 : Nat) : Int) = 29 from rfl] at e1
    clear e2
    go_enter Try.func35, Try.ntmps35
    go_wp2
    go_ret
    exact ⟨by rw [Hd.out]; rfl, rfl⟩

theorem mulF_step (f s x y : Nat) : mulF (f + 1) s x y = mulF f (if y % 2 = 1 then s ^^^ x else s) (dbl x) (y / 2) := rfl
set_option maxHeartbeats 400000 in
theorem mul_any (a b : Nat) (ha : a < 256) (hb : b < 256) (w : World) : Calls Try.prog 34 #[.int .u8 (a : Int), .int .u8 (b : Int)] w fun e w' => e = .returned (.int .u8 ((gmul a b : Nat) : Int)) ∧ w' = w := by
  go_enter Try.func34, Try.ntmps34
  go_wp2
  go_loop [0, 1, 5] (fun vx vy vs => ∃ f s x y : Nat, y < 2 ^ f ∧ s < 256 ∧ x < 256 ∧ y < 256 ∧ vx = .int .u8 (x : Int) ∧ vy = .int .u8 (y : Int) ∧ vs = .int .u8 (s : Int) ∧ Hid (mulF f s x y = gmul a b)) (fun _ vy _ => (intOf vy).toNat)
  case atStart => exact ⟨8, 0, a, b, by omega, by decide, ha, hb, rfl, rfl, rfl, rfl⟩
  case round =>
    obtain ⟨f, s, x, y, hyf, hs, hx, hy, rfl, rfl, rfl, Hm⟩ := hrel
    by_cases h0 : y = 0
    · have Hr : Hid (s = gmul a b) := by subst h0; rw [← Hm.out]; exact (mulF_zero_right f s x).symm
      have hne : ((y : Int) != 0) = false := by simp; omega
      clear h0 Hm
      go_wp2
      go_ret
      exact ⟨ret_int (congrArg Nat.cast Hr.out), rfl⟩
    · obtain ⟨g, rfl⟩ : ∃ g, f = g + 1 := ⟨f - 1, by cases f with | zero => simp at hyf; omega | succ n => rfl⟩
      have hyg : y / 2 < 2 ^ g := by rw [Nat.pow_succ] at hyf; omega
      clear hyf
      have Hst : Hid (mulF g (if y % 2 = 1 then s ^^^ x else s) (dbl x) (y / 2) = gmul a b) := Hm.out
      clear Hm
      have hdx := dbl_lt x hx
      have hne : ((y : Int) != 0) = true := by simp; omega
      have e0 := u8_and_nat y 1 hy (by decide)
      rw [nat_mask1] at e0
      have hxl := xor_lt8 hs hx
      have ex := u8_xor_nat s x hs hx
      by_cases hbit : y % 2 = 1
      · rw [hbit] at e0
        rw [show ((1 : Nat) : Int) = 1 from rfl] at e0
        have Hst2 : Hid (mulF g (s ^^^ x) (dbl x) (y / 2) = gmul a b) := by have := Hst.out; rw [if_pos hbit] at this; exact this
        clear Hst hbit
        go_wp2_with (go_at_call 35; refine (double_any x hx _).mono ?_; rintro e w' ⟨rfl, rfl⟩)
        go_round
        case rel => exact ⟨g, s ^^^ x, dbl x, y / 2, hyg, hxl, hdx, by omega, rfl, by go_num, rfl, Hst2⟩
        case measure => simp [intOf]; omega
      · have hbit0 : y % 2 = 0 := by omega
        rw [hbit0] at e0
        rw [show ((1 : Nat) : Int) = 1 from rfl] at e0
        have Hst2 : Hid (mulF g s (dbl x) (y / 2) = gmul a b) := by have := Hst.out; rw [if_neg hbit] at this; exact this
        clear Hst hbit hbit0
        go_wp2_with (go_at_call 35; refine (double_any x hx _).mono ?_; rintro e w' ⟨rfl, rfl⟩)
        go_round
        case rel => exact ⟨g, s, dbl x, y / 2, hyg, hs, hdx, by omega, rfl, by go_num, rfl, Hst2⟩
        case measure => simp [intOf]; omega

theorem i64_and1 : ∀ n : Nat, n < 256 → bits .and .i64 (n : Int) 1 = ((n % 2 : Nat) : Int) := by decide +kernel
theorem power_any (a n : Nat) (ha : a < 256) (hn : n < 256) (w : World) : Calls Try.prog 32 #[.int .u8 (a : Int), .int .i64 (n : Int)] w fun e w' => e = .returned (.int .u8 ((gpw a n : Nat) : Int)) ∧ w' = w := by
  go_enter Try.func32, Try.ntmps32
  go_wp2
  go_loop [0, 1, 5] (fun va vn vx => ∃ b m x : Nat, b < 256 ∧ m < 256 ∧ x < 256 ∧ va = .int .u8 (b : Int) ∧ vn = .int .i64 (m : Int) ∧ vx = .int .u8 (x : Int) ∧ Hid (gmul x (gpw b m) = gpw a n)) (fun _ vn _ => (intOf vn).toNat)
  case atStart => exact ⟨a, n, 1, ha, hn, by decide, rfl, rfl, rfl, gmul_one_left _ (gpw_lt ha n)⟩
  case round =>
    obtain ⟨b, m, x, hb, hm, hx, rfl, rfl, rfl, Hm⟩ := hrel
    have hbb : gmul b b < 256 := gmul_lt hb
    have hxb : gmul x b < 256 := gmul_lt hx
    by_cases h0 : m = 0
    · have Hr : Hid (x = gpw a n) := by subst h0; rw [← Hm.out]; exact (gmul_one_right hx).symm
      have hne : ¬ (0 : Int) < (m : Int) := by omega
      clear h0 Hm
      go_wp2
      go_ret
      exact ⟨ret_int (congrArg Nat.cast Hr.out), rfl⟩
    · have hne : (0 : Int) < (m : Int) := by omega
      have e0 := i64_and1 m hm
      have Hh := Lib.hid (gpw_half hx hb m)
      by_cases hbit : m % 2 = 1
      · rw [hbit, show ((1 : Nat) : Int) = 1 from rfl] at e0
        have Hr : Hid (gmul (gmul x b) (gpw (gmul b b) (m / 2)) = gpw a n) := by have := Hh.out; rw [if_pos hbit] at this; exact this.trans Hm.out
        clear Hh Hm hbit
        go_wp2_with (go_at_call 34; refine (mul_any _ _ (by assumption) (by assumption) _).mono ?_; rintro e w' ⟨rfl, rfl⟩)
        go_round
        case rel => exact ⟨gmul b b, m / 2, gmul x b, hbb, by omega, hxb, rfl, by go_num, rfl, Hr⟩
        case measure => simp [intOf]; omega
      · rw [show m % 2 = 0 from by omega, show ((0 : Nat) : Int) = 0 from rfl] at e0
        have Hr : Hid (gmul x (gpw (gmul b b) (m / 2)) = gpw a n) := by have := Hh.out; rw [if_neg hbit] at this; exact this.trans Hm.out
        clear Hh Hm hbit
        go_wp2_with (go_at_call 34; refine (mul_any _ _ (by assumption) (by assumption) _).mono ?_; rintro e w' ⟨rfl, rfl⟩)
        go_round
        case rel => exact ⟨gmul b b, m / 2, x, hbb, by omega, hx, rfl, by go_num, rfl, Hr⟩
        case measure => simp [intOf]; omega
theorem tmod255 (n : Int) : n % 255 = if n.tmod 255 < 0 then n.tmod 255 + 255 else n.tmod 255 := by
  have h0 := Int.emod_nonneg n (show (255 : Int) ≠ 0 by omega)
  have h1 := Int.emod_lt_of_pos n (show (0 : Int) < 255 by omega)
  rw [Int.tmod_eq_emod]
  split <;> split <;> omega
theorem pow_any (n : Int) (hn : -9223372036854775808 ≤ n ∧ n ≤ 9223372036854775807) (w : World) : Calls Try.prog 26 #[.int .i64 n] w fun e w' => e = .returned (.int .u8 ((gpow n : Nat) : Int)) ∧ w' = w := by
  obtain ⟨hn1, hn2⟩ := hn
  have Ht := tmod255 n
  have h0 := Int.emod_nonneg n (show (255 : Int) ≠ 0 by omega)
  have h1 := Int.emod_lt_of_pos n (show (0 : Int) < 255 by omega)
  have hlo : -255 < n.tmod 255 := Int.lt_tmod_of_pos _ (by omega)
  have hhi : n.tmod 255 < 255 := Int.tmod_lt_of_pos _ (by omega)
  obtain ⟨k, hk⟩ := Int.eq_ofNat_of_zero_le h0
  have H : Hid (gpw 2 k = gpow n) := by unfold gpow; rw [gpw_two_n, hk]; exact congrArg gE rfl
  rw [hk] at h1 Ht
  clear hk h0
  by_cases hneg : n.tmod 255 < 0
  · rw [if_pos hneg] at Ht
    have Ht := Lib.hid Ht.symm
    rename_i h; clear h
    go_enter Try.func26, Try.ntmps26
    go_wp2_with (rw [Ht.out]; go_at_call 32; refine (power_any 2 k (by decide) (by omega) _).mono ?_; rintro e w' ⟨rfl, rfl⟩)
    go_ret
    exact ⟨ret_int (congrArg Nat.cast H.out), rfl⟩
  · rw [if_neg hneg] at Ht
    have Ht := Lib.hid Ht.symm
    go_enter Try.func26, Try.ntmps26
    go_wp2_with (rw [Ht.out]; go_at_call 32; refine (power_any 2 k (by decide) (by omega) _).mono ?_; rintro e w' ⟨rfl, rfl⟩)
    go_ret
    exact ⟨ret_int (congrArg Nat.cast H.out), rfl⟩
end Go.Proofs.Ytfbfodcjfcnfoaa
