/- The document's own answers on powers; the example of the document; Within is not asked here. -/
import Derived.Test.YthhmalmkengfmaaRefGf
namespace Go.Proofs.Ythhmalmkengfmaa
open Go.RowKit

theorem gpw_step {x m : Nat} (hx : x < 256) (h : 0 < m) : gmul (gmul x 2) (gpw 2 (m - 1)) = gmul x (gpw 2 m) := by
  obtain ⟨k, rfl⟩ : ∃ k, m = k + 1 := ⟨m - 1, by omega⟩
  rw [← gmul_assoc hx (by decide) (gpw_lt (by decide) _)]; rfl
set_option maxRecDepth 100000 in
theorem refPow_any (n : Int) (hn : -9223372036854775808 ≤ n ∧ n ≤ 9223372036854775807) (w : World) : Calls Try.prog 16 #[.int .i64 n] w fun e w' => e = .returned (.int .u8 ((gpow n : Nat) : Int)) ∧ w' = w := by
  obtain ⟨hn1, hn2⟩ := hn
  have Ht := tmod255 n
  have h0 := Int.emod_nonneg n (show (255 : Int) ≠ 0 by omega)
  have h1 := Int.emod_lt_of_pos n (show (0 : Int) < 255 by omega)
  have hlo : -255 < n.tmod 255 := Int.lt_tmod_of_pos _ (by omega)
  have hhi : n.tmod 255 < 255 := Int.tmod_lt_of_pos _ (by omega)
  obtain ⟨k, hk⟩ := Int.eq_ofNat_of_zero_le h0
  have H : Hid (gpw 2 k = gpow n) := by unfold gpow; rw [gpw_two_n, hk]; exact congrArg gE rfl
  rw [hk] at h1 Ht
  clear hk h0
  by_cases hneg : n.tmod 255 < 0
  · rw [if_pos hneg] at Ht
    have Ht1 := Lib.hid Ht.symm
    clear Ht
    go_enter Try.func16, Try.ntmps16
    go_wp2
    have Ht2 := Ht1.out
    clear Ht1 hlo hhi hneg
    generalize n.tmod 255 + 255 = z at Ht2 ⊢
    subst Ht2
    go_loop [0, 3] (fun vn vx => ∃ m x : Nat, m < 256 ∧ x < 256 ∧ vn = .int .i64 (m : Int) ∧ vx = .int .u8 (x : Int) ∧ Hid (gmul x (gpw 2 m) = gpow n)) (fun vn _ => (intOf vn).toNat)
    case atStart => exact ⟨k, 1, by omega, by decide, rfl, rfl, (gmul_one_left _ (gpw_lt (by decide) k)).trans H.out⟩
    case round =>
      obtain ⟨m, x, hm, hx, rfl, rfl, Hm⟩ := hrel
      by_cases hz : m = 0
      · have Hr : Hid (x = gpow n) := by subst hz; rw [← Hm.out]; exact (gmul_one_right hx).symm
        have hne : ¬ (0 : Int) < (m : Int) := by omega
        clear hz Hm
        go_wp2
        go_ret
        exact ⟨ret_int (congrArg Nat.cast Hr.out), rfl⟩
      · have hne : (0 : Int) < (m : Int) := by omega
        have hx2 : gmul x 2 < 256 := gmul_lt hx
        have Hr : Hid (gmul (gmul x 2) (gpw 2 (m - 1)) = gpow n) := (gpw_step hx (by omega)).trans Hm.out
        clear Hm
        go_wp2_with (go_at_call 14; refine (refMul_any x 2 hx (by decide) _).mono ?_; rintro e w' ⟨rfl, rfl⟩)
        go_round
        case rel => exact ⟨m - 1, gmul x 2, by omega, hx2, by go_num, rfl, Hr⟩
        case measure => simp [intOf]; omega
  · rw [if_neg hneg] at Ht
    have Ht1 := Lib.hid Ht.symm
    clear Ht
    go_enter Try.func16, Try.ntmps16
    go_wp2
    have Ht2 := Ht1.out
    clear Ht1 hlo hhi hneg
    generalize n.tmod 255 = z at Ht2 ⊢
    subst Ht2
    go_loop [0, 3] (fun vn vx => ∃ m x : Nat, m < 256 ∧ x < 256 ∧ vn = .int .i64 (m : Int) ∧ vx = .int .u8 (x : Int) ∧ Hid (gmul x (gpw 2 m) = gpow n)) (fun vn _ => (intOf vn).toNat)
    case atStart => exact ⟨k, 1, by omega, by decide, rfl, rfl, (gmul_one_left _ (gpw_lt (by decide) k)).trans H.out⟩
    case round =>
      obtain ⟨m, x, hm, hx, rfl, rfl, Hm⟩ := hrel
      by_cases hz : m = 0
      · have Hr : Hid (x = gpow n) := by subst hz; rw [← Hm.out]; exact (gmul_one_right hx).symm
        have hne : ¬ (0 : Int) < (m : Int) := by omega
        clear hz Hm
        go_wp2
        go_ret
        exact ⟨ret_int (congrArg Nat.cast Hr.out), rfl⟩
      · have hne : (0 : Int) < (m : Int) := by omega
        have hx2 : gmul x 2 < 256 := gmul_lt hx
        have Hr : Hid (gmul (gmul x 2) (gpw 2 (m - 1)) = gpow n) := (gpw_step hx (by omega)).trans Hm.out
        clear Hm
        go_wp2_with (go_at_call 14; refine (refMul_any x 2 hx (by decide) _).mono ?_; rintro e w' ⟨rfl, rfl⟩)
        go_round
        case rel => exact ⟨m - 1, gmul x 2, by omega, hx2, by go_num, rfl, Hr⟩
        case measure => simp [intOf]; omega
set_option maxRecDepth 100000 in
theorem refLog_any (a : Nat) (ha : a < 256) (w : World) : Calls Try.prog 17 #[.int .u8 (a : Int)] w fun e w' => e = .returned (.int .i64 (glog a)) ∧ w' = w := by
  by_cases h0 : a = 0
  · have e0 : ((a : Int) != 0) = false := by simp; omega
    have e1 : ((a : Int) == 0) = true := by simp; omega
    have Hz : Hid (glog a = -1) := if_pos h0
    clear h0
    go_enter Try.func17, Try.ntmps17
    go_wp2
    go_loop [4] (fun vk => vk = .int .i64 0) (fun _ => 0)
    case atStart => rfl
    case round =>
      subst hrel
      go_wp2
      go_ret
      exact ⟨ret_int (by rw [Hz.out]), rfl⟩
  · have e0 : ((a : Int) != 0) = true := by simp; omega
    have e1 : ((a : Int) == 0) = false := by simp; omega
    have Hi := Lib.hid (gE_gL a ha h0)
    have Hl := gL_lt a ha
    have Hg : Hid (glog a = (gL a : Int)) := if_neg h0
    clear h0
    go_enter Try.func17, Try.ntmps17
    go_wp2
    go_loop [3, 4] (fun vx vk => ∃ k x : Nat, k ≤ gL a ∧ x < 256 ∧ vk = .int .i64 (k : Int) ∧ vx = .int .u8 (x : Int) ∧ Hid (x = gE k)) (fun _ vk => 255 - (intOf vk).toNat)
    case atStart => exact ⟨0, 1, by omega, by decide, rfl, rfl, (by decide +kernel : 1 = gE 0)⟩
    case round =>
      obtain ⟨k, x, hk, hx, rfl, rfl, Hx⟩ := hrel
      by_cases he : x = a
      · have H : Hid (((k : Nat) : Int) = glog a) := glog_at (by omega) (Hx.out.symm.trans he)
        have e2 := beq_of he
        clear he Hx
        go_wp2
        go_ret
        exact ⟨ret_int H.out, rfl⟩
      · have hkl : k < gL a := by
          by_cases e : k = gL a
          · exact absurd (Hx.out.trans ((congrArg gE e).trans Hi.out)) he
          · omega
        have hm : gmul x 2 < 256 := gmul_lt hx
        have H2 : Hid (gmul x 2 = gE (k + 1)) := by rw [Hx.out, show (2 : Nat) = gE 1 from by decide +kernel, gmul_pow]; rfl
        have e2 := bne_of (k := .u8) rfl he
        clear he Hx
        go_wp2_with (go_at_call 14; refine (refMul_any x 2 hx (by decide) _).mono ?_; rintro e w' ⟨rfl, rfl⟩)
        go_round
        case rel => exact ⟨k + 1, gmul x 2, by omega, hm, by go_num, rfl, H2⟩
        case measure => simp [intOf]; omega
theorem wakesGf_any (w : World) : Calls Try.prog 13 #[] w fun e w' => e = .returned (.bool true) ∧ w' = w := by
  have H := Lib.hid (by decide +kernel : ((gmul 128 2 : Nat) : Int) = 29)
  go_enter Try.func13, Try.ntmps13
  go_wp2_with (go_at_call 8; refine (mul_any 128 2 (by decide) (by decide) _).mono ?_; rintro e w' ⟨rfl, rfl⟩; rw [H.out])
  go_ret
  exact ⟨rfl, rfl⟩
end Go.Proofs.Ythhmalmkengfmaa
