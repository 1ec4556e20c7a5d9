/- What gf.Log computes; the document's own answers on the field. -/
import Derived.Test.YthhmalmkengfmaaGf
namespace Go.Proofs.Ythhmalmkengfmaa
open Go.RowKit

theorem bne_of {k : IntKind} {a b : Nat} (_ : k = k) (h : a ≠ b) : ((a : Int) == (b : Int)) = false := by simp; omega
theorem beq_of {a b : Nat} (h : a = b) : ((a : Int) == (b : Int)) = true := by simp [h]
theorem glog_at {a k : Nat} (hk : k < 255) (h : gE k = a) : ((k : Nat) : Int) = glog a := by rw [← h, glog_gE, Nat.mod_eq_of_lt hk]
theorem glog_none {a : Nat} (ha : a < 256) (h : ∀ j, j < 255 → gE j ≠ a) : (-1 : Int) = glog a := by
  by_cases h0 : a = 0
  · subst h0; rfl
  · exact absurd (gE_gL a ha h0) (h _ (gL_lt a ha))
set_option maxRecDepth 100000 in
theorem log_any (a : Nat) (ha : a < 256) (w : World) : Calls Try.prog 12 #[.int .u8 (a : Int)] w fun e w' => e = .returned (.int .i64 (glog a)) ∧ w' = w := by
  go_enter Try.func12, Try.ntmps12
  go_wp2
  go_loop [3, 5] (fun vx vk => ∃ k x : Nat, k ≤ 255 ∧ x < 256 ∧ vk = .int .i64 (k : Int) ∧ vx = .int .u8 (x : Int) ∧ Hid (x = gE k) ∧ Hid (∀ j, j < k → gE j ≠ a)) (fun _ vk => 255 - (intOf vk).toNat)
  case atStart => exact ⟨0, 1, by omega, by decide, rfl, rfl, (by decide +kernel : 1 = gE 0), fun j hj => absurd hj (by omega)⟩
  case round =>
    obtain ⟨k, x, hk, hx, rfl, rfl, Hx, Hj⟩ := hrel
    have hdx := dbl_lt x hx
    by_cases hlt : k < 255
    · by_cases he : x = a
      · have H := Lib.hid (glog_at hlt (Hx.out.symm.trans he))
        have e1 := beq_of he
        clear he Hx Hj
        go_wp2
        go_ret
        exact ⟨ret_int H.out, rfl⟩
      · have H : Hid (∀ j, j < k + 1 → gE j ≠ a) := fun j hj => by
          by_cases e : j = k
          · rw [e, ← Hx.out]; exact he
          · exact Hj.out j (by omega)
        have H2 : Hid (dbl x = gE (k + 1)) := by rw [Hx.out]; exact (gE_succ k).symm
        have e1 := bne_of (k := .u8) rfl he
        clear he Hx Hj
        go_wp2_with (go_at_call 18; refine (double_any x hx _).mono ?_; rintro e w' ⟨rfl, rfl⟩)
        go_round
        case rel => exact ⟨k + 1, dbl x, by omega, hdx, by go_num, rfl, H2, H⟩
        case measure => simp [intOf]; omega
    · obtain rfl : k = 255 := by omega
      have H := Lib.hid (glog_none ha Hj.out)
      clear Hx Hj
      go_wp2
      go_ret
      exact ⟨ret_int H.out, rfl⟩
theorem i64_xor_small (a b : Nat) (ha : a < 1024) (hb : b < 1024) : bits .xor .i64 (a : Int) (b : Int) = ((a ^^^ b : Nat) : Int) := by
  have hx : a ^^^ b < 2 ^ 10 := Nat.xor_lt_two_pow (by omega) (by omega)
  have o : ∀ n : Nat, n < 1024 → (BitVec.ofInt 64 (n : Int)).toNat = n := fun n hn => by rw [BitVec.ofInt_natCast, BitVec.toNat_ofNat]; exact Nat.mod_eq_of_lt (by omega)
  show IntKind.i64.wrap ((BitVec.ofInt 64 (a : Int) ^^^ BitVec.ofInt 64 (b : Int)).toNat : Int) = _
  rw [BitVec.toNat_xor, o a ha, o b hb]
  exact IntWalk.i64_in _ (by omega)
theorem xor285 : ∀ x : Nat, x < 256 → ¬ x < 128 → (2 * x) ^^^ 285 = dbl x := by decide +kernel
end Go.Proofs.Ythhmalmkengfmaa
