/- Within, for every bound. -/
import Derived.Test.YtpiilfgikgkneaaKeep
namespace Go.Proofs.Ytpiilfgikgkneaa
open Go.RowKit

theorem within_all (v n : Int) (w : World) (hv : -9223372036854775808 ≤ v ∧ v ≤ 9223372036854775807) (hn : -9223372036854775808 ≤ n ∧ n ≤ 9223372036854775807) :
    Calls Try.prog 9 #[.int .i64 v, .int .i64 n] w fun e w' => e = .returned (.int .i64 (withinI v n)) ∧ w' = w := by
  obtain ⟨h3, h4⟩ := hv
  obtain ⟨h5, h2⟩ := hn
  by_cases h1 : 1 ≤ n
  · have Ht := Lib.hid (tmod_within v n h1)
    have hlo : -n < v.tmod n := Int.lt_tmod_of_pos _ (by omega)
    have hhi : v.tmod n < n := Int.tmod_lt_of_pos _ (by omega)
    by_cases hneg : v.tmod n < 0
    · go_enter Try.func9, Try.ntmps9
      go_wp2
      go_ret
      exact ⟨by rw [Ht.out, if_pos hneg]; rfl, rfl⟩
    · go_enter Try.func9, Try.ntmps9
      go_wp2
      go_ret
      exact ⟨by rw [Ht.out, if_neg (by omega)]; rfl, rfl⟩
  · have h1' : n < 1 := by omega
    have Ht := Lib.hid (show withinI v n = 0 by unfold withinI; rw [if_pos h1'])
    clear h1
    go_enter Try.func9, Try.ntmps9
    go_wp2
    go_ret
    exact ⟨by rw [Ht.out]; rfl, rfl⟩
/-- Up to a length. -/
theorem within_upto (v : Int) (n : Nat) (hn : n ≤ 9223372036854775807) : 0 ≤ withinI v (IntKind.i64.wrap ((n : Int) + 1)) ∧ withinI v (IntKind.i64.wrap ((n : Int) + 1)) ≤ (n : Int) := by
  by_cases h : n ≤ 9223372036854775806
  · rw [show IntKind.i64.wrap ((n : Int) + 1) = (n : Int) + 1 by rw [IntKind.wrap_i64]; omega]
    have := withinI_bd v ((n : Int) + 1) (by omega)
    omega
  · obtain rfl : n = 9223372036854775807 := by omega
    have : withinI v (IntKind.i64.wrap (((9223372036854775807 : Nat) : Int) + 1)) = 0 := by
      unfold withinI; rw [if_pos (by rw [IntKind.wrap_i64]; omega)]
    omega
end Go.Proofs.Ytpiilfgikgkneaa
