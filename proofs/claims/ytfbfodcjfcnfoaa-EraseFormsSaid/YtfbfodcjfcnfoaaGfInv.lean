/- What gf.Inv computes. -/
import Derived.Test.YtfbfodcjfcnfoaaGf
namespace Go.Proofs.Ytfbfodcjfcnfoaa
open Go.RowKit

theorem inv_any (a : Nat) (ha : a < 256) (w : World) : Calls Try.prog 31 #[.int .u8 (a : Int)] w fun e w' => e = .returned (.int .u8 ((ginv a : Nat) : Int)) ∧ w' = w := by
  have H := Lib.hid (gpw_inv ha)
  go_enter Try.func31, Try.ntmps31
  go_wp2_with (go_at_call 32; refine (power_any a 254 ha (by decide) _).mono ?_; rintro e w' ⟨rfl, rfl⟩)
  go_ret
  exact ⟨ret_int (congrArg Nat.cast H.out), rfl⟩
end Go.Proofs.Ytfbfodcjfcnfoaa
