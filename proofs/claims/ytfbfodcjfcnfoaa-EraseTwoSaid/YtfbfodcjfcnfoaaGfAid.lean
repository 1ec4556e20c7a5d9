/- Small facts on bytes and powers. -/
import Derived.Test.YtfbfodcjfcnfoaaGf
namespace Go.Proofs.Ytfbfodcjfcnfoaa
open Go.RowKit

theorem bne_of {k : IntKind} {a b : Nat} (_ : k = k) (h : a ≠ b) : ((a : Int) == (b : Int)) = false := by simp; omega
theorem beq_of {a b : Nat} (h : a = b) : ((a : Int) == (b : Int)) = true := by simp [h]
theorem glog_at {a k : Nat} (hk : k < 255) (h : gE k = a) : ((k : Nat) : Int) = glog a := by rw [← h, glog_gE, Nat.mod_eq_of_lt hk]
theorem glog_none {a : Nat} (ha : a < 256) (h : ∀ j, j < 255 → gE j ≠ a) : (-1 : Int) = glog a := by
  by_cases h0 : a = 0
  · subst h0; rfl
  · exact absurd (gE_gL a ha h0) (h _ (gL_lt a ha))
theorem i64_xor_small (a b : Nat) (ha : a < 1024) (hb : b < 1024) : bits .xor .i64 (a : Int) (b : Int) = ((a ^^^ b : Nat) : Int) := by
  have hx : a ^^^ b < 2 ^ 10 := Nat.xor_lt_two_pow (by omega) (by omega)
  have o : ∀ n : Nat, n < 1024 → (BitVec.ofInt 64 (n : Int)).toNat = n := fun n hn => by rw [BitVec.ofInt_natCast, BitVec.toNat_ofNat]; exact Nat.mod_eq_of_lt (by omega)
  show IntKind.i64.wrap ((BitVec.ofInt 64 (a : Int) ^^^ BitVec.ofInt 64 (b : Int)).toNat : Int) = _
  rw [BitVec.toNat_xor, o a ha, o b hb]
  exact IntWalk.i64_in _ (by omega)
theorem xor285 : ∀ x : Nat, x < 256 → ¬ x < 128 → (2 * x) ^^^ 285 = dbl x := by decide +kernel
end Go.Proofs.Ytfbfodcjfcnfoaa
