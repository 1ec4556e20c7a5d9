/- The document's own number of four bytes. -/
import Derived.Test.YtiipdhmfdgbmiaaDoorTbai
import Derived.Test.YtiipdhmfdgbmiaaDoorTbaf
set_option linter.unusedVariables false
set_option linter.unusedSimpArgs false
namespace Go.Proofs.YtiipdhmfdgbmiaaDoor
open Go.RowKit

theorem or_add (m i k : Nat) (hk : k < 2 ^ i) : m * 2 ^ i ||| k = m * 2 ^ i + k := by
  rw [Nat.mul_comm, Nat.two_pow_add_eq_or_of_lt hk]
theorem or_four (x0 x1 x2 x3 : UInt8) : ∃ r1 r2 : Nat, bits .or .i64 ((x0.toNat : Int) * 16777216) ((x1.toNat : Int) * 65536) = (r1 : Int) ∧ bits .or .i64 (r1 : Int) ((x2.toNat : Int) * 256) = (r2 : Int) ∧ bits .or .i64 (r2 : Int) (x3.toNat : Int) = ((numB [x0, x1, x2, x3] : Nat) : Int) := by
  have b0 : x0.toNat < 256 := x0.toNat_lt
  have b1 : x1.toNat < 256 := x1.toNat_lt
  have b2 : x2.toNat < 256 := x2.toNat_lt
  have b3 : x3.toNat < 256 := x3.toNat_lt
  have HN := Lib.hid (numB_four x0 x1 x2 x3)
  have o1 : bits .or .i64 ((x0.toNat : Int) * 16777216) ((x1.toNat : Int) * 65536) = ((x0.toNat * 16777216 + x1.toNat * 65536 : Nat) : Int) := by
    have h := i64_or_nat (x0.toNat * 16777216) (x1.toNat * 65536) (by omega) (by omega)
    rw [show x0.toNat * 16777216 ||| x1.toNat * 65536 = x0.toNat * 16777216 + x1.toNat * 65536 from or_add x0.toNat 24 (x1.toNat * 65536) (by omega)] at h
    rw [← h]; rfl
  have o2 : bits .or .i64 ((x0.toNat * 16777216 + x1.toNat * 65536 : Nat) : Int) ((x2.toNat : Int) * 256) = ((x0.toNat * 16777216 + x1.toNat * 65536 + x2.toNat * 256 : Nat) : Int) := by
    have h := i64_or_nat (x0.toNat * 16777216 + x1.toNat * 65536) (x2.toNat * 256) (by omega) (by omega)
    rw [show x0.toNat * 16777216 + x1.toNat * 65536 = (x0.toNat * 256 + x1.toNat) * 2 ^ 16 by omega, or_add _ 16 (x2.toNat * 256) (by omega)] at h
    rw [show x0.toNat * 16777216 + x1.toNat * 65536 = (x0.toNat * 256 + x1.toNat) * 2 ^ 16 by omega, ← h]; rfl
  have o3 : bits .or .i64 ((x0.toNat * 16777216 + x1.toNat * 65536 + x2.toNat * 256 : Nat) : Int) (x3.toNat : Int) = ((numB [x0, x1, x2, x3] : Nat) : Int) := by
    have h := i64_or_nat (x0.toNat * 16777216 + x1.toNat * 65536 + x2.toNat * 256) x3.toNat (by omega) (by omega)
    rw [show x0.toNat * 16777216 + x1.toNat * 65536 + x2.toNat * 256 = (x0.toNat * 65536 + x1.toNat * 256 + x2.toNat) * 2 ^ 8 by omega, or_add _ 8 x3.toNat (by omega)] at h
    rw [show x0.toNat * 16777216 + x1.toNat * 65536 + x2.toNat * 256 = (x0.toNat * 65536 + x1.toNat * 256 + x2.toNat) * 2 ^ 8 by omega, h, HN.out]
    exact congrArg (fun n : Nat => (n : Int)) (by omega)
  exact ⟨_, _, o1, o2, o3⟩
set_option maxHeartbeats 1000000 in
theorem refNumber_any (b off n c : Nat) (x0 x1 x2 x3 : UInt8) (w : World) (hn : 4 ≤ n) (h0 : w.cell? ⟨b, off, none⟩ = some (.int .u8 (x0.toNat : Int))) (h1 : w.cell? ⟨b, off + 1, none⟩ = some (.int .u8 (x1.toNat : Int)))
    (h2 : w.cell? ⟨b, off + 2, none⟩ = some (.int .u8 (x2.toNat : Int))) (h3 : w.cell? ⟨b, off + 3, none⟩ = some (.int .u8 (x3.toNat : Int))) :
    Calls Tryd.prog 57 #[.slice (some ⟨b, off, none⟩) n c] w fun e w' => e = .returned (.int .i64 ((numB [x0, x1, x2, x3] : Nat) : Int)) ∧ ∃ m, w' = w.drewN m := by
  have b0 : x0.toNat < 256 := x0.toNat_lt
  have b1 : x1.toNat < 256 := x1.toNat_lt
  have b2 : x2.toNat < 256 := x2.toNat_lt
  have b3 : x3.toNat < 256 := x3.toNat_lt
  obtain ⟨r1, r2, o1, o2, o3⟩ := or_four x0 x1 x2 x3
  generalize numB [x0, x1, x2, x3] = r at o3
  have n1 : (1 : Int) < (n : Int) := by omega
  have n2 : (2 : Int) < (n : Int) := by omega
  have n3 : (3 : Int) < (n : Int) := by omega
  have n0 : (0 : Int) < (n : Int) := by omega
  go_enter Tryd.func57, Tryd.ntmps57
  go_wp2_with fail
  go_quiet (fail)
  go_wp2
  go_ret
  exact ⟨rfl, _, rfl⟩
end Go.Proofs.YtiipdhmfdgbmiaaDoor
