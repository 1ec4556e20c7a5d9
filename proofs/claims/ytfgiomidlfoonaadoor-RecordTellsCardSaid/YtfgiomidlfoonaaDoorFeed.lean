/- What crc's inner function and its exported ones compute. -/
import Derived.Test.YtfgiomidlfoonaaDoorProg
import Derived.Test.YtfgiomidlfoonaaDoorMem
import Derived.Test.YtfgiomidlfoonaaDoorCrcMath
namespace Go.Proofs.YtfgiomidlfoonaaDoor
open Go.RowKit

def TabOk (w : World) : Prop := ∀ i, i < 16 → w.cell? ⟨0, i, none⟩ = some (.int .u32 ((nibs.getD i 0 : Nat) : Int))
theorem and15 (s : Nat) (h : s < 4294967296) : bits .and .u32 (s : Int) 15 = ((s % 16 : Nat) : Int) := by
  have := u32_and_nat s 15 h (by decide)
  rw [show ((15 : Nat) : Int) = 15 from rfl] at this
  rw [this, nat_mask4]
theorem shr_xor (s n : Nat) (h : s < 4294967296) (hn : n < 4294967296) : bits .xor .u32 ((s : Int) / 16) (n : Int) = (((s / 16) ^^^ n : Nat) : Int) := by
  have := u32_xor_nat (s / 16) n (by omega) hn
  rw [← this]; rfl
theorem TabOk.below {w w' : World} {B : Nat} (h : TabOk w) (hb : Below B w w') (hB : 0 < B) : TabOk w' := fun i hi => (hb.cell (p := ⟨0, i, none⟩) hB).trans (h i hi)
theorem TabOk.pos {w : World} (h : TabOk w) : 0 < w.heap.size := World.block_lt_of_cell? w ⟨0, 0, none⟩ (h 0 (by omega))
set_option maxHeartbeats 400000 in
theorem feed_any (A : Option Addr) (rs : List (List UInt8)) (cp : Nat) (x : Nat) (hx : x < 4294967296) (w : World) (hr : RdR w w.heap.size A rs) (ht : TabOk w) :
    Calls Tryd.prog 41 #[.int .u32 (x : Int), .slice A rs.length cp] w fun e w' => e = .returned (.int .u32 ((feedR x rs : Nat) : Int)) ∧ w' = w := by
  have hm := hr.1
  go_enter Tryd.func41, Tryd.ntmps41
  go_wp2
  go_loop [0, 11] (fun v i => ∃ k : Nat, k ≤ rs.length ∧ i = .int .i64 k ∧ v = .int .u32 ((feedR x (rs.take k) : Nat) : Int)) (fun _ i => rs.length - (intOf i).toNat)
  case atStart => exact ⟨0, Nat.zero_le _, rfl, rfl⟩
  case round =>
    obtain ⟨k, hk, rfl, rfl⟩ := hrel
    have hy := feedR_lt (rs.take k) hx
    by_cases hlt : k < rs.length
    · obtain ⟨b, off, rfl, hb, hc⟩ := hr.2 (by omega)
      obtain ⟨A', c', h1, h2⟩ := hc k hlt
      have Hsn := Lib.hid (feedR_snoc x rs k hlt)
      generalize rs.getD k [] = row at h1 h2 Hsn
      generalize feedR x (rs.take k) = y at hy Hsn
      clear hc
      have hlen := h2.1
      go_wp2
      go_loop [0, 17] (fun v i => ∃ j : Nat, j ≤ row.length ∧ i = .int .i64 j ∧ v = .int .u32 ((feedB y (row.take j) : Nat) : Int)) (fun _ i => row.length - (intOf i).toNat)
      case atStart => exact ⟨0, Nat.zero_le _, rfl, rfl⟩
      case round =>
        obtain ⟨j, hj, rfl, rfl⟩ := hrel
        have hz := feedB_lt (row.take j) hy
        by_cases hlt2 : j < row.length
        · obtain ⟨b2, off2, rfl, hb2, hc2⟩ := h2.2 (by omega)
          have h3 := hc2 j hlt2
          have Hsn2 := Lib.hid (feedB_snoc y row j hlt2)
          generalize row.getD j 0 = c at h3 Hsn2
          generalize feedB y (row.take j) = z at hz Hsn2
          have hcb : c.toNat < 256 := c.toNat_lt
          clear hc2
          have e0 := u32_xor_nat z c.toNat hz (by omega)
          have hs0 := xor_lt32 hz (show c.toNat < 4294967296 by omega)
          have Hst : Hid (stepB z c = half (half (z ^^^ c.toNat))) := rfl
          generalize z ^^^ c.toNat = s0 at e0 hs0 Hst
          have e1 := and15 s0 hs0
          have t1 := ht (s0 % 16) (by omega)
          have n1 := nibs_lt (s0 % 16)
          have e2 := shr_xor s0 _ hs0 n1
          have hs1 := half_lt hs0
          rw [show (s0 / 16) ^^^ nibs.getD (s0 % 16) 0 = half s0 from rfl] at e2
          generalize half s0 = s1 at e2 hs1 Hst
          generalize nibs.getD (s0 % 16) 0 = m1 at t1 n1 e2
          have e3 := and15 s1 hs1
          have t2 := ht (s1 % 16) (by omega)
          have n2 := nibs_lt (s1 % 16)
          have e4 := shr_xor s1 _ hs1 n2
          have hs2 := half_lt hs1
          rw [show (s1 / 16) ^^^ nibs.getD (s1 % 16) 0 = half s1 from rfl] at e4
          generalize half s1 = s2 at e4 hs2 Hst
          generalize nibs.getD (s1 % 16) 0 = m2 at t2 n2 e4
          go_wp2
          go_round
          case rel => exact ⟨j + 1, by omega, by go_num, by rw [Hsn2.out, Hst.out]⟩
          case measure => simp [intOf]; omega
        · obtain rfl : j = row.length := by omega
          go_wp2
          go_round
          case rel => exact ⟨k + 1, by omega, by go_num, by rw [Hsn.out, List.take_length]⟩
          case measure => simp [intOf]; omega
    · obtain rfl : k = rs.length := by omega
      go_wp2
      go_ret
      exact ⟨rfl, rfl⟩
end Go.Proofs.YtfgiomidlfoonaaDoor
