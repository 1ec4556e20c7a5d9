/- Within, Copy, Same: what the statements' helps compute. -/
import Derived.Test.YtfgiomidlfoonaaDoorOpsKit
import Derived.Test.YtfgiomidlfoonaaDoorOwn
import Derived.Test.YtfgiomidlfoonaaDoorWithin0
namespace Go.Proofs.YtfgiomidlfoonaaDoor
open Go.RowKit

theorem size_u8 : (Tryd.prog.info? 5).map (·.size) = some 1 := by kernel_rfl
theorem xor_u8 (a b : UInt8) : bits .xor .u8 (a.toNat : Int) (b.toNat : Int) = (((a ^^^ b).toNat : Nat) : Int) := by
  rw [u8_xor_nat _ _ a.toNat_lt b.toNat_lt, UInt8.toNat_xor]
theorem take_snoc_eq {bs bs' : List UInt8} {j : Nat} (h : bs.take j = bs'.take j) (hj : j < bs.length) (hj' : j < bs'.length) (he : bs.getD j 0 = bs'.getD j 0) : bs.take (j + 1) = bs'.take (j + 1) := by
  rw [List.take_succ_eq_append_getElem hj, List.take_succ_eq_append_getElem hj', h]
  have e : bs[j] = bs'[j] := by simpa [hj, hj'] using he
  rw [e]
theorem getD_of_eq {bs bs' : List UInt8} (h : bs = bs') (j : Nat) : bs.getD j 0 = bs'.getD j 0 := by rw [h]
theorem u8_bne {a b : UInt8} (h : a ≠ b) : ((a.toNat : Int) != (b.toNat : Int)) = true := by
  rw [bne_iff_ne]; intro h'; exact h (UInt8.toNat_inj.1 (by omega))
theorem u8_beq_no {a b : UInt8} (h : a ≠ b) : ((a.toNat : Int) == (b.toNat : Int)) = false := by
  rw [beq_eq_false_iff_ne]; intro h'; exact h (UInt8.toNat_inj.1 (by omega))
def SamePost (bs bs' : List UInt8) (w : World) (e : Ending) (w' : World) : Prop := e = .returned (.bool (decide (bs = bs'))) ∧ ∃ m, w' = w.drewN m
set_option maxHeartbeats 400000 in
theorem same_any (A A' : Option Addr) (n n' c c' B : Nat) (bs bs' : List UInt8) (w : World) (hn : n = bs.length) (hn' : n' = bs'.length) (hr : RdB w B A bs) (hr' : RdB w B A' bs') :
    Calls Tryd.prog 10 #[.slice A n c, .slice A' n' c'] w (SamePost bs bs' w) := by
  subst hn hn'
  have hl := hr.1
  have hl' := hr'.1
  by_cases hlen : bs.length = bs'.length
  · have hle := Lib.hid hlen
    have hne : ((bs.length : Int) != (bs'.length : Int)) = false := by rw [hlen]; simp
    clear hlen
    go_enter Tryd.func10, Tryd.ntmps10
    go_wp2
    go_loopw [5] (fun i wr => ∃ j m : Nat, j ≤ bs.length ∧ i = .int .i64 j ∧ bs.take j = bs'.take j ∧ wr = w.drewN m) (fun i _ => bs.length - (intOf i).toNat)
    case atStart => exact ⟨0, 0, Nat.zero_le _, rfl, rfl, rfl⟩
    case round =>
      obtain ⟨j, m, hj, rfl, htk, rfl⟩ := hrel
      have Htk := Lib.hid htk
      clear htk
      by_cases hlt : j < bs.length
      · have hlt' : j < bs'.length := by have := hle.out; omega
        obtain ⟨b, off, rfl, hb, hc⟩ := hr.2 (by omega)
        obtain ⟨b', off', rfl, hb', hc'⟩ := hr'.2 (by omega)
        have h1 := hc j hlt
        have h2 := hc' j hlt'
        have i0 : (0 : Int) ≤ (j : Int) := by omega
        have i1 : (j : Int) < (bs.length : Int) := by omega
        have i2 : (j : Int) < (bs'.length : Int) := by omega
        clear hc hc'
        by_cases he : bs.getD j 0 = bs'.getD j 0
        · have Hsn := Lib.hid (take_snoc_eq Htk.out hlt hlt' he)
          rw [← he] at h2
          clear he
          generalize bs.getD j 0 = x at h1 h2
          go_wp2
          go_quiet (fail)
          go_wp2
          go_roundw
          case rel => exact ⟨j + 1, _, by omega, by go_num, Hsn.out, rfl⟩
          case measure => simp [intOf]; omega
        · have hd : decide (bs = bs') = false := by simpa using fun h => he (getD_of_eq h j)
          have Hd := Lib.hid hd
          have hb := u8_bne he
          clear hd he
          generalize bs.getD j 0 = x at h1 hb
          generalize bs'.getD j 0 = y at h2 hb
          go_wp2
          go_quiet (fail)
          go_wp2
          go_ret
          exact ⟨by rw [Hd.out]; rfl, m + nq, World.drewN_drewN _ _ _⟩
      · obtain rfl : j = bs.length := by omega
        have Hd : Hid (decide (bs = bs') = true) := by
          have h1 := Htk.out
          rw [List.take_length, hle.out, List.take_length] at h1
          exact decide_eq_true h1
        go_wp2
        go_ret
        exact ⟨by rw [Hd.out]; rfl, m, rfl⟩
  · go_enter Tryd.func10, Tryd.ntmps10
    have hne : ((bs.length : Int) != (bs'.length : Int)) = true := by rw [bne_iff_ne]; omega
    go_wp2
    go_ret
    exact ⟨by rw [decide_eq_false (fun h => hlen (by rw [h]))]; rfl, 0, rfl⟩
end Go.Proofs.YtfgiomidlfoonaaDoor
