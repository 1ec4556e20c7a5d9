/- What super.put and putGeom do to bytes of their own. -/
import Derived.Test.YtdecpkcdljpnaaaDoorSupBox
import Derived.Test.YtdecpkcdljpnaaaDoorOwn
set_option linter.unusedVariables false
set_option linter.unusedSimpArgs false
namespace Go.Proofs.YtdecpkcdljpnaaaDoor
open Go.RowKit

/-- Bytes off .. off + len - 1 set to the lowest k bytes of n, from the last one on. -/
def putK (bs : List UInt8) (off len : Nat) (n : Int) (k : Nat) : List UInt8 := (List.range k).foldl (fun l i => l.set (off + (len - 1 - i)) (byN n i)) bs
theorem putK_succ (bs : List UInt8) (off len : Nat) (n : Int) (k : Nat) : putK bs off len n (k + 1) = (putK bs off len n k).set (off + (len - 1 - k)) (byN n k) := by
  unfold putK; rw [List.range_succ, List.foldl_append]; rfl
theorem putK_len (bs : List UInt8) (off len : Nat) (n : Int) (k : Nat) : (putK bs off len n k).length = bs.length := by
  induction k with
  | zero => rfl
  | succ k ih => rw [putK_succ, List.length_set, ih]
theorem byN_wrap (n : Int) (hn : 0 ≤ n) (k : Nat) (hk : k < 4) : n / 2 ^ (8 * k) % 256 = ((byN n k).toNat : Int) := by
  obtain ⟨m, rfl⟩ := Int.eq_ofNat_of_zero_le hn
  match k, hk with
  | 0, _ => simp only [byN, UInt8.toNat_ofNat']; omega
  | 1, _ => simp only [byN, UInt8.toNat_ofNat']; omega
  | 2, _ => simp only [byN, UInt8.toNat_ofNat']; omega
  | 3, _ => simp only [byN, UInt8.toNat_ofNat']; omega
set_option maxHeartbeats 1000000 in
theorem suPut_any (g off len cap cap0 B : Nat) (n : Int) (bs : List UInt8) (w : World) (hn : 0 ≤ n ∧ n ≤ 2147483647) (h : OwB 5 w B (.slice (some ⟨g, 0, none⟩) 32 cap0) bs) (hbs : bs.length = 32) (hl : off + len ≤ 32) (h4 : len ≤ 4) (hc : len ≤ cap) :
    Calls Tryd.prog 20 #[.slice (some ⟨g, off, none⟩) len cap, .int .i64 n] w fun e w' => e = .returned (.tuple #[]) ∧ OwB 5 w' B (.slice (some ⟨g, 0, none⟩) 32 cap0) (putK bs off len n len) ∧ w.grownBy w' (some g) := by
  go_enter Tryd.func20, Tryd.ntmps20
  go_wp2
  go_loopw [7] (fun i wr => ∃ k : Nat, k ≤ len ∧ i = .int .i64 k ∧ OwB 5 wr B (.slice (some ⟨g, 0, none⟩) 32 cap0) (putK bs off len n k) ∧ w.grownBy wr (some g)) (fun i _ => len - (intOf i).toNat)
  case atStart => exact ⟨0, by omega, rfl, h, World.grownBy.refl w _⟩
  case round =>
    obtain ⟨k, hk, rfl, hown, hgr⟩ := hrel
    by_cases hlt : k < len
    · obtain ⟨hc1, hf⟩ := hown.cell ((putK_len bs off len n k).trans hbs) (off + (len - 1 - k)) (by omega)
      have Hset := Lib.hid (hown.set ((putK_len bs off len n k).trans hbs) (off + (len - 1 - k)) (byN n k))
      rw [← putK_succ] at Hset
      have Hb := byN_wrap n hn.1 k (by omega)
      go_wp2
      go_roundw
      case rel => exact ⟨k + 1, by omega, by go_num, Hset.out.1, hgr.trans Hset.out.2⟩
      case measure => simp [intOf]; omega
    · obtain rfl : k = len := by omega
      go_wp2
      go_end0
      exact ⟨rfl, hown, hgr⟩
end Go.Proofs.YtdecpkcdljpnaaaDoor
