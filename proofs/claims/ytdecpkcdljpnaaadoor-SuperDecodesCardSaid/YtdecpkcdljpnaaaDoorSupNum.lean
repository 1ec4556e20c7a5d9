/- What super.number, geomOf and fields tell of bytes. -/
import Derived.Test.YtdecpkcdljpnaaaDoorSupBox
import Derived.Test.YtdecpkcdljpnaaaDoorCrcMath
import Derived.StillTailTactics
set_option linter.unusedVariables false
set_option linter.unusedSimpArgs false
namespace Go.Proofs.YtdecpkcdljpnaaaDoor
open Go.RowKit

theorem i64_or_nat (a b : Nat) (ha : a < 4611686018427387904) (hb : b < 4611686018427387904) : bits .or .i64 (a : Int) (b : Int) = ((a ||| b : Nat) : Int) := by
  have hx : a ||| b < 2 ^ 62 := Nat.or_lt_two_pow (by omega) (by omega)
  have e1 : ∀ x : Nat, x < 4611686018427387904 → (BitVec.ofInt 64 (x : Int)).toNat = x := fun x h => by
    rw [BitVec.ofInt_natCast, BitVec.toNat_ofNat]; exact Nat.mod_eq_of_lt (by omega)
  show IntKind.i64.wrap ((BitVec.ofInt 64 (a : Int) ||| BitVec.ofInt 64 (b : Int)).toNat : Int) = _
  rw [BitVec.toNat_or, e1 a ha, e1 b hb]
  exact IntWalk.i64_in _ (by omega)
theorem or_byte (m : Nat) (c : UInt8) (hm : m < 4294967296) : bits .or .i64 ((m : Int) * 256) (c.toNat : Int) = ((m * 256 + c.toNat : Nat) : Int) := by
  have hc : c.toNat < 256 := c.toNat_lt
  have h := i64_or_nat (m * 256) c.toNat (by omega) (by omega)
  rw [← show 2 ^ 8 * m + c.toNat = m * 256 ||| c.toNat by rw [Nat.two_pow_add_eq_or_of_lt (i := 8) hc]; rw [Nat.mul_comm]] at h
  rw [show ((m * 256 : Nat) : Int) = (m : Int) * 256 by omega] at h
  rw [h]; omega
theorem numB_snoc (xs : List UInt8) (k : Nat) (h : k < xs.length) : numB (xs.take (k + 1)) = numB (xs.take k) * 256 + (xs.getD k 0).toNat := foldl_snoc (fun (n : Nat) (x : UInt8) => n * 256 + x.toNat) 0 xs 0 k h
theorem numB_lt (xs : List UInt8) : ∀ k, k ≤ xs.length → k ≤ 4 → numB (xs.take k) < 4294967296 ∧ (k ≤ 3 → numB (xs.take k) < 16777216) := by
  have b : ∀ c : UInt8, c.toNat < 256 := fun c => c.toNat_lt
  have h0 : numB (xs.take 0) = 0 := rfl
  intro k hk h4
  have s0 : 0 < xs.length → numB (xs.take 1) = numB (xs.take 0) * 256 + (xs.getD 0 0).toNat := numB_snoc xs 0
  have s1 : 1 < xs.length → numB (xs.take 2) = numB (xs.take 1) * 256 + (xs.getD 1 0).toNat := numB_snoc xs 1
  have s2 : 2 < xs.length → numB (xs.take 3) = numB (xs.take 2) * 256 + (xs.getD 2 0).toNat := numB_snoc xs 2
  have s3 : 3 < xs.length → numB (xs.take 4) = numB (xs.take 3) * 256 + (xs.getD 3 0).toNat := numB_snoc xs 3
  have b0 := b (xs.getD 0 0)
  have b1 := b (xs.getD 1 0)
  have b2 := b (xs.getD 2 0)
  have b3 := b (xs.getD 3 0)
  match k, h4 with
  | 0, _ => omega
  | 1, _ => have := s0 (by omega); omega
  | 2, _ => have := s0 (by omega); have := s1 (by omega); omega
  | 3, _ => have := s0 (by omega); have := s1 (by omega); have := s2 (by omega); omega
  | 4, _ => have := s0 (by omega); have := s1 (by omega); have := s2 (by omega); have := s3 (by omega); omega
set_option maxHeartbeats 1000000 in
theorem suNumber_any (b off c n : Nat) (xs : List UInt8) (w : World) (hn : xs.length = n) (h4 : n ≤ 4) (hc : ∀ k, k < n → w.cell? ⟨b, off + k, none⟩ = some (.int .u8 ((xs.getD k 0).toNat : Int))) :
    Calls Tryd.prog 45 #[.slice (some ⟨b, off, none⟩) n c] w fun e w' => e = .returned (.int .i64 ((numB xs : Nat) : Int)) ∧ w' = w := by
  have HL := Lib.hid (numB_lt xs)
  have HS := Lib.hid (numB_snoc xs)
  have HT := Lib.hid (show numB (xs.take n) = numB xs by rw [← hn, List.take_length])
  have Hn := Lib.hid hn
  have HC := Lib.hid hc
  clear hn hc
  go_enter Tryd.func45, Tryd.ntmps45
  go_wp2
  go_loop [3, 8] (fun v i => ∃ k : Nat, k ≤ n ∧ i = .int .i64 k ∧ v = .int .i64 ((numB (xs.take k) : Nat) : Int)) (fun _ i => n - (intOf i).toNat)
  case atStart => exact ⟨0, Nat.zero_le _, rfl, rfl⟩
  case round =>
    obtain ⟨k, hk, rfl, rfl⟩ := hrel
    have hy := HL.out k (by rw [Hn.out]; exact hk) (by omega)
    by_cases hlt : k < n
    · have h1 := HC.out k hlt
      have Hsn := Lib.hid (HS.out k (by rw [Hn.out]; exact hlt))
      generalize xs.getD k 0 = x at h1 Hsn
      generalize numB (xs.take k) = y at hy Hsn
      have eo := or_byte y x hy.1
      have hx : x.toNat < 256 := x.toNat_lt
      go_wp2
      go_round
      case rel => exact ⟨k + 1, by omega, by go_num, by rw [Hsn.out]; exact congrArg (Value.int .i64) (by omega)⟩
      case measure => simp [intOf]; omega
    · obtain rfl : k = n := by omega
      go_wp2
      go_ret
      exact ⟨by rw [← HT.out]; rfl, rfl⟩
theorem suGeomOf_any (b off c : Nat) (x0 x1 x2 : UInt8) (w : World) (hb : b < w.heap.size) (hc : 4 ≤ c) (h0 : w.cell? ⟨b, off, none⟩ = some (.int .u8 (x0.toNat : Int))) (h1 : w.cell? ⟨b, off + 1, none⟩ = some (.int .u8 (x1.toNat : Int))) (h2 : w.cell? ⟨b, off + 2, none⟩ = some (.int .u8 (x2.toNat : Int))) :
    Calls Tryd.prog 46 #[.slice (some ⟨b, off, none⟩) 3 c] w fun e w' => e = .returned (.agg #[.int .i64 ((numB [x0] : Nat) : Int), .int .i64 ((numB [x1] : Nat) : Int), .int .i64 ((numB [x2] : Nat) : Int)]) ∧ Below w.heap.size w w' := by
  have N : Hid (∀ (W : World) (o cp : Nat) (x : UInt8), Below w.heap.size w W → w.cell? ⟨b, o, none⟩ = some (.int .u8 (x.toNat : Int)) → Calls Tryd.prog 45 #[.slice (some ⟨b, o, none⟩) 1 cp] W fun e w' => e = .returned (.int .i64 ((numB [x] : Nat) : Int)) ∧ w' = W) :=
    Lib.hid fun W o cp x hW hx => suNumber_any b o cp 1 [x] W rfl (by omega) fun k hk => by
      obtain rfl : k = 0 := by omega
      exact (hW.cell (p := ⟨b, o + 0, none⟩) hb).trans hx
  have j1 : (1 : Int) ≤ (c : Int) := by omega
  have j2 : (2 : Int) ≤ (c : Int) := by omega
  have j3 : (3 : Int) ≤ (c : Int) := by omega
  have i1 : ¬ c = 1 := by omega
  have i2 : ¬ c = 2 := by omega
  have F := (below1 w (.cells #[.int .i64 0, .int .i64 0, .int .i64 0] 23))
  have hF := hp_new w (.cells #[.int .i64 0, .int .i64 0, .int .i64 0] 23) w.heap.size rfl
  generalize hW0 : w.alloc (.cells #[.int .i64 0, .int .i64 0, .int .i64 0] 23) = W0 at F hF
  have n0 := Lib.hid fun cp => N.out W0.drew _ cp x0 F.drew h0
  have n1 := Lib.hid fun cp => N.out W0.drew _ cp x1 F.drew h1
  have n2 := Lib.hid fun cp => N.out W0.drew _ cp x2 F.drew h2
  clear N h0 h1 h2
  generalize ((numB [x0] : Nat) : Int) = y0 at n0
  generalize ((numB [x1] : Nat) : Int) = y1 at n1
  generalize ((numB [x2] : Nat) : Int) = y2 at n2
  have HF := Lib.hid F
  have HH := Lib.hid hF
  clear F hF
  go_enter Tryd.func46, Tryd.ntmps46
  go_wp2_with fail
  refine wp_region_still_tail 10 (by kernel_rfl) (by kernel_rfl) ?_
  simp only [List.take_succ_cons, List.take_zero, List.drop_succ_cons, List.drop_zero]
  change wpStill _ _ W0.drew _ _ _
  generalize hwd : W0.drew = wd at n0 n1 n2 ⊢
  have Hwd := Lib.hid hwd
  clear hwd
  repeat still_step
  still_call (n0.out _)
  repeat still_step
  still_call (n1.out _)
  repeat still_step
  still_call (n2.out _)
  repeat still_step
  refine wpStill_nil ?_
  change wpList _ _ _ _ _ W0.drew
  clear n0 n1 n2 Hwd HF HH
  subst hW0
  go_wp2
  refine bodyPost_ret (v := .agg #[.int .i64 y0, .int .i64 y1, .int .i64 y2]) (by simp [results, Tryd.results46, go_sem]) rfl ⟨rfl, ?_⟩
  exact (below1 _ _).drew
end Go.Proofs.YtdecpkcdljpnaaaDoor
