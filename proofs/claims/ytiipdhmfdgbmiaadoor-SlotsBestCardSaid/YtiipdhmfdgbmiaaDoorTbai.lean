/- Texts put together: SupNum, SupFld. -/
import Derived.Test.YtiipdhmfdgbmiaaDoorTbaf
import Derived.Test.YtiipdhmfdgbmiaaDoorTbaa
import Derived.StillTailTactics
import Derived.Test.YtiipdhmfdgbmiaaDoorTbae
import Derived.Test.YtiipdhmfdgbmiaaDoorTbad
section
set_option linter.unusedVariables false
set_option linter.unusedSimpArgs false
set_option maxRecDepth 8000
namespace Go.Proofs.YtiipdhmfdgbmiaaDoor
open Go.RowKit

theorem i64_or_nat (a b : Nat) (ha : a < 4611686018427387904) (hb : b < 4611686018427387904) : bits .or .i64 (a : Int) (b : Int) = ((a ||| b : Nat) : Int) := by
  have hx : a ||| b < 2 ^ 62 := Nat.or_lt_two_pow (by omega) (by omega)
  have e1 : ∀ x : Nat, x < 4611686018427387904 → (BitVec.ofInt 64 (x : Int)).toNat = x := fun x h => by
    rw [BitVec.ofInt_natCast, BitVec.toNat_ofNat]; exact Nat.mod_eq_of_lt (by omega)
  show IntKind.i64.wrap ((BitVec.ofInt 64 (a : Int) ||| BitVec.ofInt 64 (b : Int)).toNat : Int) = _
  rw [BitVec.toNat_or, e1 a ha, e1 b hb]
  exact IntWalk.i64_in _ (by omega)
theorem or_byte (m : Nat) (c : UInt8) (hm : m < 4294967296) : bits .or .i64 ((m : Int) * 256) (c.toNat : Int) = ((m * 256 + c.toNat : Nat) : Int) := by
  have hc : c.toNat < 256 := c.toNat_lt
  have h := i64_or_nat (m * 256) c.toNat (by omega) (by omega)
  rw [← show 2 ^ 8 * m + c.toNat = m * 256 ||| c.toNat by rw [Nat.two_pow_add_eq_or_of_lt (i := 8) hc]; rw [Nat.mul_comm]] at h
  rw [show ((m * 256 : Nat) : Int) = (m : Int) * 256 by omega] at h
  rw [h]; omega
theorem numB_snoc (xs : List UInt8) (k : Nat) (h : k < xs.length) : numB (xs.take (k + 1)) = numB (xs.take k) * 256 + (xs.getD k 0).toNat := foldl_snoc (fun (n : Nat) (x : UInt8) => n * 256 + x.toNat) 0 xs 0 k h
theorem numB_lt (xs : List UInt8) : ∀ k, k ≤ xs.length → k ≤ 4 → numB (xs.take k) < 4294967296 ∧ (k ≤ 3 → numB (xs.take k) < 16777216) := by
  have b : ∀ c : UInt8, c.toNat < 256 := fun c => c.toNat_lt
  have h0 : numB (xs.take 0) = 0 := rfl
  intro k hk h4
  have s0 : 0 < xs.length → numB (xs.take 1) = numB (xs.take 0) * 256 + (xs.getD 0 0).toNat := numB_snoc xs 0
  have s1 : 1 < xs.length → numB (xs.take 2) = numB (xs.take 1) * 256 + (xs.getD 1 0).toNat := numB_snoc xs 1
  have s2 : 2 < xs.length → numB (xs.take 3) = numB (xs.take 2) * 256 + (xs.getD 2 0).toNat := numB_snoc xs 2
  have s3 : 3 < xs.length → numB (xs.take 4) = numB (xs.take 3) * 256 + (xs.getD 3 0).toNat := numB_snoc xs 3
  have b0 := b (xs.getD 0 0)
  have b1 := b (xs.getD 1 0)
  have b2 := b (xs.getD 2 0)
  have b3 := b (xs.getD 3 0)
  match k, h4 with
  | 0, _ => omega
  | 1, _ => have := s0 (by omega); omega
  | 2, _ => have := s0 (by omega); have := s1 (by omega); omega
  | 3, _ => have := s0 (by omega); have := s1 (by omega); have := s2 (by omega); omega
  | 4, _ => have := s0 (by omega); have := s1 (by omega); have := s2 (by omega); have := s3 (by omega); omega
set_option maxHeartbeats 1000000 in
theorem suNumber_any (b off c n : Nat) (xs : List UInt8) (w : World) (hn : xs.length = n) (h4 : n ≤ 4) (hc : ∀ k, k < n → w.cell? ⟨b, off + k, none⟩ = some (.int .u8 ((xs.getD k 0).toNat : Int))) :
    Calls Tryd.prog 89 #[.slice (some ⟨b, off, none⟩) n c] w fun e w' => e = .returned (.int .i64 ((numB xs : Nat) : Int)) ∧ w' = w := by
  have HL := Lib.hid (numB_lt xs)
  have HS := Lib.hid (numB_snoc xs)
  have HT := Lib.hid (show numB (xs.take n) = numB xs by rw [← hn, List.take_length])
  have Hn := Lib.hid hn
  have HC := Lib.hid hc
  clear hn hc
  go_enter Tryd.func89, Tryd.ntmps89
  go_wp2
  go_loop [3, 8] (fun v i => ∃ k : Nat, k ≤ n ∧ i = .int .i64 k ∧ v = .int .i64 ((numB (xs.take k) : Nat) : Int)) (fun _ i => n - (intOf i).toNat)
  case atStart => exact ⟨0, Nat.zero_le _, rfl, rfl⟩
  case round =>
    obtain ⟨k, hk, rfl, rfl⟩ := hrel
    have hy := HL.out k (by rw [Hn.out]; exact hk) (by omega)
    by_cases hlt : k < n
    · have h1 := HC.out k hlt
      have Hsn := Lib.hid (HS.out k (by rw [Hn.out]; exact hlt))
      generalize xs.getD k 0 = x at h1 Hsn
      generalize numB (xs.take k) = y at hy Hsn
      have eo := or_byte y x hy.1
      have hx : x.toNat < 256 := x.toNat_lt
      go_wp2
      go_round
      case rel => exact ⟨k + 1, by omega, by go_num, by rw [Hsn.out]; exact congrArg (Value.int .i64) (by omega)⟩
      case measure => simp [intOf]; omega
    · obtain rfl : k = n := by omega
      go_wp2
      go_ret
      exact ⟨by rw [← HT.out]; rfl, rfl⟩
theorem suGeomOf_any (b off c : Nat) (x0 x1 x2 : UInt8) (w : World) (hb : b < w.heap.size) (hc : 4 ≤ c) (h0 : w.cell? ⟨b, off, none⟩ = some (.int .u8 (x0.toNat : Int))) (h1 : w.cell? ⟨b, off + 1, none⟩ = some (.int .u8 (x1.toNat : Int))) (h2 : w.cell? ⟨b, off + 2, none⟩ = some (.int .u8 (x2.toNat : Int))) :
    Calls Tryd.prog 90 #[.slice (some ⟨b, off, none⟩) 3 c] w fun e w' => e = .returned (.agg #[.int .i64 ((numB [x0] : Nat) : Int), .int .i64 ((numB [x1] : Nat) : Int), .int .i64 ((numB [x2] : Nat) : Int)]) ∧ Below w.heap.size w w' := by
  have N : Hid (∀ (W : World) (o cp : Nat) (x : UInt8), Below w.heap.size w W → w.cell? ⟨b, o, none⟩ = some (.int .u8 (x.toNat : Int)) → Calls Tryd.prog 89 #[.slice (some ⟨b, o, none⟩) 1 cp] W fun e w' => e = .returned (.int .i64 ((numB [x] : Nat) : Int)) ∧ w' = W) :=
    Lib.hid fun W o cp x hW hx => suNumber_any b o cp 1 [x] W rfl (by omega) fun k hk => by
      obtain rfl : k = 0 := by omega
      exact (hW.cell (p := ⟨b, o + 0, none⟩) hb).trans hx
  have j1 : (1 : Int) ≤ (c : Int) := by omega
  have j2 : (2 : Int) ≤ (c : Int) := by omega
  have j3 : (3 : Int) ≤ (c : Int) := by omega
  have i1 : ¬ c = 1 := by omega
  have i2 : ¬ c = 2 := by omega
  have F := (below1 w (.cells #[.int .i64 0, .int .i64 0, .int .i64 0] 30))
  have hF := hp_new w (.cells #[.int .i64 0, .int .i64 0, .int .i64 0] 30) w.heap.size rfl
  generalize hW0 : w.alloc (.cells #[.int .i64 0, .int .i64 0, .int .i64 0] 30) = W0 at F hF
  have n0 := Lib.hid fun cp => N.out W0.drew _ cp x0 F.drew h0
  have n1 := Lib.hid fun cp => N.out W0.drew _ cp x1 F.drew h1
  have n2 := Lib.hid fun cp => N.out W0.drew _ cp x2 F.drew h2
  clear N h0 h1 h2
  generalize ((numB [x0] : Nat) : Int) = y0 at n0
  generalize ((numB [x1] : Nat) : Int) = y1 at n1
  generalize ((numB [x2] : Nat) : Int) = y2 at n2
  have HF := Lib.hid F
  have HH := Lib.hid hF
  clear F hF
  go_enter Tryd.func90, Tryd.ntmps90
  go_wp2_with fail
  refine wp_region_still_tail 10 (by kernel_rfl) (by kernel_rfl) ?_
  simp only [List.take_succ_cons, List.take_zero, List.drop_succ_cons, List.drop_zero]
  change wpStill _ _ W0.drew _ _ _
  generalize hwd : W0.drew = wd at n0 n1 n2 ⊢
  have Hwd := Lib.hid hwd
  clear hwd
  repeat still_step
  still_call (n0.out _)
  repeat still_step
  still_call (n1.out _)
  repeat still_step
  still_call (n2.out _)
  repeat still_step
  refine wpStill_nil ?_
  change wpList _ _ _ _ _ W0.drew
  clear n0 n1 n2 Hwd HF HH
  subst hW0
  go_wp2
  refine bodyPost_ret (v := .agg #[.int .i64 y0, .int .i64 y1, .int .i64 y2]) (by simp [results, Tryd.results90, go_sem]) rfl ⟨rfl, ?_⟩
  exact (below1 _ _).drew
end Go.Proofs.YtiipdhmfdgbmiaaDoor
end
section
set_option linter.unusedVariables false
set_option linter.unusedSimpArgs false
namespace Go.Proofs.YtiipdhmfdgbmiaaDoor
open Go.RowKit

/-- What stays while callees make memory: a byte, and all below. -/
abbrev FS (W0 : World) (b o : Nat) (x : UInt8) (W : World) : Prop := W.cell? ⟨b, o, none⟩ = some (.int .u8 (x.toNat : Int)) ∧ Below W0.heap.size W0 W
theorem FS.drew {W0 W : World} {b o : Nat} {x : UInt8} (h : FS W0 b o x W) : FS W0 b o x W.drew := ⟨h.1, h.2.drew⟩
theorem FS.later {W0 W W' : World} {b o : Nat} {x : UInt8} (h : FS W0 b o x W) (hb : Below W.heap.size W W') : FS W0 b o x W' :=
  ⟨(hb.cell (p := ⟨b, o, none⟩) (World.block_lt_of_cell? _ _ h.1)).trans h.1, h.2.trans (hb.mono h.2.size)⟩
theorem hp_new' {w W0 : World} {o : Obj} (h : w.alloc o = W0) : W0.heap[w.heap.size]? = some o := by subst h; exact heap_alloc_new _ _
theorem frozen_row {w : World} {b : Nat} {C : Array Value} {t : TypeId} (h : w.heap[b]? = some (.cells C t (0, 0))) (k : Nat) : w.frozen? ⟨b, k, none⟩ = false := by
  simp [World.frozen?, h]
def suL (s : Su) : List Value := [.int .i64 s.g, .int .i64 s.al, .int .i64 s.ad, .int .i64 s.ac, .int .i64 s.bl, .int .i64 s.bd, .int .i64 s.bc, .bool s.r, .int .i64 s.wi, .int .i64 s.ep, .int .i64 s.ou]
theorem suL_one (s : Su) : ∀ u ∈ suL s, u.oneCell' = true := by
  intro u hu
  simp only [suL, List.mem_cons, List.not_mem_nil, or_false] at hu
  rcases hu with rfl | rfl | rfl | rfl | rfl | rfl | rfl | rfl | rfl | rfl | rfl <;> rfl
theorem u8_one (x : UInt8) : ((x.toNat : Int) == 1) = ((x.toNat : Int) == 1) := rfl
set_option maxHeartbeats 4000000 in
theorem suFields_any (b off c : Nat) (bs : List UInt8) (w : World) (hbs : bs.length = 32) (hb : b < w.heap.size) (hc : 32 ≤ c) (hk : ∀ k, k < 32 → w.cell? ⟨b, off + k, none⟩ = some (.int .u8 ((bs.getD k 0).toNat : Int))) :
    Calls Tryd.prog 81 #[.slice (some ⟨b, off, none⟩) 32 c] w fun e w' => ∃ s, s = flds bs ∧ e = .returned (.agg #[.int .i64 s.g, .int .i64 s.al, .int .i64 s.ad, .int .i64 s.ac, .int .i64 s.bl, .int .i64 s.bd, .int .i64 s.bc, .bool s.r, .int .i64 s.wi, .int .i64 s.ep, .int .i64 s.ou]) ∧ Below w.heap.size w w' := by
  have F0 : Below w.heap.size w (w.alloc (.cells #[.int .i64 suZ.g, .int .i64 suZ.al, .int .i64 suZ.ad, .int .i64 suZ.ac, .int .i64 suZ.bl, .int .i64 suZ.bd, .int .i64 suZ.bc, .bool suZ.r, .int .i64 suZ.wi, .int .i64 suZ.ep, .int .i64 suZ.ou] 32)) := below1 w _
  have N1 : Hid (∀ (W : World) (k cp : Nat), k < 32 → Below w.heap.size w W → Calls Tryd.prog 89 #[.slice (some ⟨b, off + k, none⟩) 1 cp] W fun e w' => e = .returned (.int .i64 ((numB [bs.getD k 0] : Nat) : Int)) ∧ w' = W) :=
    Lib.hid fun W k cp h32 hW => suNumber_any b (off + k) cp 1 [bs.getD k 0] W rfl (by omega) fun j hj => by
      obtain rfl : j = 0 := by omega
      exact (hW.cell (p := ⟨b, off + k + 0, none⟩) hb).trans (hk k h32)
  have N2 : Hid (∀ (W : World) (cp : Nat), Below w.heap.size w W → Calls Tryd.prog 89 #[.slice (some ⟨b, off + 16, none⟩) 2 cp] W fun e w' => e = .returned (.int .i64 ((numB [bs.getD 16 0, bs.getD 17 0] : Nat) : Int)) ∧ w' = W) :=
    Lib.hid fun W cp hW => suNumber_any b (off + 16) cp 2 [bs.getD 16 0, bs.getD 17 0] W rfl (by omega) fun j hj => by
      rw [hW.cell (p := ⟨b, off + 16 + j, none⟩) hb, Nat.add_assoc]
      match j, hj with
      | 0, _ => exact hk 16 (by omega)
      | 1, _ => exact hk 17 (by omega)
  have N4 : Hid (∀ (W : World) (cp : Nat), Below w.heap.size w W → Calls Tryd.prog 89 #[.slice (some ⟨b, off + 4, none⟩) 4 cp] W fun e w' => e = .returned (.int .i64 ((numB [bs.getD 4 0, bs.getD 5 0, bs.getD 6 0, bs.getD 7 0] : Nat) : Int)) ∧ w' = W) :=
    Lib.hid fun W cp hW => suNumber_any b (off + 4) cp 4 [bs.getD 4 0, bs.getD 5 0, bs.getD 6 0, bs.getD 7 0] W rfl (by omega) fun j hj => by
      rw [hW.cell (p := ⟨b, off + 4 + j, none⟩) hb, Nat.add_assoc]
      match j, hj with
      | 0, _ => exact hk 4 (by omega)
      | 1, _ => exact hk 5 (by omega)
      | 2, _ => exact hk 6 (by omega)
      | 3, _ => exact hk 7 (by omega)
  have G : Hid (∀ (W : World) (k cp : Nat), k < 30 → 4 ≤ cp → Below w.heap.size w W → Calls Tryd.prog 90 #[.slice (some ⟨b, off + k, none⟩) 3 cp] W fun e w' => e = .returned (.agg #[.int .i64 ((numB [bs.getD k 0] : Nat) : Int), .int .i64 ((numB [bs.getD (k + 1) 0] : Nat) : Int), .int .i64 ((numB [bs.getD (k + 2) 0] : Nat) : Int)]) ∧ Below W.heap.size W w') :=
    Lib.hid fun W k cp h30 hcp hW => suGeomOf_any b (off + k) cp _ _ _ W (Nat.lt_of_lt_of_le hb hW.size) hcp ((hW.cell (p := ⟨b, off + k, none⟩) hb).trans (hk k (by omega)))
      ((hW.cell (p := ⟨b, off + k + 1, none⟩) hb).trans (by rw [Nat.add_assoc]; exact hk (k + 1) (by omega))) ((hW.cell (p := ⟨b, off + k + 2, none⟩) hb).trans (by rw [Nat.add_assoc]; exact hk (k + 2) (by omega)))
  have h14 : (w.alloc (.cells #[.int .i64 suZ.g, .int .i64 suZ.al, .int .i64 suZ.ad, .int .i64 suZ.ac, .int .i64 suZ.bl, .int .i64 suZ.bd, .int .i64 suZ.bc, .bool suZ.r, .int .i64 suZ.wi, .int .i64 suZ.ep, .int .i64 suZ.ou] 32)).cell? ⟨b, off + 14, none⟩ = some (.int .u8 ((bs.getD 14 0).toNat : Int)) := (F0.cell (p := ⟨b, off + 14, none⟩) hb).trans (hk 14 (by omega))
  have S0 : FS (w.alloc (.cells #[.int .i64 suZ.g, .int .i64 suZ.al, .int .i64 suZ.ad, .int .i64 suZ.ac, .int .i64 suZ.bl, .int .i64 suZ.bd, .int .i64 suZ.bc, .bool suZ.r, .int .i64 suZ.wi, .int .i64 suZ.ep, .int .i64 suZ.ou] 32)) b (off + 14) (bs.getD 14 0) (w.alloc (.cells #[.int .i64 suZ.g, .int .i64 suZ.al, .int .i64 suZ.ad, .int .i64 suZ.ac, .int .i64 suZ.bl, .int .i64 suZ.bd, .int .i64 suZ.bc, .bool suZ.r, .int .i64 suZ.wi, .int .i64 suZ.ep, .int .i64 suZ.ou] 32)) := ⟨h14, Below.refl _ _⟩
  clear h14 hk
  have i4 : ¬ c = 4 := by omega
  have i8 : ¬ c = 8 := by omega
  have i11 : ¬ c = 11 := by omega
  have i15 : ¬ c = 15 := by omega
  have i16 : ¬ c = 16 := by omega
  have i18 : ¬ c = 18 := by omega
  have j8 : (8 : Int) ≤ (c : Int) := by omega
  have j11 : (11 : Int) ≤ (c : Int) := by omega
  have j14 : (14 : Int) ≤ (c : Int) := by omega
  have j16 : (16 : Int) ≤ (c : Int) := by omega
  have j18 : (18 : Int) ≤ (c : Int) := by omega
  have j19 : (19 : Int) ≤ (c : Int) := by omega
  have HR := Lib.hid (show flds bs = ⟨((numB [bs.getD 4 0, bs.getD 5 0, bs.getD 6 0, bs.getD 7 0] : Nat) : Int), ((numB [bs.getD 8 0] : Nat) : Int), ((numB [bs.getD (8 + 1) 0] : Nat) : Int), ((numB [bs.getD (8 + 2) 0] : Nat) : Int), ((numB [bs.getD 11 0] : Nat) : Int), ((numB [bs.getD (11 + 1) 0] : Nat) : Int), ((numB [bs.getD (11 + 2) 0] : Nat) : Int),
    (((bs.getD 14 0).toNat : Int) == 1), ((numB [bs.getD 15 0] : Nat) : Int), ((numB [bs.getD 16 0, bs.getD 17 0] : Nat) : Int), ((numB [bs.getD 18 0] : Nat) : Int)⟩ from rfl)
  have c1 := Lib.hid fun W cp hW => N4.out W cp hW
  have c2 := Lib.hid fun W cp h hW => G.out W 8 cp (by omega) h hW
  have c3 := Lib.hid fun W cp h hW => G.out W 11 cp (by omega) h hW
  have c4 := Lib.hid fun W cp hW => N1.out W 15 cp (by omega) hW
  have c5 := Lib.hid fun W cp hW => N2.out W cp hW
  have c6 := Lib.hid fun W cp hW => N1.out W 18 cp (by omega) hW
  clear N1 N2 N4 G
  generalize flds bs = s at HR
  generalize ((numB [bs.getD 4 0, bs.getD 5 0, bs.getD 6 0, bs.getD 7 0] : Nat) : Int) = y0 at c1 HR
  generalize ((numB [bs.getD 8 0] : Nat) : Int) = y1 at c2 HR
  generalize ((numB [bs.getD (8 + 1) 0] : Nat) : Int) = y2 at c2 HR
  generalize ((numB [bs.getD (8 + 2) 0] : Nat) : Int) = y3 at c2 HR
  generalize ((numB [bs.getD 11 0] : Nat) : Int) = y4 at c3 HR
  generalize ((numB [bs.getD (11 + 1) 0] : Nat) : Int) = y5 at c3 HR
  generalize ((numB [bs.getD (11 + 2) 0] : Nat) : Int) = y6 at c3 HR
  generalize ((numB [bs.getD 15 0] : Nat) : Int) = y8 at c4 HR
  generalize ((numB [bs.getD 16 0, bs.getD 17 0] : Nat) : Int) = y9 at c5 HR
  generalize ((numB [bs.getD 18 0] : Nat) : Int) = y10 at c6 HR
  generalize bs.getD 14 0 = x14 at S0 HR
  have HF := Lib.hid F0
  generalize hW0 : w.alloc (.cells #[.int .i64 suZ.g, .int .i64 suZ.al, .int .i64 suZ.ad, .int .i64 suZ.ac, .int .i64 suZ.bl, .int .i64 suZ.bd, .int .i64 suZ.bc, .bool suZ.r, .int .i64 suZ.wi, .int .i64 suZ.ep, .int .i64 suZ.ou] 32) = W0 at S0 HF
  have hW0' : w.alloc (.cells #[.int .i64 0, .int .i64 0, .int .i64 0, .int .i64 0, .int .i64 0, .int .i64 0, .int .i64 0, .bool false, .int .i64 0, .int .i64 0, .int .i64 0] 32) = W0 := hW0
  clear hW0 F0 hbs
  have hz : w.heap.size < W0.heap.size := by rw [← hW0']; simp
  have Z0 : W0.heap[w.heap.size]? = some (.cells #[.int .i64 suZ.g, .int .i64 suZ.al, .int .i64 suZ.ad, .int .i64 suZ.ac, .int .i64 suZ.bl, .int .i64 suZ.bd, .int .i64 suZ.bc, .bool suZ.r, .int .i64 suZ.wi, .int .i64 suZ.ep, .int .i64 suZ.ou] 32 (0, 0)) := hp_new' hW0'
  go_enter Tryd.func81, Tryd.ntmps81
  go_wp2_with fail
  refine wp_region_noPanic (region_ord 23 [] (fun V => FS W0 b (off + 14) x14 V) (by kernel_rfl) (by kernel_rfl) (fun _ _ _ _ _ h => h) fun R => ?_)
  change anyI _ _ _ _ _ _ 24 _ _ W0.drew
  have HS0 := Lib.hid (show (fun V => FS W0 b (off + 14) x14 V) W0.drew from S0.drew)
  refine' anyI_take R 0 rfl (v := ?_) (by kernel_rfl) (by rfl) (fun V hV => ?hy) HS0.out ?_
  case hy => ((try dsimp only at hV);  obtain ⟨q1, _⟩ := hV; go_simp; try with_reducible rfl)
  try simp only [Act.put, List.getElem_toArray, List.getElem_cons_succ, List.getElem_cons_zero, List.setIfInBounds_toArray, List.set_cons_zero, List.set_cons_succ]
  refine' anyI_take R 1 rfl (v := ?_) (by kernel_rfl) (by rfl) (fun V hV => ?hy) HS0.out ?_
  case hy => ((try dsimp only at hV);  obtain ⟨q1, _⟩ := hV; go_simp; try with_reducible rfl)
  try simp only [Act.put, List.getElem_toArray, List.getElem_cons_succ, List.getElem_cons_zero, List.setIfInBounds_toArray, List.set_cons_zero, List.set_cons_succ]
  refine' anyI_take R 3 rfl (v := ?_) (by kernel_rfl) (by rfl) (fun V hV => ?hy) HS0.out ?_
  case hy => ((try dsimp only at hV);  obtain ⟨q1, _⟩ := hV; go_simp; try with_reducible rfl)
  try simp only [Act.put, List.getElem_toArray, List.getElem_cons_succ, List.getElem_cons_zero, List.setIfInBounds_toArray, List.set_cons_zero, List.set_cons_succ]
  refine' anyI_take R 4 rfl (v := ?_) (by kernel_rfl) (by rfl) (fun V hV => ?hy) HS0.out ?_
  case hy => ((try dsimp only at hV);  obtain ⟨q1, _⟩ := hV; go_simp; try with_reducible rfl)
  try simp only [Act.put, List.getElem_toArray, List.getElem_cons_succ, List.getElem_cons_zero, List.setIfInBounds_toArray, List.set_cons_zero, List.set_cons_succ]
  refine' anyI_take R 6 rfl (v := ?_) (by kernel_rfl) (by rfl) (fun V hV => ?hy) HS0.out ?_
  case hy => ((try dsimp only at hV);  obtain ⟨q1, _⟩ := hV; go_simp; try with_reducible rfl)
  try simp only [Act.put, List.getElem_toArray, List.getElem_cons_succ, List.getElem_cons_zero, List.setIfInBounds_toArray, List.set_cons_zero, List.set_cons_succ]
  refine' anyI_take R 7 rfl (v := ?_) (by kernel_rfl) (by rfl) (fun V hV => ?hy) HS0.out ?_
  case hy => ((try dsimp only at hV);  obtain ⟨q1, _⟩ := hV; go_simp; try with_reducible rfl)
  try simp only [Act.put, List.getElem_toArray, List.getElem_cons_succ, List.getElem_cons_zero, List.setIfInBounds_toArray, List.set_cons_zero, List.set_cons_succ]
  refine' anyI_take R 9 rfl (v := ?_) (by kernel_rfl) (by rfl) (fun V hV => ?hy) HS0.out ?_
  case hy => ((try dsimp only at hV);  obtain ⟨q1, _⟩ := hV; go_simp; try with_reducible rfl)
  try simp only [Act.put, List.getElem_toArray, List.getElem_cons_succ, List.getElem_cons_zero, List.setIfInBounds_toArray, List.set_cons_zero, List.set_cons_succ]
  refine' anyI_take R 10 rfl (v := ?_) (by kernel_rfl) (by rfl) (fun V hV => ?hy) HS0.out ?_
  case hy => ((try dsimp only at hV);  obtain ⟨q1, _⟩ := hV; go_simp; try with_reducible rfl)
  try simp only [Act.put, List.getElem_toArray, List.getElem_cons_succ, List.getElem_cons_zero, List.setIfInBounds_toArray, List.set_cons_zero, List.set_cons_succ]
  refine' anyI_take R 11 rfl (v := ?_) (by kernel_rfl) (by rfl) (fun V hV => ?hy) HS0.out ?_
  case hy => ((try dsimp only at hV);  obtain ⟨q1, _⟩ := hV; go_simp; try with_reducible rfl)
  try simp only [Act.put, List.getElem_toArray, List.getElem_cons_succ, List.getElem_cons_zero, List.setIfInBounds_toArray, List.set_cons_zero, List.set_cons_succ]
  refine' anyI_take R 12 rfl (v := ?_) (by kernel_rfl) (by rfl) (fun V hV => ?hy) HS0.out ?_
  case hy => ((try dsimp only at hV);  obtain ⟨q1, _⟩ := hV; go_simp; try with_reducible rfl)
  try simp only [Act.put, List.getElem_toArray, List.getElem_cons_succ, List.getElem_cons_zero, List.setIfInBounds_toArray, List.set_cons_zero, List.set_cons_succ]
  refine' anyI_take R 13 rfl (v := ?_) (by kernel_rfl) (by rfl) (fun V hV => ?hy) HS0.out ?_
  case hy => ((try dsimp only at hV);  obtain ⟨q1, _⟩ := hV; go_simp; try with_reducible rfl)
  try simp only [Act.put, List.getElem_toArray, List.getElem_cons_succ, List.getElem_cons_zero, List.setIfInBounds_toArray, List.set_cons_zero, List.set_cons_succ]
  refine' anyI_take R 14 rfl (v := ?_) (by kernel_rfl) (by rfl) (fun V hV => ?hy) HS0.out ?_
  case hy => ((try dsimp only at hV);  obtain ⟨q1, _⟩ := hV; go_simp; try with_reducible rfl)
  try simp only [Act.put, List.getElem_toArray, List.getElem_cons_succ, List.getElem_cons_zero, List.setIfInBounds_toArray, List.set_cons_zero, List.set_cons_succ]
  refine' anyI_take R 16 rfl (v := ?_) (by kernel_rfl) (by rfl) (fun V hV => ?hy) HS0.out ?_
  case hy => ((try dsimp only at hV);  obtain ⟨q1, _⟩ := hV; go_simp; try with_reducible rfl)
  try simp only [Act.put, List.getElem_toArray, List.getElem_cons_succ, List.getElem_cons_zero, List.setIfInBounds_toArray, List.set_cons_zero, List.set_cons_succ]
  refine' anyI_take R 17 rfl (v := ?_) (by kernel_rfl) (by rfl) (fun V hV => ?hy) HS0.out ?_
  case hy => ((try dsimp only at hV);  obtain ⟨q1, _⟩ := hV; go_simp; try with_reducible rfl)
  try simp only [Act.put, List.getElem_toArray, List.getElem_cons_succ, List.getElem_cons_zero, List.setIfInBounds_toArray, List.set_cons_zero, List.set_cons_succ]
  refine' anyI_take R 19 rfl (v := ?_) (by kernel_rfl) (by rfl) (fun V hV => ?hy) HS0.out ?_
  case hy => ((try dsimp only at hV);  obtain ⟨q1, _⟩ := hV; go_simp; try with_reducible rfl)
  try simp only [Act.put, List.getElem_toArray, List.getElem_cons_succ, List.getElem_cons_zero, List.setIfInBounds_toArray, List.set_cons_zero, List.set_cons_succ]
  refine' anyI_take R 20 rfl (v := ?_) (by kernel_rfl) (by rfl) (fun V hV => ?hy) HS0.out ?_
  case hy => ((try dsimp only at hV);  obtain ⟨q1, _⟩ := hV; go_simp; try with_reducible rfl)
  try simp only [Act.put, List.getElem_toArray, List.getElem_cons_succ, List.getElem_cons_zero, List.setIfInBounds_toArray, List.set_cons_zero, List.set_cons_succ]
  refine anyI_one 2 (by kernel_rfl) rfl ?_
  try simp only [List.getElem_toArray, List.getElem_cons_succ, List.getElem_cons_zero]
  refine opE_step ?_
  rw [if_pos (by rfl)]
  go_simp
  go_at_call 89
  refine (c1.out _ _ (HF.out.trans (HS0.out.2.mono (Nat.le_of_lt hz)))).mono ?_
  rintro e wx ⟨rfl, rfl⟩
  dsimp only
  refine ⟨HS0.out, ?_⟩
  try simp only [Act.put, List.getElem_toArray, List.getElem_cons_succ, List.getElem_cons_zero, List.setIfInBounds_toArray, List.set_cons_zero, List.set_cons_succ]
  refine anyI_one 5 (by kernel_rfl) rfl ?_
  try simp only [List.getElem_toArray, List.getElem_cons_succ, List.getElem_cons_zero]
  refine opE_step ?_
  rw [if_pos (by rfl)]
  go_simp
  go_at_call 90
  refine (c2.out _ _ (by omega) (HF.out.trans (HS0.out.2.mono (Nat.le_of_lt hz)))).mono ?_
  rintro e wx ⟨rfl, hb⟩
  replace HS0 := Lib.hid (FS.later HS0.out hb)
  clear hb
  dsimp only
  refine ⟨HS0.out, ?_⟩
  try simp only [Act.put, List.getElem_toArray, List.getElem_cons_succ, List.getElem_cons_zero, List.setIfInBounds_toArray, List.set_cons_zero, List.set_cons_succ]
  refine anyI_one 8 (by kernel_rfl) rfl ?_
  try simp only [List.getElem_toArray, List.getElem_cons_succ, List.getElem_cons_zero]
  refine opE_step ?_
  rw [if_pos (by rfl)]
  go_simp
  go_at_call 90
  refine (c3.out _ _ (by omega) (HF.out.trans (HS0.out.2.mono (Nat.le_of_lt hz)))).mono ?_
  rintro e wx ⟨rfl, hb⟩
  replace HS0 := Lib.hid (FS.later HS0.out hb)
  clear hb
  dsimp only
  refine ⟨HS0.out, ?_⟩
  try simp only [Act.put, List.getElem_toArray, List.getElem_cons_succ, List.getElem_cons_zero, List.setIfInBounds_toArray, List.set_cons_zero, List.set_cons_succ]
  refine anyI_one 15 (by kernel_rfl) rfl ?_
  try simp only [List.getElem_toArray, List.getElem_cons_succ, List.getElem_cons_zero]
  refine opE_step ?_
  rw [if_pos (by rfl)]
  go_simp
  go_at_call 89
  refine (c4.out _ _ (HF.out.trans (HS0.out.2.mono (Nat.le_of_lt hz)))).mono ?_
  rintro e wx ⟨rfl, rfl⟩
  dsimp only
  refine ⟨HS0.out, ?_⟩
  try simp only [Act.put, List.getElem_toArray, List.getElem_cons_succ, List.getElem_cons_zero, List.setIfInBounds_toArray, List.set_cons_zero, List.set_cons_succ]
  refine anyI_one 18 (by kernel_rfl) rfl ?_
  try simp only [List.getElem_toArray, List.getElem_cons_succ, List.getElem_cons_zero]
  refine opE_step ?_
  rw [if_pos (by rfl)]
  go_simp
  go_at_call 89
  refine (c5.out _ _ (HF.out.trans (HS0.out.2.mono (Nat.le_of_lt hz)))).mono ?_
  rintro e wx ⟨rfl, rfl⟩
  dsimp only
  refine ⟨HS0.out, ?_⟩
  try simp only [Act.put, List.getElem_toArray, List.getElem_cons_succ, List.getElem_cons_zero, List.setIfInBounds_toArray, List.set_cons_zero, List.set_cons_succ]
  refine anyI_one 21 (by kernel_rfl) rfl ?_
  try simp only [List.getElem_toArray, List.getElem_cons_succ, List.getElem_cons_zero]
  refine opE_step ?_
  rw [if_pos (by rfl)]
  go_simp
  go_at_call 89
  refine (c6.out _ _ (HF.out.trans (HS0.out.2.mono (Nat.le_of_lt hz)))).mono ?_
  rintro e wx ⟨rfl, rfl⟩
  dsimp only
  refine ⟨HS0.out, ?_⟩
  try simp only [Act.put, List.getElem_toArray, List.getElem_cons_succ, List.getElem_cons_zero, List.setIfInBounds_toArray, List.set_cons_zero, List.set_cons_succ]
  refine' anyI_take R 22 rfl (v := ?_) (by kernel_rfl) (by rfl) (fun V hV => ?hy) HS0.out ?_
  case hy => ((try dsimp only at hV);  obtain ⟨q1, _⟩ := hV; go_simp; try with_reducible rfl)
  try simp only [Act.put, List.getElem_toArray, List.getElem_cons_succ, List.getElem_cons_zero, List.setIfInBounds_toArray, List.set_cons_zero, List.set_cons_succ]
  refine anyI_tail (by kernel_rfl) ?_
  try simp only [List.drop_succ_cons, List.drop_zero]
  clear R
  have Hb : wx.heap[w.heap.size]? = some (.cells #[.int .i64 suZ.g, .int .i64 suZ.al, .int .i64 suZ.ad, .int .i64 suZ.ac, .int .i64 suZ.bl, .int .i64 suZ.bd, .int .i64 suZ.bc, .bool suZ.r, .int .i64 suZ.wi, .int .i64 suZ.ep, .int .i64 suZ.ou] 32 (0, 0)) := (HS0.out.2.block _ hz).trans Z0
  have HB2 : Below w.heap.size w wx := HF.out.trans (HS0.out.2.mono (Nat.le_of_lt hz))
  clear c1 c2 c3 c4 c5 c6
  refine wpList_store_blk rfl 32 _ _ (by rfl) w.heap.size 0 (.agg (suL s).toArray) (by rfl) (by rw [HR.out]; rfl) (suL suZ) 32 Hb (suL s) rfl 11 rfl (by kernel_rfl) (by decide) (suL_one s) (suL s) (by rfl) ?_
  intro w3 h3 g3
  have F3 : Below w.heap.size w w3 := HB2.grown g3 HB2.size (fun j e => by injection e with e; omega)
  obtain ⟨z0, z1, z2, z3, z4, z5, z6, z7, z8, z9, z10⟩ := sat_block (s := s) h3
  clear HS0 Hb HB2 h3 g3 HF hz Z0 S0 HR
  go_wp2_with fail
  refine NoPanic.normal ?_
  go_wp2_with fail
  refine bodyPost_ret (v := .agg #[.int .i64 s.g, .int .i64 s.al, .int .i64 s.ad, .int .i64 s.ac, .int .i64 s.bl, .int .i64 s.bd, .int .i64 s.bc, .bool s.r, .int .i64 s.wi, .int .i64 s.ep, .int .i64 s.ou]) (by simp [results, Tryd.results81, go_sem, z0, z1, z2, z3, z4, z5, z6, z7, z8, z9, z10]) rfl ⟨s, rfl, rfl, F3⟩
end Go.Proofs.YtiipdhmfdgbmiaaDoor
end
