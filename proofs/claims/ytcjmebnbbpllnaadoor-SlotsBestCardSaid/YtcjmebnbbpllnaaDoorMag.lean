/- Texts put together: SupBox, SupNum, OrdSkip, SupFld, SupPut, Geo, SupPutG. -/
import Derived.Test.YtcjmebnbbpllnaaDoorProg
import Derived.Test.YtcjmebnbbpllnaaDoorMaa
import Derived.Test.YtcjmebnbbpllnaaDoorMaf
import Derived.StillTailTactics
import Derived.Test.YtcjmebnbbpllnaaDoorMae
section
set_option linter.unusedVariables false
set_option linter.unusedSimpArgs false
namespace Go.Proofs.YtcjmebnbbpllnaaDoor
open Go.RowKit

/-- The block holds this Super. -/
abbrev SAt (w : World) (b : Nat) (s : Su) : Prop :=
  w.cell? ⟨b, 0, none⟩ = some (.int .i64 s.g) ∧ w.cell? ⟨b, 1, none⟩ = some (.int .i64 s.al) ∧ w.cell? ⟨b, 2, none⟩ = some (.int .i64 s.ad) ∧ w.cell? ⟨b, 3, none⟩ = some (.int .i64 s.ac)
  ∧ w.cell? ⟨b, 4, none⟩ = some (.int .i64 s.bl) ∧ w.cell? ⟨b, 5, none⟩ = some (.int .i64 s.bd) ∧ w.cell? ⟨b, 6, none⟩ = some (.int .i64 s.bc) ∧ w.cell? ⟨b, 7, none⟩ = some (.bool s.r)
  ∧ w.cell? ⟨b, 8, none⟩ = some (.int .i64 s.wi) ∧ w.cell? ⟨b, 9, none⟩ = some (.int .i64 s.ep) ∧ w.cell? ⟨b, 10, none⟩ = some (.int .i64 s.ou)
theorem sat_block {w : World} {b : Nat} {s : Su} {t : TypeId} {f : Nat × Nat} (h : w.heap[b]? = some (.cells #[.int .i64 s.g, .int .i64 s.al, .int .i64 s.ad, .int .i64 s.ac, .int .i64 s.bl, .int .i64 s.bd, .int .i64 s.bc, .bool s.r, .int .i64 s.wi, .int .i64 s.ep, .int .i64 s.ou] t f)) : SAt w b s :=
  ⟨cell_of_row _ _ 0 _ _ _ h, cell_of_row _ _ 1 _ _ _ h, cell_of_row _ _ 2 _ _ _ h, cell_of_row _ _ 3 _ _ _ h, cell_of_row _ _ 4 _ _ _ h, cell_of_row _ _ 5 _ _ _ h, cell_of_row _ _ 6 _ _ _ h, cell_of_row _ _ 7 _ _ _ h, cell_of_row _ _ 8 _ _ _ h, cell_of_row _ _ 9 _ _ _ h, cell_of_row _ _ 10 _ _ _ h⟩
theorem sat_new (w : World) (s : Su) (t : TypeId) (f : Nat × Nat) : SAt (w.alloc (.cells #[.int .i64 s.g, .int .i64 s.al, .int .i64 s.ad, .int .i64 s.ac, .int .i64 s.bl, .int .i64 s.bd, .int .i64 s.bc, .bool s.r, .int .i64 s.wi, .int .i64 s.ep, .int .i64 s.ou] t f)) w.heap.size s := sat_block (heap_alloc_new w _)
theorem SAt.keep {w w' : World} {b : Nat} {s : Su} (h : SAt w b s) (hk : ∀ k, w'.cell? ⟨b, k, none⟩ = w.cell? ⟨b, k, none⟩) : SAt w' b s := by
  obtain ⟨h0, h1, h2, h3, h4, h5, h6, h7, h8, h9, h10⟩ := h
  exact ⟨(hk 0).trans h0, (hk 1).trans h1, (hk 2).trans h2, (hk 3).trans h3, (hk 4).trans h4, (hk 5).trans h5, (hk 6).trans h6, (hk 7).trans h7, (hk 8).trans h8, (hk 9).trans h9, (hk 10).trans h10⟩
theorem SAt.below {w w' : World} {b B : Nat} {s : Su} (h : SAt w b s) (hb : Below B w w') (hB : b < B) : SAt w' b s := h.keep fun k => hb.cell (p := ⟨b, k, none⟩) hB
theorem SAt.lt {w : World} {b : Nat} {s : Su} (h : SAt w b s) : b < w.heap.size := World.block_lt_of_cell? _ _ h.1
/-- What stays while callees make memory. -/
def SS (w0 : World) (B b : Nat) (s : Su) (W : World) : Prop := SAt W b s ∧ Below B w0 W ∧ b < W.heap.size
theorem SS.later {w0 W W' : World} {B b : Nat} {s : Su} (h : SS w0 B b s W) (hb : Below W.heap.size W W') (hB : B ≤ w0.heap.size := by exact Nat.le_refl _) : SS w0 B b s W' :=
  ⟨h.1.below hb h.2.2, h.2.1.trans (hb.mono (Nat.le_trans hB h.2.1.size)), Nat.lt_of_lt_of_le h.2.2 hb.size⟩
theorem SS.drew {w0 W : World} {B b : Nat} {s : Su} (h : SS w0 B b s W) : SS w0 B b s W.drew := ⟨h.1, h.2.1.drew, h.2.2⟩
theorem ss_new (w : World) (s : Su) (t : TypeId) (f : Nat × Nat) : SS w w.heap.size w.heap.size s (w.alloc (.cells #[.int .i64 s.g, .int .i64 s.al, .int .i64 s.ad, .int .i64 s.ac, .int .i64 s.bl, .int .i64 s.bd, .int .i64 s.bc, .bool s.r, .int .i64 s.wi, .int .i64 s.ep, .int .i64 s.ou] t f)) := ⟨sat_new w s t f, below1 w _, by simp⟩
end Go.Proofs.YtcjmebnbbpllnaaDoor
end
section
set_option linter.unusedVariables false
set_option linter.unusedSimpArgs false
set_option maxRecDepth 8000
namespace Go.Proofs.YtcjmebnbbpllnaaDoor
open Go.RowKit

theorem i64_or_nat (a b : Nat) (ha : a < 4611686018427387904) (hb : b < 4611686018427387904) : bits .or .i64 (a : Int) (b : Int) = ((a ||| b : Nat) : Int) := by
  have hx : a ||| b < 2 ^ 62 := Nat.or_lt_two_pow (by omega) (by omega)
  have e1 : ∀ x : Nat, x < 4611686018427387904 → (BitVec.ofInt 64 (x : Int)).toNat = x := fun x h => by
    rw [BitVec.ofInt_natCast, BitVec.toNat_ofNat]; exact Nat.mod_eq_of_lt (by omega)
  show IntKind.i64.wrap ((BitVec.ofInt 64 (a : Int) ||| BitVec.ofInt 64 (b : Int)).toNat : Int) = _
  rw [BitVec.toNat_or, e1 a ha, e1 b hb]
  exact IntWalk.i64_in _ (by omega)
theorem or_byte (m : Nat) (c : UInt8) (hm : m < 4294967296) : bits .or .i64 ((m : Int) * 256) (c.toNat : Int) = ((m * 256 + c.toNat : Nat) : Int) := by
  have hc : c.toNat < 256 := c.toNat_lt
  have h := i64_or_nat (m * 256) c.toNat (by omega) (by omega)
  rw [← show 2 ^ 8 * m + c.toNat = m * 256 ||| c.toNat by rw [Nat.two_pow_add_eq_or_of_lt (i := 8) hc]; rw [Nat.mul_comm]] at h
  rw [show ((m * 256 : Nat) : Int) = (m : Int) * 256 by omega] at h
  rw [h]; omega
theorem numB_snoc (xs : List UInt8) (k : Nat) (h : k < xs.length) : numB (xs.take (k + 1)) = numB (xs.take k) * 256 + (xs.getD k 0).toNat := foldl_snoc (fun (n : Nat) (x : UInt8) => n * 256 + x.toNat) 0 xs 0 k h
theorem numB_lt (xs : List UInt8) : ∀ k, k ≤ xs.length → k ≤ 4 → numB (xs.take k) < 4294967296 ∧ (k ≤ 3 → numB (xs.take k) < 16777216) := by
  have b : ∀ c : UInt8, c.toNat < 256 := fun c => c.toNat_lt
  have h0 : numB (xs.take 0) = 0 := rfl
  intro k hk h4
  have s0 : 0 < xs.length → numB (xs.take 1) = numB (xs.take 0) * 256 + (xs.getD 0 0).toNat := numB_snoc xs 0
  have s1 : 1 < xs.length → numB (xs.take 2) = numB (xs.take 1) * 256 + (xs.getD 1 0).toNat := numB_snoc xs 1
  have s2 : 2 < xs.length → numB (xs.take 3) = numB (xs.take 2) * 256 + (xs.getD 2 0).toNat := numB_snoc xs 2
  have s3 : 3 < xs.length → numB (xs.take 4) = numB (xs.take 3) * 256 + (xs.getD 3 0).toNat := numB_snoc xs 3
  have b0 := b (xs.getD 0 0)
  have b1 := b (xs.getD 1 0)
  have b2 := b (xs.getD 2 0)
  have b3 := b (xs.getD 3 0)
  match k, h4 with
  | 0, _ => omega
  | 1, _ => have := s0 (by omega); omega
  | 2, _ => have := s0 (by omega); have := s1 (by omega); omega
  | 3, _ => have := s0 (by omega); have := s1 (by omega); have := s2 (by omega); omega
  | 4, _ => have := s0 (by omega); have := s1 (by omega); have := s2 (by omega); have := s3 (by omega); omega
set_option maxHeartbeats 1000000 in
theorem suNumber_any (b off c n : Nat) (xs : List UInt8) (w : World) (hn : xs.length = n) (h4 : n ≤ 4) (hc : ∀ k, k < n → w.cell? ⟨b, off + k, none⟩ = some (.int .u8 ((xs.getD k 0).toNat : Int))) :
    Calls Tryd.prog 88 #[.slice (some ⟨b, off, none⟩) n c] w fun e w' => e = .returned (.int .i64 ((numB xs : Nat) : Int)) ∧ w' = w := by
  have HL := Lib.hid (numB_lt xs)
  have HS := Lib.hid (numB_snoc xs)
  have HT := Lib.hid (show numB (xs.take n) = numB xs by rw [← hn, List.take_length])
  have Hn := Lib.hid hn
  have HC := Lib.hid hc
  clear hn hc
  go_enter Tryd.func88, Tryd.ntmps88
  go_wp2
  go_loop [3, 8] (fun v i => ∃ k : Nat, k ≤ n ∧ i = .int .i64 k ∧ v = .int .i64 ((numB (xs.take k) : Nat) : Int)) (fun _ i => n - (intOf i).toNat)
  case atStart => exact ⟨0, Nat.zero_le _, rfl, rfl⟩
  case round =>
    obtain ⟨k, hk, rfl, rfl⟩ := hrel
    have hy := HL.out k (by rw [Hn.out]; exact hk) (by omega)
    by_cases hlt : k < n
    · have h1 := HC.out k hlt
      have Hsn := Lib.hid (HS.out k (by rw [Hn.out]; exact hlt))
      generalize xs.getD k 0 = x at h1 Hsn
      generalize numB (xs.take k) = y at hy Hsn
      have eo := or_byte y x hy.1
      have hx : x.toNat < 256 := x.toNat_lt
      go_wp2
      go_round
      case rel => exact ⟨k + 1, by omega, by go_num, by rw [Hsn.out]; exact congrArg (Value.int .i64) (by omega)⟩
      case measure => simp [intOf]; omega
    · obtain rfl : k = n := by omega
      go_wp2
      go_ret
      exact ⟨by rw [← HT.out]; rfl, rfl⟩
theorem suGeomOf_any (b off c : Nat) (x0 x1 x2 : UInt8) (w : World) (hb : b < w.heap.size) (hc : 4 ≤ c) (h0 : w.cell? ⟨b, off, none⟩ = some (.int .u8 (x0.toNat : Int))) (h1 : w.cell? ⟨b, off + 1, none⟩ = some (.int .u8 (x1.toNat : Int))) (h2 : w.cell? ⟨b, off + 2, none⟩ = some (.int .u8 (x2.toNat : Int))) :
    Calls Tryd.prog 89 #[.slice (some ⟨b, off, none⟩) 3 c] w fun e w' => e = .returned (.agg #[.int .i64 ((numB [x0] : Nat) : Int), .int .i64 ((numB [x1] : Nat) : Int), .int .i64 ((numB [x2] : Nat) : Int)]) ∧ Below w.heap.size w w' := by
  have N : Hid (∀ (W : World) (o cp : Nat) (x : UInt8), Below w.heap.size w W → w.cell? ⟨b, o, none⟩ = some (.int .u8 (x.toNat : Int)) → Calls Tryd.prog 88 #[.slice (some ⟨b, o, none⟩) 1 cp] W fun e w' => e = .returned (.int .i64 ((numB [x] : Nat) : Int)) ∧ w' = W) :=
    Lib.hid fun W o cp x hW hx => suNumber_any b o cp 1 [x] W rfl (by omega) fun k hk => by
      obtain rfl : k = 0 := by omega
      exact (hW.cell (p := ⟨b, o + 0, none⟩) hb).trans hx
  have j1 : (1 : Int) ≤ (c : Int) := by omega
  have j2 : (2 : Int) ≤ (c : Int) := by omega
  have j3 : (3 : Int) ≤ (c : Int) := by omega
  have i1 : ¬ c = 1 := by omega
  have i2 : ¬ c = 2 := by omega
  have F := (below1 w (.cells #[.int .i64 0, .int .i64 0, .int .i64 0] 30))
  have hF := hp_new w (.cells #[.int .i64 0, .int .i64 0, .int .i64 0] 30) w.heap.size rfl
  generalize hW0 : w.alloc (.cells #[.int .i64 0, .int .i64 0, .int .i64 0] 30) = W0 at F hF
  have n0 := Lib.hid fun cp => N.out W0.drew _ cp x0 F.drew h0
  have n1 := Lib.hid fun cp => N.out W0.drew _ cp x1 F.drew h1
  have n2 := Lib.hid fun cp => N.out W0.drew _ cp x2 F.drew h2
  clear N h0 h1 h2
  generalize ((numB [x0] : Nat) : Int) = y0 at n0
  generalize ((numB [x1] : Nat) : Int) = y1 at n1
  generalize ((numB [x2] : Nat) : Int) = y2 at n2
  have HF := Lib.hid F
  have HH := Lib.hid hF
  clear F hF
  go_enter Tryd.func89, Tryd.ntmps89
  go_wp2_with fail
  refine wp_region_still_tail 10 (by kernel_rfl) (by kernel_rfl) ?_
  simp only [List.take_succ_cons, List.take_zero, List.drop_succ_cons, List.drop_zero]
  change wpStill _ _ W0.drew _ _ _
  generalize hwd : W0.drew = wd at n0 n1 n2 ⊢
  have Hwd := Lib.hid hwd
  clear hwd
  repeat still_step
  still_call (n0.out _)
  repeat still_step
  still_call (n1.out _)
  repeat still_step
  still_call (n2.out _)
  repeat still_step
  refine wpStill_nil ?_
  change wpList _ _ _ _ _ W0.drew
  clear n0 n1 n2 Hwd HF HH
  subst hW0
  go_wp2
  refine bodyPost_ret (v := .agg #[.int .i64 y0, .int .i64 y1, .int .i64 y2]) (by simp [results, Tryd.results89, go_sem]) rfl ⟨rfl, ?_⟩
  exact (below1 _ _).drew
end Go.Proofs.YtcjmebnbbpllnaaDoor
end
section
namespace Go.Proofs.YtcjmebnbbpllnaaDoor
open Go.RowKit

section
variable {P : Program} {ops : Array Oper} {Q : Exit → Act → World → Prop} {S : World → Prop} {n : Nat} {ex : List Nat}
theorem anyI_skip (R : Reg ops Q) (i : Nat) {oi : Oper} {f : Nat} {listed : Array Bool} {a : Act} {w : World} (hi : ops[i]? = some oi) (hB : ((Region.ready .any ops listed).contains i && Region.free .any ops listed i && waitB ops n ex listed i) = true)
    (hw : Region.wanted oi (yielded ops a.tmps) = false) (hS : S w) (h : anyI P ops Q S n ex f (listed.setIfInBounds i true) (a.put oi.dst undef) w) : anyI P ops Q S n ex (f + 1) listed a w := fun inv => by
  simp only [Bool.and_eq_true] at hB
  obtain ⟨⟨hr, hf⟩, hW⟩ := hB
  have hr' : i ∈ Region.ready .any ops listed := by simpa using hr
  refine anyH_first (g := ops.size) hi R.sel (fun c a w h => R.panic c a _ _ w h) f listed a w inv (fun j hj hun => ?_) (Region.free_spec hi hf) hr' (.inr ⟨hw, rfl⟩) hS (h (inv.set hr'))
  rcases Nat.lt_or_ge j ops.size with hlt | hge
  · have h1 := List.all_eq_true.1 hW j (List.mem_range.2 hlt)
    simpa [hj, hun] using h1
  · rw [← inv.size] at hge
    simp [Array.getElem?_eq_none hge] at hun
end
end Go.Proofs.YtcjmebnbbpllnaaDoor
end
section
set_option linter.unusedVariables false
set_option linter.unusedSimpArgs false
namespace Go.Proofs.YtcjmebnbbpllnaaDoor
open Go.RowKit

/-- What stays while callees make memory: a byte, and all below. -/
abbrev FS (W0 : World) (b o : Nat) (x : UInt8) (W : World) : Prop := W.cell? ⟨b, o, none⟩ = some (.int .u8 (x.toNat : Int)) ∧ Below W0.heap.size W0 W
theorem FS.drew {W0 W : World} {b o : Nat} {x : UInt8} (h : FS W0 b o x W) : FS W0 b o x W.drew := ⟨h.1, h.2.drew⟩
theorem FS.later {W0 W W' : World} {b o : Nat} {x : UInt8} (h : FS W0 b o x W) (hb : Below W.heap.size W W') : FS W0 b o x W' :=
  ⟨(hb.cell (p := ⟨b, o, none⟩) (World.block_lt_of_cell? _ _ h.1)).trans h.1, h.2.trans (hb.mono h.2.size)⟩
theorem hp_new' {w W0 : World} {o : Obj} (h : w.alloc o = W0) : W0.heap[w.heap.size]? = some o := by subst h; exact heap_alloc_new _ _
theorem frozen_row {w : World} {b : Nat} {C : Array Value} {t : TypeId} (h : w.heap[b]? = some (.cells C t (0, 0))) (k : Nat) : w.frozen? ⟨b, k, none⟩ = false := by
  simp [World.frozen?, h]
def suL (s : Su) : List Value := [.int .i64 s.g, .int .i64 s.al, .int .i64 s.ad, .int .i64 s.ac, .int .i64 s.bl, .int .i64 s.bd, .int .i64 s.bc, .bool s.r, .int .i64 s.wi, .int .i64 s.ep, .int .i64 s.ou]
theorem suL_one (s : Su) : ∀ u ∈ suL s, u.oneCell' = true := by
  intro u hu
  simp only [suL, List.mem_cons, List.not_mem_nil, or_false] at hu
  rcases hu with rfl | rfl | rfl | rfl | rfl | rfl | rfl | rfl | rfl | rfl | rfl <;> rfl
theorem u8_one (x : UInt8) : ((x.toNat : Int) == 1) = ((x.toNat : Int) == 1) := rfl
set_option maxHeartbeats 4000000 in
theorem suFields_any (b off c : Nat) (bs : List UInt8) (w : World) (hbs : bs.length = 32) (hb : b < w.heap.size) (hc : 32 ≤ c) (hk : ∀ k, k < 32 → w.cell? ⟨b, off + k, none⟩ = some (.int .u8 ((bs.getD k 0).toNat : Int))) :
    Calls Tryd.prog 80 #[.slice (some ⟨b, off, none⟩) 32 c] w fun e w' => ∃ s, s = flds bs ∧ e = .returned (.agg #[.int .i64 s.g, .int .i64 s.al, .int .i64 s.ad, .int .i64 s.ac, .int .i64 s.bl, .int .i64 s.bd, .int .i64 s.bc, .bool s.r, .int .i64 s.wi, .int .i64 s.ep, .int .i64 s.ou]) ∧ Below w.heap.size w w' := by
  have F0 : Below w.heap.size w (w.alloc (.cells #[.int .i64 suZ.g, .int .i64 suZ.al, .int .i64 suZ.ad, .int .i64 suZ.ac, .int .i64 suZ.bl, .int .i64 suZ.bd, .int .i64 suZ.bc, .bool suZ.r, .int .i64 suZ.wi, .int .i64 suZ.ep, .int .i64 suZ.ou] 32)) := below1 w _
  have N1 : Hid (∀ (W : World) (k cp : Nat), k < 32 → Below w.heap.size w W → Calls Tryd.prog 88 #[.slice (some ⟨b, off + k, none⟩) 1 cp] W fun e w' => e = .returned (.int .i64 ((numB [bs.getD k 0] : Nat) : Int)) ∧ w' = W) :=
    Lib.hid fun W k cp h32 hW => suNumber_any b (off + k) cp 1 [bs.getD k 0] W rfl (by omega) fun j hj => by
      obtain rfl : j = 0 := by omega
      exact (hW.cell (p := ⟨b, off + k + 0, none⟩) hb).trans (hk k h32)
  have N2 : Hid (∀ (W : World) (cp : Nat), Below w.heap.size w W → Calls Tryd.prog 88 #[.slice (some ⟨b, off + 16, none⟩) 2 cp] W fun e w' => e = .returned (.int .i64 ((numB [bs.getD 16 0, bs.getD 17 0] : Nat) : Int)) ∧ w' = W) :=
    Lib.hid fun W cp hW => suNumber_any b (off + 16) cp 2 [bs.getD 16 0, bs.getD 17 0] W rfl (by omega) fun j hj => by
      rw [hW.cell (p := ⟨b, off + 16 + j, none⟩) hb, Nat.add_assoc]
      match j, hj with
      | 0, _ => exact hk 16 (by omega)
      | 1, _ => exact hk 17 (by omega)
  have N4 : Hid (∀ (W : World) (cp : Nat), Below w.heap.size w W → Calls Tryd.prog 88 #[.slice (some ⟨b, off + 4, none⟩) 4 cp] W fun e w' => e = .returned (.int .i64 ((numB [bs.getD 4 0, bs.getD 5 0, bs.getD 6 0, bs.getD 7 0] : Nat) : Int)) ∧ w' = W) :=
    Lib.hid fun W cp hW => suNumber_any b (off + 4) cp 4 [bs.getD 4 0, bs.getD 5 0, bs.getD 6 0, bs.getD 7 0] W rfl (by omega) fun j hj => by
      rw [hW.cell (p := ⟨b, off + 4 + j, none⟩) hb, Nat.add_assoc]
      match j, hj with
      | 0, _ => exact hk 4 (by omega)
      | 1, _ => exact hk 5 (by omega)
      | 2, _ => exact hk 6 (by omega)
      | 3, _ => exact hk 7 (by omega)
  have G : Hid (∀ (W : World) (k cp : Nat), k < 30 → 4 ≤ cp → Below w.heap.size w W → Calls Tryd.prog 89 #[.slice (some ⟨b, off + k, none⟩) 3 cp] W fun e w' => e = .returned (.agg #[.int .i64 ((numB [bs.getD k 0] : Nat) : Int), .int .i64 ((numB [bs.getD (k + 1) 0] : Nat) : Int), .int .i64 ((numB [bs.getD (k + 2) 0] : Nat) : Int)]) ∧ Below W.heap.size W w') :=
    Lib.hid fun W k cp h30 hcp hW => suGeomOf_any b (off + k) cp _ _ _ W (Nat.lt_of_lt_of_le hb hW.size) hcp ((hW.cell (p := ⟨b, off + k, none⟩) hb).trans (hk k (by omega)))
      ((hW.cell (p := ⟨b, off + k + 1, none⟩) hb).trans (by rw [Nat.add_assoc]; exact hk (k + 1) (by omega))) ((hW.cell (p := ⟨b, off + k + 2, none⟩) hb).trans (by rw [Nat.add_assoc]; exact hk (k + 2) (by omega)))
  have h14 : (w.alloc (.cells #[.int .i64 suZ.g, .int .i64 suZ.al, .int .i64 suZ.ad, .int .i64 suZ.ac, .int .i64 suZ.bl, .int .i64 suZ.bd, .int .i64 suZ.bc, .bool suZ.r, .int .i64 suZ.wi, .int .i64 suZ.ep, .int .i64 suZ.ou] 32)).cell? ⟨b, off + 14, none⟩ = some (.int .u8 ((bs.getD 14 0).toNat : Int)) := (F0.cell (p := ⟨b, off + 14, none⟩) hb).trans (hk 14 (by omega))
  have S0 : FS (w.alloc (.cells #[.int .i64 suZ.g, .int .i64 suZ.al, .int .i64 suZ.ad, .int .i64 suZ.ac, .int .i64 suZ.bl, .int .i64 suZ.bd, .int .i64 suZ.bc, .bool suZ.r, .int .i64 suZ.wi, .int .i64 suZ.ep, .int .i64 suZ.ou] 32)) b (off + 14) (bs.getD 14 0) (w.alloc (.cells #[.int .i64 suZ.g, .int .i64 suZ.al, .int .i64 suZ.ad, .int .i64 suZ.ac, .int .i64 suZ.bl, .int .i64 suZ.bd, .int .i64 suZ.bc, .bool suZ.r, .int .i64 suZ.wi, .int .i64 suZ.ep, .int .i64 suZ.ou] 32)) := ⟨h14, Below.refl _ _⟩
  clear h14 hk
  have i4 : ¬ c = 4 := by omega
  have i8 : ¬ c = 8 := by omega
  have i11 : ¬ c = 11 := by omega
  have i15 : ¬ c = 15 := by omega
  have i16 : ¬ c = 16 := by omega
  have i18 : ¬ c = 18 := by omega
  have j8 : (8 : Int) ≤ (c : Int) := by omega
  have j11 : (11 : Int) ≤ (c : Int) := by omega
  have j14 : (14 : Int) ≤ (c : Int) := by omega
  have j16 : (16 : Int) ≤ (c : Int) := by omega
  have j18 : (18 : Int) ≤ (c : Int) := by omega
  have j19 : (19 : Int) ≤ (c : Int) := by omega
  have HR := Lib.hid (show flds bs = ⟨((numB [bs.getD 4 0, bs.getD 5 0, bs.getD 6 0, bs.getD 7 0] : Nat) : Int), ((numB [bs.getD 8 0] : Nat) : Int), ((numB [bs.getD (8 + 1) 0] : Nat) : Int), ((numB [bs.getD (8 + 2) 0] : Nat) : Int), ((numB [bs.getD 11 0] : Nat) : Int), ((numB [bs.getD (11 + 1) 0] : Nat) : Int), ((numB [bs.getD (11 + 2) 0] : Nat) : Int),
    (((bs.getD 14 0).toNat : Int) == 1), ((numB [bs.getD 15 0] : Nat) : Int), ((numB [bs.getD 16 0, bs.getD 17 0] : Nat) : Int), ((numB [bs.getD 18 0] : Nat) : Int)⟩ from rfl)
  have c1 := Lib.hid fun W cp hW => N4.out W cp hW
  have c2 := Lib.hid fun W cp h hW => G.out W 8 cp (by omega) h hW
  have c3 := Lib.hid fun W cp h hW => G.out W 11 cp (by omega) h hW
  have c4 := Lib.hid fun W cp hW => N1.out W 15 cp (by omega) hW
  have c5 := Lib.hid fun W cp hW => N2.out W cp hW
  have c6 := Lib.hid fun W cp hW => N1.out W 18 cp (by omega) hW
  clear N1 N2 N4 G
  generalize flds bs = s at HR
  generalize ((numB [bs.getD 4 0, bs.getD 5 0, bs.getD 6 0, bs.getD 7 0] : Nat) : Int) = y0 at c1 HR
  generalize ((numB [bs.getD 8 0] : Nat) : Int) = y1 at c2 HR
  generalize ((numB [bs.getD (8 + 1) 0] : Nat) : Int) = y2 at c2 HR
  generalize ((numB [bs.getD (8 + 2) 0] : Nat) : Int) = y3 at c2 HR
  generalize ((numB [bs.getD 11 0] : Nat) : Int) = y4 at c3 HR
  generalize ((numB [bs.getD (11 + 1) 0] : Nat) : Int) = y5 at c3 HR
  generalize ((numB [bs.getD (11 + 2) 0] : Nat) : Int) = y6 at c3 HR
  generalize ((numB [bs.getD 15 0] : Nat) : Int) = y8 at c4 HR
  generalize ((numB [bs.getD 16 0, bs.getD 17 0] : Nat) : Int) = y9 at c5 HR
  generalize ((numB [bs.getD 18 0] : Nat) : Int) = y10 at c6 HR
  generalize bs.getD 14 0 = x14 at S0 HR
  have HF := Lib.hid F0
  generalize hW0 : w.alloc (.cells #[.int .i64 suZ.g, .int .i64 suZ.al, .int .i64 suZ.ad, .int .i64 suZ.ac, .int .i64 suZ.bl, .int .i64 suZ.bd, .int .i64 suZ.bc, .bool suZ.r, .int .i64 suZ.wi, .int .i64 suZ.ep, .int .i64 suZ.ou] 32) = W0 at S0 HF
  have hW0' : w.alloc (.cells #[.int .i64 0, .int .i64 0, .int .i64 0, .int .i64 0, .int .i64 0, .int .i64 0, .int .i64 0, .bool false, .int .i64 0, .int .i64 0, .int .i64 0] 32) = W0 := hW0
  clear hW0 F0 hbs
  have hz : w.heap.size < W0.heap.size := by rw [← hW0']; simp
  have Z0 : W0.heap[w.heap.size]? = some (.cells #[.int .i64 suZ.g, .int .i64 suZ.al, .int .i64 suZ.ad, .int .i64 suZ.ac, .int .i64 suZ.bl, .int .i64 suZ.bd, .int .i64 suZ.bc, .bool suZ.r, .int .i64 suZ.wi, .int .i64 suZ.ep, .int .i64 suZ.ou] 32 (0, 0)) := hp_new' hW0'
  go_enter Tryd.func80, Tryd.ntmps80
  go_wp2_with fail
  refine wp_region_noPanic (region_ord 23 [] (fun V => FS W0 b (off + 14) x14 V) (by kernel_rfl) (by kernel_rfl) (fun _ _ _ _ _ h => h) fun R => ?_)
  change anyI _ _ _ _ _ _ 24 _ _ W0.drew
  have HS0 := Lib.hid (show (fun V => FS W0 b (off + 14) x14 V) W0.drew from S0.drew)
  refine' anyI_take R 0 rfl (v := ?_) (by kernel_rfl) (by rfl) (fun V hV => ?hy) HS0.out ?_
  case hy => ((try dsimp only at hV);  obtain ⟨q1, _⟩ := hV; go_simp; try with_reducible rfl)
  try simp only [Act.put, List.getElem_toArray, List.getElem_cons_succ, List.getElem_cons_zero, List.setIfInBounds_toArray, List.set_cons_zero, List.set_cons_succ]
  refine' anyI_take R 1 rfl (v := ?_) (by kernel_rfl) (by rfl) (fun V hV => ?hy) HS0.out ?_
  case hy => ((try dsimp only at hV);  obtain ⟨q1, _⟩ := hV; go_simp; try with_reducible rfl)
  try simp only [Act.put, List.getElem_toArray, List.getElem_cons_succ, List.getElem_cons_zero, List.setIfInBounds_toArray, List.set_cons_zero, List.set_cons_succ]
  refine' anyI_take R 3 rfl (v := ?_) (by kernel_rfl) (by rfl) (fun V hV => ?hy) HS0.out ?_
  case hy => ((try dsimp only at hV);  obtain ⟨q1, _⟩ := hV; go_simp; try with_reducible rfl)
  try simp only [Act.put, List.getElem_toArray, List.getElem_cons_succ, List.getElem_cons_zero, List.setIfInBounds_toArray, List.set_cons_zero, List.set_cons_succ]
  refine' anyI_take R 4 rfl (v := ?_) (by kernel_rfl) (by rfl) (fun V hV => ?hy) HS0.out ?_
  case hy => ((try dsimp only at hV);  obtain ⟨q1, _⟩ := hV; go_simp; try with_reducible rfl)
  try simp only [Act.put, List.getElem_toArray, List.getElem_cons_succ, List.getElem_cons_zero, List.setIfInBounds_toArray, List.set_cons_zero, List.set_cons_succ]
  refine' anyI_take R 6 rfl (v := ?_) (by kernel_rfl) (by rfl) (fun V hV => ?hy) HS0.out ?_
  case hy => ((try dsimp only at hV);  obtain ⟨q1, _⟩ := hV; go_simp; try with_reducible rfl)
  try simp only [Act.put, List.getElem_toArray, List.getElem_cons_succ, List.getElem_cons_zero, List.setIfInBounds_toArray, List.set_cons_zero, List.set_cons_succ]
  refine' anyI_take R 7 rfl (v := ?_) (by kernel_rfl) (by rfl) (fun V hV => ?hy) HS0.out ?_
  case hy => ((try dsimp only at hV);  obtain ⟨q1, _⟩ := hV; go_simp; try with_reducible rfl)
  try simp only [Act.put, List.getElem_toArray, List.getElem_cons_succ, List.getElem_cons_zero, List.setIfInBounds_toArray, List.set_cons_zero, List.set_cons_succ]
  refine' anyI_take R 9 rfl (v := ?_) (by kernel_rfl) (by rfl) (fun V hV => ?hy) HS0.out ?_
  case hy => ((try dsimp only at hV);  obtain ⟨q1, _⟩ := hV; go_simp; try with_reducible rfl)
  try simp only [Act.put, List.getElem_toArray, List.getElem_cons_succ, List.getElem_cons_zero, List.setIfInBounds_toArray, List.set_cons_zero, List.set_cons_succ]
  refine' anyI_take R 10 rfl (v := ?_) (by kernel_rfl) (by rfl) (fun V hV => ?hy) HS0.out ?_
  case hy => ((try dsimp only at hV);  obtain ⟨q1, _⟩ := hV; go_simp; try with_reducible rfl)
  try simp only [Act.put, List.getElem_toArray, List.getElem_cons_succ, List.getElem_cons_zero, List.setIfInBounds_toArray, List.set_cons_zero, List.set_cons_succ]
  refine' anyI_take R 11 rfl (v := ?_) (by kernel_rfl) (by rfl) (fun V hV => ?hy) HS0.out ?_
  case hy => ((try dsimp only at hV);  obtain ⟨q1, _⟩ := hV; go_simp; try with_reducible rfl)
  try simp only [Act.put, List.getElem_toArray, List.getElem_cons_succ, List.getElem_cons_zero, List.setIfInBounds_toArray, List.set_cons_zero, List.set_cons_succ]
  refine' anyI_take R 12 rfl (v := ?_) (by kernel_rfl) (by rfl) (fun V hV => ?hy) HS0.out ?_
  case hy => ((try dsimp only at hV);  obtain ⟨q1, _⟩ := hV; go_simp; try with_reducible rfl)
  try simp only [Act.put, List.getElem_toArray, List.getElem_cons_succ, List.getElem_cons_zero, List.setIfInBounds_toArray, List.set_cons_zero, List.set_cons_succ]
  refine' anyI_take R 13 rfl (v := ?_) (by kernel_rfl) (by rfl) (fun V hV => ?hy) HS0.out ?_
  case hy => ((try dsimp only at hV);  obtain ⟨q1, _⟩ := hV; go_simp; try with_reducible rfl)
  try simp only [Act.put, List.getElem_toArray, List.getElem_cons_succ, List.getElem_cons_zero, List.setIfInBounds_toArray, List.set_cons_zero, List.set_cons_succ]
  refine' anyI_take R 14 rfl (v := ?_) (by kernel_rfl) (by rfl) (fun V hV => ?hy) HS0.out ?_
  case hy => ((try dsimp only at hV);  obtain ⟨q1, _⟩ := hV; go_simp; try with_reducible rfl)
  try simp only [Act.put, List.getElem_toArray, List.getElem_cons_succ, List.getElem_cons_zero, List.setIfInBounds_toArray, List.set_cons_zero, List.set_cons_succ]
  refine' anyI_take R 16 rfl (v := ?_) (by kernel_rfl) (by rfl) (fun V hV => ?hy) HS0.out ?_
  case hy => ((try dsimp only at hV);  obtain ⟨q1, _⟩ := hV; go_simp; try with_reducible rfl)
  try simp only [Act.put, List.getElem_toArray, List.getElem_cons_succ, List.getElem_cons_zero, List.setIfInBounds_toArray, List.set_cons_zero, List.set_cons_succ]
  refine' anyI_take R 17 rfl (v := ?_) (by kernel_rfl) (by rfl) (fun V hV => ?hy) HS0.out ?_
  case hy => ((try dsimp only at hV);  obtain ⟨q1, _⟩ := hV; go_simp; try with_reducible rfl)
  try simp only [Act.put, List.getElem_toArray, List.getElem_cons_succ, List.getElem_cons_zero, List.setIfInBounds_toArray, List.set_cons_zero, List.set_cons_succ]
  refine' anyI_take R 19 rfl (v := ?_) (by kernel_rfl) (by rfl) (fun V hV => ?hy) HS0.out ?_
  case hy => ((try dsimp only at hV);  obtain ⟨q1, _⟩ := hV; go_simp; try with_reducible rfl)
  try simp only [Act.put, List.getElem_toArray, List.getElem_cons_succ, List.getElem_cons_zero, List.setIfInBounds_toArray, List.set_cons_zero, List.set_cons_succ]
  refine' anyI_take R 20 rfl (v := ?_) (by kernel_rfl) (by rfl) (fun V hV => ?hy) HS0.out ?_
  case hy => ((try dsimp only at hV);  obtain ⟨q1, _⟩ := hV; go_simp; try with_reducible rfl)
  try simp only [Act.put, List.getElem_toArray, List.getElem_cons_succ, List.getElem_cons_zero, List.setIfInBounds_toArray, List.set_cons_zero, List.set_cons_succ]
  refine anyI_one 2 (by kernel_rfl) rfl ?_
  try simp only [List.getElem_toArray, List.getElem_cons_succ, List.getElem_cons_zero]
  refine opE_step ?_
  rw [if_pos (by rfl)]
  go_simp
  go_at_call 88
  refine (c1.out _ _ (HF.out.trans (HS0.out.2.mono (Nat.le_of_lt hz)))).mono ?_
  rintro e wx ⟨rfl, rfl⟩
  dsimp only
  refine ⟨HS0.out, ?_⟩
  try simp only [Act.put, List.getElem_toArray, List.getElem_cons_succ, List.getElem_cons_zero, List.setIfInBounds_toArray, List.set_cons_zero, List.set_cons_succ]
  refine anyI_one 5 (by kernel_rfl) rfl ?_
  try simp only [List.getElem_toArray, List.getElem_cons_succ, List.getElem_cons_zero]
  refine opE_step ?_
  rw [if_pos (by rfl)]
  go_simp
  go_at_call 89
  refine (c2.out _ _ (by omega) (HF.out.trans (HS0.out.2.mono (Nat.le_of_lt hz)))).mono ?_
  rintro e wx ⟨rfl, hb⟩
  replace HS0 := Lib.hid (FS.later HS0.out hb)
  clear hb
  dsimp only
  refine ⟨HS0.out, ?_⟩
  try simp only [Act.put, List.getElem_toArray, List.getElem_cons_succ, List.getElem_cons_zero, List.setIfInBounds_toArray, List.set_cons_zero, List.set_cons_succ]
  refine anyI_one 8 (by kernel_rfl) rfl ?_
  try simp only [List.getElem_toArray, List.getElem_cons_succ, List.getElem_cons_zero]
  refine opE_step ?_
  rw [if_pos (by rfl)]
  go_simp
  go_at_call 89
  refine (c3.out _ _ (by omega) (HF.out.trans (HS0.out.2.mono (Nat.le_of_lt hz)))).mono ?_
  rintro e wx ⟨rfl, hb⟩
  replace HS0 := Lib.hid (FS.later HS0.out hb)
  clear hb
  dsimp only
  refine ⟨HS0.out, ?_⟩
  try simp only [Act.put, List.getElem_toArray, List.getElem_cons_succ, List.getElem_cons_zero, List.setIfInBounds_toArray, List.set_cons_zero, List.set_cons_succ]
  refine anyI_one 15 (by kernel_rfl) rfl ?_
  try simp only [List.getElem_toArray, List.getElem_cons_succ, List.getElem_cons_zero]
  refine opE_step ?_
  rw [if_pos (by rfl)]
  go_simp
  go_at_call 88
  refine (c4.out _ _ (HF.out.trans (HS0.out.2.mono (Nat.le_of_lt hz)))).mono ?_
  rintro e wx ⟨rfl, rfl⟩
  dsimp only
  refine ⟨HS0.out, ?_⟩
  try simp only [Act.put, List.getElem_toArray, List.getElem_cons_succ, List.getElem_cons_zero, List.setIfInBounds_toArray, List.set_cons_zero, List.set_cons_succ]
  refine anyI_one 18 (by kernel_rfl) rfl ?_
  try simp only [List.getElem_toArray, List.getElem_cons_succ, List.getElem_cons_zero]
  refine opE_step ?_
  rw [if_pos (by rfl)]
  go_simp
  go_at_call 88
  refine (c5.out _ _ (HF.out.trans (HS0.out.2.mono (Nat.le_of_lt hz)))).mono ?_
  rintro e wx ⟨rfl, rfl⟩
  dsimp only
  refine ⟨HS0.out, ?_⟩
  try simp only [Act.put, List.getElem_toArray, List.getElem_cons_succ, List.getElem_cons_zero, List.setIfInBounds_toArray, List.set_cons_zero, List.set_cons_succ]
  refine anyI_one 21 (by kernel_rfl) rfl ?_
  try simp only [List.getElem_toArray, List.getElem_cons_succ, List.getElem_cons_zero]
  refine opE_step ?_
  rw [if_pos (by rfl)]
  go_simp
  go_at_call 88
  refine (c6.out _ _ (HF.out.trans (HS0.out.2.mono (Nat.le_of_lt hz)))).mono ?_
  rintro e wx ⟨rfl, rfl⟩
  dsimp only
  refine ⟨HS0.out, ?_⟩
  try simp only [Act.put, List.getElem_toArray, List.getElem_cons_succ, List.getElem_cons_zero, List.setIfInBounds_toArray, List.set_cons_zero, List.set_cons_succ]
  refine' anyI_take R 22 rfl (v := ?_) (by kernel_rfl) (by rfl) (fun V hV => ?hy) HS0.out ?_
  case hy => ((try dsimp only at hV);  obtain ⟨q1, _⟩ := hV; go_simp; try with_reducible rfl)
  try simp only [Act.put, List.getElem_toArray, List.getElem_cons_succ, List.getElem_cons_zero, List.setIfInBounds_toArray, List.set_cons_zero, List.set_cons_succ]
  refine anyI_tail (by kernel_rfl) ?_
  try simp only [List.drop_succ_cons, List.drop_zero]
  clear R
  have Hb : wx.heap[w.heap.size]? = some (.cells #[.int .i64 suZ.g, .int .i64 suZ.al, .int .i64 suZ.ad, .int .i64 suZ.ac, .int .i64 suZ.bl, .int .i64 suZ.bd, .int .i64 suZ.bc, .bool suZ.r, .int .i64 suZ.wi, .int .i64 suZ.ep, .int .i64 suZ.ou] 32 (0, 0)) := (HS0.out.2.block _ hz).trans Z0
  have HB2 : Below w.heap.size w wx := HF.out.trans (HS0.out.2.mono (Nat.le_of_lt hz))
  clear c1 c2 c3 c4 c5 c6
  refine wpList_store_blk rfl 32 _ _ (by rfl) w.heap.size 0 (.agg (suL s).toArray) (by rfl) (by rw [HR.out]; rfl) (suL suZ) 32 Hb (suL s) rfl 11 rfl (by kernel_rfl) (by decide) (suL_one s) (suL s) (by rfl) ?_
  intro w3 h3 g3
  have F3 : Below w.heap.size w w3 := HB2.grown g3 HB2.size (fun j e => by injection e with e; omega)
  obtain ⟨z0, z1, z2, z3, z4, z5, z6, z7, z8, z9, z10⟩ := sat_block (s := s) h3
  clear HS0 Hb HB2 h3 g3 HF hz Z0 S0 HR
  go_wp2_with fail
  refine NoPanic.normal ?_
  go_wp2_with fail
  refine bodyPost_ret (v := .agg #[.int .i64 s.g, .int .i64 s.al, .int .i64 s.ad, .int .i64 s.ac, .int .i64 s.bl, .int .i64 s.bd, .int .i64 s.bc, .bool s.r, .int .i64 s.wi, .int .i64 s.ep, .int .i64 s.ou]) (by simp [results, Tryd.results80, go_sem, z0, z1, z2, z3, z4, z5, z6, z7, z8, z9, z10]) rfl ⟨s, rfl, rfl, F3⟩
end Go.Proofs.YtcjmebnbbpllnaaDoor
end
section
set_option linter.unusedVariables false
set_option linter.unusedSimpArgs false
namespace Go.Proofs.YtcjmebnbbpllnaaDoor
open Go.RowKit

/-- Bytes off .. off + len - 1 set to the lowest k bytes of n, from the last one on. -/
def putK (bs : List UInt8) (off len : Nat) (n : Int) (k : Nat) : List UInt8 := (List.range k).foldl (fun l i => l.set (off + (len - 1 - i)) (byN n i)) bs
theorem putK_succ (bs : List UInt8) (off len : Nat) (n : Int) (k : Nat) : putK bs off len n (k + 1) = (putK bs off len n k).set (off + (len - 1 - k)) (byN n k) := by
  unfold putK; rw [List.range_succ, List.foldl_append]; rfl
theorem putK_len (bs : List UInt8) (off len : Nat) (n : Int) (k : Nat) : (putK bs off len n k).length = bs.length := by
  induction k with
  | zero => rfl
  | succ k ih => rw [putK_succ, List.length_set, ih]
theorem byN_wrap (n : Int) (hn : 0 ≤ n) (k : Nat) (hk : k < 4) : n / 2 ^ (8 * k) % 256 = ((byN n k).toNat : Int) := by
  obtain ⟨m, rfl⟩ := Int.eq_ofNat_of_zero_le hn
  match k, hk with
  | 0, _ => simp only [byN, UInt8.toNat_ofNat']; omega
  | 1, _ => simp only [byN, UInt8.toNat_ofNat']; omega
  | 2, _ => simp only [byN, UInt8.toNat_ofNat']; omega
  | 3, _ => simp only [byN, UInt8.toNat_ofNat']; omega
set_option maxHeartbeats 1000000 in
theorem suPut_any (g off len cap cap0 B : Nat) (n : Int) (bs : List UInt8) (w : World) (hn : 0 ≤ n ∧ n ≤ 2147483647) (h : OwB 5 w B (.slice (some ⟨g, 0, none⟩) 32 cap0) bs) (hbs : bs.length = 32) (hl : off + len ≤ 32) (h4 : len ≤ 4) (hc : len ≤ cap) :
    Calls Tryd.prog 59 #[.slice (some ⟨g, off, none⟩) len cap, .int .i64 n] w fun e w' => e = .returned (.tuple #[]) ∧ OwB 5 w' B (.slice (some ⟨g, 0, none⟩) 32 cap0) (putK bs off len n len) ∧ w.grownBy w' (some g) := by
  go_enter Tryd.func59, Tryd.ntmps59
  go_wp2
  go_loopw [7] (fun i wr => ∃ k : Nat, k ≤ len ∧ i = .int .i64 k ∧ OwB 5 wr B (.slice (some ⟨g, 0, none⟩) 32 cap0) (putK bs off len n k) ∧ w.grownBy wr (some g)) (fun i _ => len - (intOf i).toNat)
  case atStart => exact ⟨0, by omega, rfl, h, World.grownBy.refl w _⟩
  case round =>
    obtain ⟨k, hk, rfl, hown, hgr⟩ := hrel
    by_cases hlt : k < len
    · obtain ⟨hc1, hf⟩ := hown.cell ((putK_len bs off len n k).trans hbs) (off + (len - 1 - k)) (by omega)
      have Hset := Lib.hid (hown.set ((putK_len bs off len n k).trans hbs) (off + (len - 1 - k)) (byN n k))
      rw [← putK_succ] at Hset
      have Hb := byN_wrap n hn.1 k (by omega)
      go_wp2
      go_roundw
      case rel => exact ⟨k + 1, by omega, by go_num, Hset.out.1, hgr.trans Hset.out.2⟩
      case measure => simp [intOf]; omega
    · obtain rfl : k = len := by omega
      go_wp2
      go_end0
      exact ⟨rfl, hown, hgr⟩
end Go.Proofs.YtcjmebnbbpllnaaDoor
end
section
namespace Go.Proofs.YtcjmebnbbpllnaaDoor
open Go.RowKit

theorem gret_int {k : IntKind} {a b : Int} (h : a = b) : Ending.returned (.int k a) = .returned (.int k b) := by rw [h]

theorem leveled_any (l d c : Int) (w : World) (hl : -9223372036854775808 ≤ l ∧ l ≤ 9223372036854775807) (hd : -9223372036854775808 ≤ d ∧ d ≤ 9223372036854775807) (_ : -9223372036854775808 ≤ c ∧ c ≤ 9223372036854775807) :
    Calls Tryd.prog 84 #[.agg #[.int .i64 l, .int .i64 d, .int .i64 c]] w fun e w' => e = .returned (.bool (lvB l d)) ∧ Below w.heap.size w w' := by
  by_cases h8 : 8 < d
  · have H : Hid (lvB l d = false) := lvB_no (by omega)
    go_enter Tryd.func84, Tryd.ntmps84
    go_wp2
    go_ret
    exact ⟨by rw [H.out]; rfl, below1 _ _⟩
  · by_cases h5 : l = 5
    · subst h5
      have H : Hid (lvB 5 d = decide (3 ≤ d)) := lvB_5 (by omega)
      go_enter Tryd.func84, Tryd.ntmps84
      go_wp2
      go_ret
      exact ⟨by rw [H.out]; rfl, below1 _ _⟩
    · have e5 : (l == 5) = false := by simpa using h5
      by_cases h6 : l = 6
      · subst h6
        have H : Hid (lvB 6 d = decide (4 ≤ d)) := lvB_6 (by omega)
        go_enter Tryd.func84, Tryd.ntmps84
        go_wp2
        go_ret
        exact ⟨by rw [H.out]; rfl, below1 _ _⟩
      · have e6 : (l == 6) = false := by simpa using h6
        have H : Hid (lvB l d = false) := lvB_no (by omega)
        go_enter Tryd.func84, Tryd.ntmps84
        go_wp2
        go_ret
        exact ⟨by rw [H.out]; rfl, below1 _ _⟩
theorem chunked_any (l d c : Int) (w : World) (_ : -9223372036854775808 ≤ l ∧ l ≤ 9223372036854775807) (_ : -9223372036854775808 ≤ d ∧ d ≤ 9223372036854775807) (_ : -9223372036854775808 ≤ c ∧ c ≤ 9223372036854775807) :
    Calls Tryd.prog 85 #[.agg #[.int .i64 l, .int .i64 d, .int .i64 c]] w fun e w' => e = .returned (.bool (chB c)) ∧ Below w.heap.size w w' := by
  by_cases h1 : c = 1
  · subst h1
    have H : Hid (chB 1 = true) := chB_yes (by omega)
    go_enter Tryd.func85, Tryd.ntmps85
    go_wp2
    go_ret
    exact ⟨by rw [H.out]; rfl, below1 _ _⟩
  · have e1 : (c == 1) = false := by simpa using h1
    by_cases h2 : c = 2
    · subst h2
      have H : Hid (chB 2 = true) := chB_yes (by omega)
      go_enter Tryd.func85, Tryd.ntmps85
      go_wp2
      go_ret
      exact ⟨by rw [H.out]; rfl, below1 _ _⟩
    · have e2 : (c == 2) = false := by simpa using h2
      by_cases h4 : c = 4
      · subst h4
        have H : Hid (chB 4 = true) := chB_yes (by omega)
        go_enter Tryd.func85, Tryd.ntmps85
        go_wp2
        go_ret
        exact ⟨by rw [H.out]; rfl, below1 _ _⟩
      · have e4 : (c == 4) = false := by simpa using h4
        have H : Hid (chB c = false) := chB_no (by omega)
        go_enter Tryd.func85, Tryd.ntmps85
        go_wp2
        go_ret
        exact ⟨by rw [H.out]; rfl, below1 _ _⟩

/-- The block holds this geometry. -/
def GAt (w : World) (b : Nat) (l d c : Int) : Prop := w.cell? ⟨b, 0, none⟩ = some (.int .i64 l) ∧ w.cell? ⟨b, 1, none⟩ = some (.int .i64 d) ∧ w.cell? ⟨b, 2, none⟩ = some (.int .i64 c)
theorem gat_new (w : World) (l d c : Int) (t : TypeId) (f : Nat × Nat) : GAt (w.alloc (.cells #[.int .i64 l, .int .i64 d, .int .i64 c] t f)) w.heap.size l d c :=
  ⟨cell_of_row _ _ 0 _ _ _ (heap_alloc_new w _), cell_of_row _ _ 1 _ _ _ (heap_alloc_new w _), cell_of_row _ _ 2 _ _ _ (heap_alloc_new w _)⟩
theorem GAt.below {w w' : World} {b B : Nat} {l d c : Int} (h : GAt w b l d c) (hb : Below B w w') (hB : b < B) : GAt w' b l d c :=
  ⟨(hb.cell (p := ⟨b, 0, none⟩) hB).trans h.1, (hb.cell (p := ⟨b, 1, none⟩) hB).trans h.2.1, (hb.cell (p := ⟨b, 2, none⟩) hB).trans h.2.2⟩
/-- What stays while callees make memory: a box, and all below B. -/
abbrev GS (w0 : World) (B b : Nat) (l d c : Int) (W : World) : Prop := W.cell? ⟨b, 0, none⟩ = some (.int .i64 l) ∧ W.cell? ⟨b, 1, none⟩ = some (.int .i64 d) ∧ W.cell? ⟨b, 2, none⟩ = some (.int .i64 c) ∧ Below B w0 W
theorem GS.drew {w0 W : World} {B b : Nat} {l d c : Int} (h : GS w0 B b l d c W) : GS w0 B b l d c W.drew := ⟨h.1, h.2.1, h.2.2.1, h.2.2.2.drew⟩
theorem GS.later {w0 W W' : World} {B b : Nat} {l d c : Int} (h : GS w0 B b l d c W) (hb : Below W.heap.size W W') (hB : B ≤ w0.heap.size := by exact Nat.le_refl _) : GS w0 B b l d c W' := by
  obtain ⟨h1, h2, h3, F⟩ := h
  have hl := World.block_lt_of_cell? _ _ h1
  obtain ⟨a1, a2, a3⟩ := GAt.below ⟨h1, h2, h3⟩ hb hl
  exact ⟨a1, a2, a3, F.trans (hb.mono (Nat.le_trans hB F.size))⟩
theorem check_any (l d c : Int) (w : World) (hl : -9223372036854775808 ≤ l ∧ l ≤ 9223372036854775807) (hd : -9223372036854775808 ≤ d ∧ d ≤ 9223372036854775807) (hc : -9223372036854775808 ≤ c ∧ c ≤ 9223372036854775807) :
    Calls Tryd.prog 76 #[.agg #[.int .i64 l, .int .i64 d, .int .i64 c]] w fun e w' => e = .returned (.int .i64 (gErr l d c)) ∧ Below w.heap.size w w' := by
  cases hL : lvB l d
  · have H : Hid (gOk l d c = false) := by unfold gOk; rw [hL]; rfl
    have HL := Lib.hid hL
    clear hL
    go_enter Tryd.func76, Tryd.ntmps76
    go_wp2_with fail
    (with_reducible refine (leveled_any l d c _ hl hd hc).mono ?_); rintro e w1 ⟨rfl, hb⟩
    rw [HL.out]
    have F := (below1 w _).trans (hb.mono (by simp))
    clear hb
    go_wp2_with fail
    go_ret
    exact ⟨by rw [gErr_no H.out]; rfl, F⟩
  · have H : Hid (gOk l d c = chB c) := by unfold gOk; rw [hL]; rfl
    have HL := Lib.hid hL
    clear hL
    have G := gat_new w l d c 30 (0, 0)
    go_enter Tryd.func76, Tryd.ntmps76
    go_wp2_with fail
    (with_reducible refine (leveled_any l d c _ hl hd hc).mono ?_); rintro e w1 ⟨rfl, hb⟩
    rw [HL.out]
    have F := (below1 w _).trans (hb.mono (by simp))
    obtain ⟨g1, g2, g3⟩ := G.below hb (by simp)
    clear hb
    go_wp2_with fail
    (with_reducible refine (chunked_any l d c _ hl hd hc).mono ?_); rintro e w2 ⟨rfl, hb⟩
    rw [← H.out]
    have F2 := F.trans (hb.mono F.size)
    clear hb F
    cases hG : gOk l d c
    all_goals
      have HG := Lib.hid hG
      clear hG
      go_wp2_with fail
      go_ret
      exact ⟨by first | (rw [gErr_no HG.out]; rfl) | (rw [gErr_yes HG.out]; rfl), F2⟩
theorem check_yes (l d c : Int) (w : World) (h : Hid (gOk l d c = true)) (hl : -9223372036854775808 ≤ l ∧ l ≤ 9223372036854775807) (hd : -9223372036854775808 ≤ d ∧ d ≤ 9223372036854775807) (hc : -9223372036854775808 ≤ c ∧ c ≤ 9223372036854775807) :
    Calls Tryd.prog 76 #[.agg #[.int .i64 l, .int .i64 d, .int .i64 c]] w fun e w' => e = .returned (.int .i64 0) ∧ Below w.heap.size w w' := by
  have := check_any l d c w hl hd hc
  rwa [gErr_yes h.out] at this
theorem check_no (l d c : Int) (w : World) (h : Hid (gOk l d c = false)) (hl : -9223372036854775808 ≤ l ∧ l ≤ 9223372036854775807) (hd : -9223372036854775808 ≤ d ∧ d ≤ 9223372036854775807) (hc : -9223372036854775808 ≤ c ∧ c ≤ 9223372036854775807) :
    Calls Tryd.prog 76 #[.agg #[.int .i64 l, .int .i64 d, .int .i64 c]] w fun e w' => e = .returned (.int .i64 1) ∧ Below w.heap.size w w' := by
  have := check_any l d c w hl hd hc
  rwa [gErr_no h.out] at this

theorem budget_any (l d c : Int) (w : World) (hl : -9223372036854775808 ≤ l ∧ l ≤ 9223372036854775807) (hd : -9223372036854775808 ≤ d ∧ d ≤ 9223372036854775807) (hc : -9223372036854775808 ≤ c ∧ c ≤ 9223372036854775807) :
    Calls Tryd.prog 92 #[.agg #[.int .i64 l, .int .i64 d, .int .i64 c]] w fun e w' => e = .returned (.int .i64 (gBud l d c)) ∧ Below w.heap.size w w' := by
  have G := gat_new w l d c 30 (0, 0)
  cases hG : gOk l d c
  · have HG := Lib.hid hG
    clear hG
    go_enter Tryd.func92, Tryd.ntmps92
    go_wp2_with fail
    (with_reducible refine (check_no l d c _ HG hl hd hc).mono ?_); rintro e w1 ⟨rfl, hb⟩
    have F := (below1 w _).trans (hb.mono (by simp))
    clear hb
    go_wp2_with fail
    go_ret
    exact ⟨by rw [gBud_no HG.out]; rfl, F⟩
  · have HG := Lib.hid hG
    clear hG
    by_cases h6 : l = 6
    · subst h6
      go_enter Tryd.func92, Tryd.ntmps92
      go_wp2_with fail
      (with_reducible refine (check_yes 6 d c _ HG hl hd hc).mono ?_); rintro e w1 ⟨rfl, hb⟩
      have F := (below1 w _).trans (hb.mono (by simp))
      obtain ⟨g1, g2, g3⟩ := G.below hb (by simp)
      clear hb
      go_wp2_with fail
      go_ret
      exact ⟨by rw [gBud_yes HG.out]; rfl, F⟩
    · obtain rfl : l = 5 := by have := gOk_yes HG.out; omega
      clear h6
      go_enter Tryd.func92, Tryd.ntmps92
      go_wp2_with fail
      (with_reducible refine (check_yes 5 d c _ HG hl hd hc).mono ?_); rintro e w1 ⟨rfl, hb⟩
      have F := (below1 w _).trans (hb.mono (by simp))
      obtain ⟨g1, g2, g3⟩ := G.below hb (by simp)
      clear hb
      go_wp2_with fail
      go_ret
      exact ⟨by rw [gBud_yes HG.out]; rfl, F⟩
theorem width_any (l d c : Int) (w : World) (hl : -9223372036854775808 ≤ l ∧ l ≤ 9223372036854775807) (hd : -9223372036854775808 ≤ d ∧ d ≤ 9223372036854775807) (hc : -9223372036854775808 ≤ c ∧ c ≤ 9223372036854775807) :
    Calls Tryd.prog 91 #[.agg #[.int .i64 l, .int .i64 d, .int .i64 c]] w fun e w' => e = .returned (.int .i64 (gWid l d c)) ∧ Below w.heap.size w w' := by
  have G := gat_new w l d c 30 (0, 0)
  cases hG : gOk l d c
  · have HG := Lib.hid hG
    clear hG
    go_enter Tryd.func91, Tryd.ntmps91
    go_wp2_with fail
    (with_reducible refine (check_no l d c _ HG hl hd hc).mono ?_); rintro e w1 ⟨rfl, hb⟩
    have F := (below1 w _).trans (hb.mono (by simp))
    clear hb
    go_wp2_with fail
    go_ret
    exact ⟨by rw [gWid_no HG.out]; rfl, F⟩
  · have HG := Lib.hid hG
    clear hG
    have HW : Hid (gWid l d c = d - gBud l d c) := by rw [gWid_yes HG.out, gBud_yes HG.out]; rfl
    have hB := gBud_bd l d c
    have hd3 := gOk_bd HG.out
    go_enter Tryd.func91, Tryd.ntmps91
    go_wp2_with fail
    (with_reducible refine (check_yes l d c _ HG hl hd hc).mono ?_); rintro e w1 ⟨rfl, hb⟩
    have F := (below1 w _).trans (hb.mono (by simp))
    have G1 := G.below hb (by simp)
    have z1 : w.heap.size < w1.heap.size := by have := hb.size; simp at this; omega
    clear hb G
    have HB : Hid (∀ W, Calls Tryd.prog 92 #[.agg #[.int .i64 l, .int .i64 d, .int .i64 c]] W fun e w' => e = .returned (.int .i64 (gBud l d c)) ∧ Below W.heap.size W w') := Lib.hid fun W => budget_any l d c W hl hd hc
    generalize gBud l d c = bd at hB HW HB
    obtain ⟨g1, g2, g3⟩ := G1
    go_wp2_with fail
    have S0 : GS w w.heap.size w.heap.size l d c w1 := ⟨g1, g2, g3, F⟩
    clear g1 g2 g3 F z1
    go_region_held3 (GS w w.heap.size w.heap.size l d c)
      (first | assumption | exact GS.drew ‹_›)
      ((go_at_call 92; (with_reducible refine (HB.out _).mono ?_); rintro e w2 ⟨rfl, hb⟩; have S2 := (GS.drew S0).later hb))
    go_wp2
    go_ret
    exact ⟨by rw [HW.out]; exact gret_int (IntWalk.i64_in _ (by omega)), S2.2.2.2⟩
/-- Two boxes that stay. -/
abbrev GS2 (w0 : World) (B b b' : Nat) (l d c l' d' c' : Int) (W : World) : Prop := W.cell? ⟨b, 0, none⟩ = some (.int .i64 l) ∧ W.cell? ⟨b, 1, none⟩ = some (.int .i64 d) ∧ W.cell? ⟨b, 2, none⟩ = some (.int .i64 c) ∧ W.cell? ⟨b', 0, none⟩ = some (.int .i64 l') ∧ W.cell? ⟨b', 1, none⟩ = some (.int .i64 d') ∧ W.cell? ⟨b', 2, none⟩ = some (.int .i64 c') ∧ Below B w0 W
theorem GS2.drew {w0 W : World} {B b b' : Nat} {l d c l' d' c' : Int} (h : GS2 w0 B b b' l d c l' d' c' W) : GS2 w0 B b b' l d c l' d' c' W.drew := ⟨h.1, h.2.1, h.2.2.1, h.2.2.2.1, h.2.2.2.2.1, h.2.2.2.2.2.1, h.2.2.2.2.2.2.drew⟩
theorem GS2.later {w0 W W' : World} {B b b' : Nat} {l d c l' d' c' : Int} (h : GS2 w0 B b b' l d c l' d' c' W) (hb : Below W.heap.size W W') (hB : B ≤ w0.heap.size := by exact Nat.le_refl _) : GS2 w0 B b b' l d c l' d' c' W' := by
  obtain ⟨h1, h2, h3, k1, k2, k3, F⟩ := h
  have hl := World.block_lt_of_cell? _ _ h1
  have kl := World.block_lt_of_cell? _ _ k1
  obtain ⟨a1, a2, a3⟩ := GAt.below ⟨h1, h2, h3⟩ hb hl
  obtain ⟨b1, b2, b3⟩ := GAt.below ⟨k1, k2, k3⟩ hb kl
  exact ⟨a1, a2, a3, b1, b2, b3, F.trans (hb.mono (Nat.le_trans hB F.size))⟩
theorem gs2_start (w : World) (l d c l' d' c' : Int) (t t' : TypeId) (f f' : Nat × Nat) :
    GS2 w w.heap.size w.heap.size (w.heap.size + 1) l d c l' d' c' ((w.alloc (.cells #[.int .i64 l, .int .i64 d, .int .i64 c] t f)).alloc (.cells #[.int .i64 l', .int .i64 d', .int .i64 c'] t' f')) := by
  have G := gat_new w l d c t f
  have G' := G.below (below1 _ (.cells #[.int .i64 l', .int .i64 d', .int .i64 c'] t' f')) (by simp)
  have K := gat_new (w.alloc (.cells #[.int .i64 l, .int .i64 d, .int .i64 c] t f)) l' d' c' t' f'
  rw [show (w.alloc (.cells #[.int .i64 l, .int .i64 d, .int .i64 c] t f)).heap.size = w.heap.size + 1 by simp] at K
  exact ⟨G'.1, G'.2.1, G'.2.2, K.1, K.2.1, K.2.2, below2 _ _ _⟩
end Go.Proofs.YtcjmebnbbpllnaaDoor
end
section
set_option linter.unusedVariables false
set_option linter.unusedSimpArgs false
namespace Go.Proofs.YtcjmebnbbpllnaaDoor
open Go.RowKit

theorem OwB.drew {e : TypeId} {w : World} {B : Nat} {v : Value} {bs : List UInt8} (h : OwB e w B v bs) : OwB e w.drew B v bs := h.below (Below.refl _ _).drew
/-- What stays while bytes of block g are set: a box of a geometry. -/
abbrev GO (w0 : World) (g b : Nat) (l d c : Int) (W : World) : Prop := W.cell? ⟨b, 0, none⟩ = some (.int .i64 l) ∧ W.cell? ⟨b, 1, none⟩ = some (.int .i64 d) ∧ W.cell? ⟨b, 2, none⟩ = some (.int .i64 c) ∧ w0.grownBy W (some g)
theorem GO.drew {w0 W : World} {g b : Nat} {l d c : Int} (h : GO w0 g b l d c W) : GO w0 g b l d c W.drew := ⟨h.1, h.2.1, h.2.2.1, grown_drewN h.2.2.2 1⟩
theorem GO.later {w0 W W' : World} {g b : Nat} {l d c : Int} (h : GO w0 g b l d c W) (hg : W.grownBy W' (some g)) (hne : b ≠ g) : GO w0 g b l d c W' := by
  obtain ⟨h1, h2, h3, F⟩ := h
  have hn : ∀ k, some (⟨b, k, none⟩ : Addr).block ≠ some g := fun k e => hne (by injection e)
  exact ⟨hg.cell h1 (hn 0), hg.cell h2 (hn 1), hg.cell h3 (hn 2), F.trans hg⟩
set_option maxHeartbeats 2000000 in
theorem suPutG_any (g off cap B : Nat) (l d c : Int) (bs : List UInt8) (w : World) (hl : 0 ≤ l ∧ l ≤ 255) (hd : 0 ≤ d ∧ d ≤ 255) (hc : 0 ≤ c ∧ c ≤ 255) (h : OwB 5 w B (.slice (some ⟨g, 0, none⟩) 32 32) bs) (hbs : bs.length = 32)
    (hoc : (off = 8 ∧ cap = 24) ∨ (off = 11 ∧ cap = 21)) :
    Calls Tryd.prog 60 #[.slice (some ⟨g, off, none⟩) 3 cap, .agg #[.int .i64 l, .int .i64 d, .int .i64 c]] w fun e w' => e = .returned (.tuple #[]) ∧ OwB 5 w' B (.slice (some ⟨g, 0, none⟩) 32 32) (putK (putK (putK bs off 1 l 1) (off + 1) 1 d 1) (off + 2) 1 c 1) ∧ w.grownBy w' (some g) := by
  have P : Hid (∀ (W : World) (xs : List UInt8) (o cp : Nat) (n : Int), OwB 5 W B (.slice (some ⟨g, 0, none⟩) 32 32) xs → xs.length = 32 → o ≤ 30 → 1 ≤ cp → (0 ≤ n ∧ n ≤ 255) →
      Calls Tryd.prog 59 #[.slice (some ⟨g, o, none⟩) 1 cp, .int .i64 n] W fun e w' => e = .returned (.tuple #[]) ∧ OwB 5 w' B (.slice (some ⟨g, 0, none⟩) 32 32) (putK xs o 1 n 1) ∧ W.grownBy w' (some g)) :=
    Lib.hid fun W xs o cp n ho hx h1 h2 h3 => suPut_any g o 1 cp 32 B n xs W (by omega) ho hx (by omega) (by omega) h2
  have hgl : g < w.heap.size := (h.lt g rfl).2
  have hne : w.heap.size ≠ g := by omega
  have O0 := h.below (below1 w (.cells #[.int .i64 l, .int .i64 d, .int .i64 c] 30))
  have S0 : GO w g w.heap.size l d c (w.alloc (.cells #[.int .i64 l, .int .i64 d, .int .i64 c] 30)) := by
    obtain ⟨a1, a2, a3⟩ := gat_new w l d c 30 (0, 0)
    exact ⟨a1, a2, a3, World.grownBy_alloc _ _ _⟩
  clear h
  generalize hW0 : w.alloc (.cells #[.int .i64 l, .int .i64 d, .int .i64 c] 30) = W0 at O0 S0
  rcases hoc with ⟨rfl, rfl⟩ | ⟨rfl, rfl⟩
  all_goals
    go_enter Tryd.func60, Tryd.ntmps60
    go_wp2
    clear hW0
    go_region_held3 (GO w g w.heap.size l d c)
      (first | assumption | exact GO.drew ‹_›)
      (first
      | (go_at_call 59
         (with_reducible refine (P.out _ bs _ _ _ (OwB.drew O0) hbs (by omega) (by omega) hl).mono ?_)
         rintro e w1 ⟨rfl, O1, g1⟩
         have S1 := (GO.drew S0).later g1 hne
         dsimp only))
    clear S0 O0 g1
    go_wp2
    go_region_held3 (GO w g w.heap.size l d c)
      (first | assumption | exact GO.drew ‹_›)
      (first
      | (go_at_call 59
         (with_reducible refine (P.out _ _ _ _ _ (OwB.drew O1) ((putK_len _ _ _ _ _).trans hbs) (by omega) (by omega) hd).mono ?_)
         rintro e w2 ⟨rfl, O2, g2⟩
         have S2 := (GO.drew S1).later g2 hne
         dsimp only))
    clear S1 O1 g2
    go_wp2
    go_region_held3 (GO w g w.heap.size l d c)
      (first | assumption | exact GO.drew ‹_›)
      (first
      | (go_at_call 59
         (with_reducible refine (P.out _ _ _ _ _ (OwB.drew O2) ((putK_len _ _ _ _ _).trans ((putK_len _ _ _ _ _).trans hbs)) (by omega) (by omega) hc).mono ?_)
         rintro e w3 ⟨rfl, O3, g3⟩
         have S3 := (GO.drew S2).later g3 hne
         dsimp only))
    go_wp2
    go_end0
    exact ⟨rfl, O3, S3.2.2.2⟩
end Go.Proofs.YtcjmebnbbpllnaaDoor
end
