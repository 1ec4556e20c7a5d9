/- Texts put together: RecFld, ItSet, Sub. -/
import Derived.Test.YtoomdgidpplpfaaDoorLbah
import Derived.Test.YtoomdgidpplpfaaDoorLbab
import Derived.Test.YtoomdgidpplpfaaDoorLbag
import Derived.Laws.OwnMore
import Derived.Test.YtoomdgidpplpfaaDoorLbaa
import Derived.Deep.LoopGhost
import Derived.Deep.DeepCutAuto
import Derived.Deep.CutBlock
section
set_option maxRecDepth 8000
set_option linter.unusedVariables false
set_option linter.unusedSimpArgs false
namespace Go.Proofs.YtoomdgidpplpfaaDoor
open Go.RowKit

theorem i64_or_nat (a b : Nat) (ha : a < 4611686018427387904) (hb : b < 4611686018427387904) : bits .or .i64 (a : Int) (b : Int) = ((a ||| b : Nat) : Int) := by
  have hx : a ||| b < 2 ^ 62 := Nat.or_lt_two_pow (by omega) (by omega)
  have e1 : ∀ x : Nat, x < 4611686018427387904 → (BitVec.ofInt 64 (x : Int)).toNat = x := fun x h => by
    rw [BitVec.ofInt_natCast, BitVec.toNat_ofNat]; exact Nat.mod_eq_of_lt (by omega)
  show IntKind.i64.wrap ((BitVec.ofInt 64 (a : Int) ||| BitVec.ofInt 64 (b : Int)).toNat : Int) = _
  rw [BitVec.toNat_or, e1 a ha, e1 b hb]
  exact IntWalk.i64_in _ (by omega)
theorem or_byte (m : Nat) (c : UInt8) (hm : m < 4294967296) : bits .or .i64 ((m : Int) * 256) (c.toNat : Int) = ((m * 256 + c.toNat : Nat) : Int) := by
  have hc : c.toNat < 256 := c.toNat_lt
  have h := i64_or_nat (m * 256) c.toNat (by omega) (by omega)
  rw [← show 2 ^ 8 * m + c.toNat = m * 256 ||| c.toNat by rw [Nat.two_pow_add_eq_or_of_lt (i := 8) hc]; rw [Nat.mul_comm]] at h
  rw [show ((m * 256 : Nat) : Int) = (m : Int) * 256 by omega] at h
  rw [h]; omega
theorem numB_snoc (xs : List UInt8) (k : Nat) (h : k < xs.length) : numB (xs.take (k + 1)) = numB (xs.take k) * 256 + (xs.getD k 0).toNat := foldl_snoc (fun (n : Nat) (x : UInt8) => n * 256 + x.toNat) 0 xs 0 k h
theorem numB_lt (xs : List UInt8) : ∀ k, k ≤ xs.length → k ≤ 4 → numB (xs.take k) < 4294967296 ∧ (k ≤ 3 → numB (xs.take k) < 16777216) := by
  have b : ∀ c : UInt8, c.toNat < 256 := fun c => c.toNat_lt
  have h0 : numB (xs.take 0) = 0 := rfl
  intro k hk h4
  have s0 : 0 < xs.length → numB (xs.take 1) = numB (xs.take 0) * 256 + (xs.getD 0 0).toNat := numB_snoc xs 0
  have s1 : 1 < xs.length → numB (xs.take 2) = numB (xs.take 1) * 256 + (xs.getD 1 0).toNat := numB_snoc xs 1
  have s2 : 2 < xs.length → numB (xs.take 3) = numB (xs.take 2) * 256 + (xs.getD 2 0).toNat := numB_snoc xs 2
  have s3 : 3 < xs.length → numB (xs.take 4) = numB (xs.take 3) * 256 + (xs.getD 3 0).toNat := numB_snoc xs 3
  have b0 := b (xs.getD 0 0)
  have b1 := b (xs.getD 1 0)
  have b2 := b (xs.getD 2 0)
  have b3 := b (xs.getD 3 0)
  match k, h4 with
  | 0, _ => omega
  | 1, _ => have := s0 (by omega); omega
  | 2, _ => have := s0 (by omega); have := s1 (by omega); omega
  | 3, _ => have := s0 (by omega); have := s1 (by omega); have := s2 (by omega); omega
  | 4, _ => have := s0 (by omega); have := s1 (by omega); have := s2 (by omega); have := s3 (by omega); omega
theorem infoI : (Tryd.prog.info? 43).map (fun i => (i.zero, i.size, i.bytes)) = some (some (.agg #[.int .i64 0, .int .i64 0, .slice none 0 0]), 3, 40) := by kernel_rfl
/-- What stays while fields reads: the Record that grows, and the answer's own box. -/
def FdS (w : World) (y : Int) (v : Value) (l : List It) (V : World) : Prop :=
  OwIt 43 V (w.heap.size + 2) (w.heap.size + 2) v l ∧ Below w.heap.size w V ∧ V.cell? ⟨w.heap.size + 1, 0, none⟩ = some (.int .i64 y) ∧ V.cell? ⟨w.heap.size + 1, 1, none⟩ = some v
    ∧ (∀ i, V.frozen? ⟨w.heap.size + 1, i, none⟩ = false) ∧ V.cell? ⟨w.heap.size, 0, none⟩ = some (.int .i64 0) ∧ V.cell? ⟨w.heap.size, 1, none⟩ = some (.slice none 0 0) ∧ (∀ i, V.frozen? ⟨w.heap.size, i, none⟩ = false)
section
variable {w V V' : World} {y y' : Int} {v v' : Value} {l l' : List It}
theorem FdS.sz (h : FdS w y v l V) : w.heap.size + 2 ≤ V.heap.size := World.block_lt_of_cell? _ _ h.2.2.1
theorem FdS.drew (h : FdS w y v l V) : FdS w y v l V.drew := ⟨h.1.below ((Below.refl _ _).drew), h.2.1.drew, h.2.2.1, h.2.2.2.1, h.2.2.2.2⟩
theorem FdS.grow {row : Option Nat} (h : FdS w y v l V) (hg : V.grownBy V' row) (hr : ∀ k, row = some k → w.heap.size + 2 ≤ k) (ho : OwIt 43 V' (w.heap.size + 2) (w.heap.size + 2) v' l') : OwIt 43 V' (w.heap.size + 2) (w.heap.size + 2) v' l' ∧ Below w.heap.size w V' ∧ V'.cell? ⟨w.heap.size + 1, 0, none⟩ = some (.int .i64 y) ∧ V'.cell? ⟨w.heap.size + 1, 1, none⟩ = some v
    ∧ (∀ i, V'.frozen? ⟨w.heap.size + 1, i, none⟩ = false) ∧ V'.cell? ⟨w.heap.size, 0, none⟩ = some (.int .i64 0) ∧ V'.cell? ⟨w.heap.size, 1, none⟩ = some (.slice none 0 0) ∧ (∀ i, V'.frozen? ⟨w.heap.size, i, none⟩ = false) := by
  obtain ⟨h0, h1, h2, h3, h4, h5, h6, h7⟩ := h
  have hs : w.heap.size + 2 ≤ V.heap.size := World.block_lt_of_cell? _ _ h2
  have n0 : ∀ i, some (⟨w.heap.size, i, none⟩ : Addr).block ≠ row := fun i e => by have : w.heap.size + 2 ≤ w.heap.size := hr _ e.symm; omega
  have n1 : ∀ i, some (⟨w.heap.size + 1, i, none⟩ : Addr).block ≠ row := fun i e => by have : w.heap.size + 2 ≤ w.heap.size + 1 := hr _ e.symm; omega
  have l0 : ∀ i, (⟨w.heap.size, i, none⟩ : Addr).block < V.heap.size := fun i => by show w.heap.size < _; omega
  have l1 : ∀ i, (⟨w.heap.size + 1, i, none⟩ : Addr).block < V.heap.size := fun i => by show w.heap.size + 1 < _; omega
  exact ⟨ho, h1.grown hg h1.size (fun k e => by have := hr k e; omega), (hg.cell_far _ (l1 _) (n1 _)).trans h2, (hg.cell_far _ (l1 _) (n1 _)).trans h3, fun i => (hg.frozen_far _ (l1 _) (n1 _)).trans (h4 i), (hg.cell_far _ (l0 _) (n0 _)).trans h5, (hg.cell_far _ (l0 _) (n0 _)).trans h6, fun i => (hg.frozen_far _ (l0 _) (n0 _)).trans (h7 i)⟩
theorem FdS.below (h : FdS w y v l V) (hb : Below V.heap.size V V') : FdS w y v l V' := h.grow (grown_none hb) (by simp) (h.1.below hb)
theorem grown_cell (V : World) (q i : Nat) (u : Value) : V.grownBy (V.setCell ⟨q, i, none⟩ u) (some q) := ⟨rfl, rfl, rfl, by simp, fun k _ hne => Below.heap_setCell V _ _ k (fun e => hne (by rw [e]))⟩
theorem FdS.put0 (h : FdS w y v l V) (y' : Int) : FdS w y' v l (V.setCell ⟨w.heap.size + 1, 0, none⟩ (.int .i64 y')) := by
  obtain ⟨h0, h1, h2, h3, h4, h5, h6, h7⟩ := h
  have hg := grown_cell V (w.heap.size + 1) 0 (.int .i64 y')
  refine ⟨h0.far hg (by omega) (by omega), h1.setCell (p := ⟨w.heap.size + 1, 0, none⟩) (by show w.heap.size ≤ w.heap.size + 1; omega) _, World.cell?_setCell_same _ _ _ h2, (World.cell?_setCell_other _ _ _ _ (by intro e; injection e with _ e; cases e)).trans h3, fun i => by rw [World.frozen?_setCell]; exact h4 i,
    (World.cell?_setCell_other _ _ _ _ (by intro e; injection e with e; omega)).trans h5, (World.cell?_setCell_other _ _ _ _ (by intro e; injection e with e; omega)).trans h6, fun i => by rw [World.frozen?_setCell]; exact h7 i⟩
/-- The Items grown, then put. -/
theorem FdS.put1 (h : FdS w y v l V) (hg : V.grownBy V' v.ownBlock) (ho : OwIt 43 V' (w.heap.size + 2) (w.heap.size + 2) v' l') : FdS w y v' l' (V'.setCell ⟨w.heap.size + 1, 1, none⟩ v') := by
  obtain ⟨h0, h1, h2, h3, h4, h5, h6, h7⟩ := h.grow hg (fun k e => (h.1.lt k e).1) ho
  have hg := grown_cell V' (w.heap.size + 1) 1 v'
  refine ⟨h0.far hg (by omega) (by omega), h1.setCell (p := ⟨w.heap.size + 1, 1, none⟩) (by show w.heap.size ≤ w.heap.size + 1; omega) _, (World.cell?_setCell_other _ _ _ _ (by intro e; injection e with _ e; cases e)).trans h2, World.cell?_setCell_same _ _ _ h3, fun i => by rw [World.frozen?_setCell]; exact h4 i,
    (World.cell?_setCell_other _ _ _ _ (by intro e; injection e with e; omega)).trans h5, (World.cell?_setCell_other _ _ _ _ (by intro e; injection e with e; omega)).trans h6, fun i => by rw [World.frozen?_setCell]; exact h7 i⟩
theorem FdS.start (w : World) (t : TypeId) : FdS w 0 (.slice none 0 0) [] ((w.alloc (.cells #[.int .i64 0, .slice none 0 0] t)).alloc (.cells #[.int .i64 0, .slice none 0 0] t)) := by
  have c1 := fun i => cell_of_row _ _ i _ _ _ (heap_alloc_new (w.alloc (.cells #[.int .i64 0, .slice none 0 0] t)) (.cells #[.int .i64 0, .slice none 0 0] t))
  have hsz : (w.alloc (.cells #[.int .i64 0, .slice none 0 0] t)).heap.size = w.heap.size + 1 := by simp
  have f1 := fun i => World.frozen?_alloc_new (w.alloc (.cells #[.int .i64 0, .slice none 0 0] t)) #[.int .i64 0, .slice none 0 0] t i
  rw [hsz] at c1 f1
  have c0 := fun i => (World.cell?_alloc_lt (w.alloc (.cells #[.int .i64 0, .slice none 0 0] t)) (.cells #[.int .i64 0, .slice none 0 0] t) ⟨w.heap.size, i, none⟩ (by simp)).trans (cell_of_row _ _ i _ _ _ (heap_alloc_new w (.cells #[.int .i64 0, .slice none 0 0] t)))
  have f0 := fun i => (World.frozen?_alloc_old (w.alloc (.cells #[.int .i64 0, .slice none 0 0] t)) (.cells #[.int .i64 0, .slice none 0 0] t) (a := ⟨w.heap.size, i, none⟩) (by show w.heap.size ≠ _; rw [hsz]; exact Nat.ne_of_lt (Nat.lt_succ_self _))).trans (World.frozen?_alloc_new w #[.int .i64 0, .slice none 0 0] t i)
  exact ⟨OwIt.nil _ _ _ _, below2 _ _ _, c1 0, c1 1, f1, c0 0, c0 1, f0⟩
end
theorem FdS.put_end {w V : World} {y : Int} {v : Value} {l : List It} (h : FdS w y v l V) : ((V.setCell ⟨w.heap.size, 0, none⟩ (.int .i64 y)).setCell ⟨w.heap.size, 1, none⟩ v).cell? ⟨w.heap.size, 0, none⟩ = some (.int .i64 y) ∧ ((V.setCell ⟨w.heap.size, 0, none⟩ (.int .i64 y)).setCell ⟨w.heap.size, 1, none⟩ v).cell? ⟨w.heap.size, 1, none⟩ = some v
    ∧ OwIt 43 ((V.setCell ⟨w.heap.size, 0, none⟩ (.int .i64 y)).setCell ⟨w.heap.size, 1, none⟩ v) w.heap.size w.heap.size v l ∧ Below w.heap.size w ((V.setCell ⟨w.heap.size, 0, none⟩ (.int .i64 y)).setCell ⟨w.heap.size, 1, none⟩ v) := by
  obtain ⟨h0, h1, h2, h3, h4, h5, h6, h7⟩ := h
  have g1 := grown_cell V w.heap.size 0 (.int .i64 y)
  have g2 := grown_cell (V.setCell ⟨w.heap.size, 0, none⟩ (.int .i64 y)) w.heap.size 1 v
  have k6 : (V.setCell ⟨w.heap.size, 0, none⟩ (.int .i64 y)).cell? ⟨w.heap.size, 1, none⟩ = some (.slice none 0 0) := (World.cell?_setCell_other _ _ _ _ (by intro e; injection e with _ e; cases e)).trans h6
  exact ⟨(World.cell?_setCell_other _ _ _ _ (by intro e; injection e with _ e; cases e)).trans (World.cell?_setCell_same _ _ _ h5), World.cell?_setCell_same _ _ _ k6, ((h0.far g1 (by omega) (by omega)).far g2 (by omega) (by omega)).le (by omega) (by omega), (h1.setCell (p := ⟨w.heap.size, 0, none⟩) (Nat.le_refl _) _).setCell (p := ⟨w.heap.size, 1, none⟩) (Nat.le_refl _) _⟩
theorem numB_four' (rs : List (List UInt8)) : ((numB [(rs.getD 0 []).getD 4 0, (rs.getD 0 []).getD 5 0, (rs.getD 0 []).getD 6 0, (rs.getD 0 []).getD 7 0] : Nat) : Int) = sqO rs := rfl
set_option maxHeartbeats 4000000 in
theorem fields_at (b off c : Nat) (rs : List (List UInt8)) (x : List UInt8) (x0 x1 x2 x3 : UInt8) (cn : Nat) (w : World) (h : RdC w w.heap.size (some ⟨b, off, none⟩) rs) (hc4 : 4 ≤ c) (hs : sect rs = true)
    (hx : rs.getD 0 [] = x) (hxs : x.getD 4 0 = x0 ∧ x.getD 5 0 = x1 ∧ x.getD 6 0 = x2 ∧ x.getD 7 0 = x3) (hcn : (x.getD 8 0).toNat = cn) :
    Calls Tryd.prog 70 #[.slice (some ⟨b, off, none⟩) 4 c] w fun e w' => ∃ v, e = .returned (.agg #[.int .i64 (sqO rs), v]) ∧ OwIt 43 w' w.heap.size w.heap.size v (itsO rs) ∧ Below w.heap.size w w' := by
  have hl4 := ((sect_iff rs).1 hs).1
  have HX := Lib.hid (fun k hk => sect_get hs k hk)
  have HR := Lib.hid h
  obtain ⟨b', off', e, hb, hcell⟩ := h.2 (by omega)
  injection e with e
  injection e with e1 e2 _
  subst e1 e2
  obtain ⟨A0, c0, g0, hlc, hrd⟩ := hcell 0 (by omega)
  rw [hx] at g0 hlc hrd
  have hx32 : x.length = 32 := by rw [← hx]; exact HX.out 0 (by omega)
  rw [hx32] at g0 hlc
  rw [Nat.add_zero] at g0
  obtain ⟨b0, o0, rfl, hb0, hk0⟩ := hrd.2 (by omega)
  have HB := Lib.hid (fun (V : World) (hV : Below w.heap.size w V) (k : Nat) (hk : k < 32) => (hV.cell (p := ⟨b0, o0 + k, none⟩) hb0).trans (hk0 k (by omega)))
  have HC0 := Lib.hid (fun (V : World) (hV : Below w.heap.size w V) => (hV.cell (p := ⟨b, off, none⟩) hb).trans g0)
  have HCK := Lib.hid hcell
  have Hq := Lib.hid (show ((numB [x0, x1, x2, x3] : Nat) : Int) = sqO rs by obtain ⟨rfl, rfl, rfl, rfl⟩ := hxs; rw [← hx]; exact numB_four' rs)
  have Hi := Lib.hid (show itsO rs = itsN rs (min cn 3) by unfold itsO cnO; rw [hx, hcn])
  have Hxs := Lib.hid (show ∀ k, k < 4 → x.getD (4 + k) 0 = [x0, x1, x2, x3].getD k 0 from fun k hk => by
    obtain ⟨rfl, rfl, rfl, rfl⟩ := hxs
    match k, hk with
    | 0, _ => rfl
    | 1, _ => rfl
    | 2, _ => rfl
    | 3, _ => rfl)
  have Hcn := Lib.hid hcn
  have S0 := FdS.start w 29
  have q0 := (HC0.out _ (S0.2.1))
  clear h hs hcell g0 hrd hk0 hxs hcn
  have i0 : (8 : Int) ≤ (c0 : Int) := by omega
  have i4 : ¬ c0 = 4 := by omega
  have i1 : ¬ c = 1 := by omega
  have j1 : (4 : Int) ≤ (c : Int) := by omega
  obtain ⟨W0, hW0⟩ : ∃ W, ((w.alloc (.cells #[.int .i64 0, .slice none 0 0] 29)).alloc (.cells #[.int .i64 0, .slice none 0 0] 29)) = W := ⟨_, rfl⟩
  rw [hW0] at S0 q0
  go_enter Tryd.func70, Tryd.ntmps70
  go_wp2_with fail
  have Hst := Lib.hid S0
  clear hW0 S0
  go_quiet (fail)
  go_wp2
  have Hnq := Lib.hid (FdS.below Hst.out (belowN _ _ nq))
  clear Hst q0
  go_loopw [18] (fun i wr => ∃ k : Nat, k ≤ 4 ∧ i = .int .i64 k ∧ FdS w ((numB ([x0, x1, x2, x3].take k) : Nat) : Int) (.slice none 0 0) [] wr) (fun i _ => 4 - (intOf i).toNat)
  case atStart => exact ⟨0, by omega, rfl, Hnq.out⟩
  case round =>
    obtain ⟨k, hk, rfl, hst⟩ := hrel
    have Hst := Lib.hid hst
    clear hst
    clear Hnq
    by_cases hlt : k < 4
    · have h1 := HB.out _ Hst.out.2.1 (4 + k) (by omega)
      rw [Hxs.out k hlt, ← Nat.add_assoc] at h1
      have q1 := Hst.out.2.2.1
      have q2 := Hst.out.2.2.2.2.1 0
      have hy := numB_lt [x0, x1, x2, x3] k (by simp; omega) hk
      have Hsn := Lib.hid (numB_snoc [x0, x1, x2, x3] k (by simp; omega))
      have HP := Lib.hid (fun y => Hst.out.put0 y)
      generalize [x0, x1, x2, x3].getD k 0 = u at h1 Hsn
      generalize numB ([x0, x1, x2, x3].take k) = y at hy Hsn q1
      have eo := or_byte y u hy.1
      have hu : u.toNat < 256 := u.toNat_lt
      go_wp2
      go_roundw
      case rel => exact ⟨k + 1, by omega, by go_num, by rw [Hsn.out]; exact HP.out _⟩
      case measure => simp [intOf]; omega
    · obtain rfl : k = 4 := by omega
      rw [show ((4 : Nat) : Int) = 4 from rfl]
      have h8 := HB.out _ Hst.out.2.1 8 (by omega)
      rw [Hcn.out] at h8
      have Hst2 := Lib.hid (show FdS w (sqO rs) (.slice none 0 0) (itsN rs 0) wr by have := Hst.out; rw [show [x0, x1, x2, x3].take 4 = [x0, x1, x2, x3] from rfl, Hq.out] at this; exact this)
      have hcl : cn < 256 := by rw [← Hcn.out]; exact (x.getD 8 0).toNat_lt
      clear Hst
      obtain ⟨y, hy⟩ : ∃ y, sqO rs = y := ⟨_, rfl⟩
      rw [hy] at Hst2
      have HY := Lib.hid hy
      clear hy
      by_cases h3 : cn ≤ 3
      · have e3 : (cn : Int) ≤ 3 := by omega
        have HI := Lib.hid (show itsO rs = itsN rs cn by rw [Hi.out, Nat.min_eq_left h3])
        go_wp2
        go_loopw [35] (fun iv wr => ∃ (i : Nat) (v : Value), i ≤ cn ∧ iv = .int .i64 i ∧ FdS w y v (itsN rs i) wr) (fun iv _ => cn - (intOf iv).toNat)
        case atStart => exact ⟨0, _, Nat.zero_le _, rfl, Hst2.out⟩
        case round =>
          obtain ⟨i, v, hi, rfl, hst⟩ := hrel
          have Hst := Lib.hid hst
          clear hst Hst2
          by_cases hlt : i < cn
          · have hi3 : i < 3 := by omega
            obtain ⟨D, cd, gk, hcd, hdk⟩ := HCK.out (1 + i) (by omega)
            have HD := Lib.hid (HX.out (1 + i) (by omega))
            have HC : Hid (∀ V, Below w.heap.size w V → V.cell? ⟨b0, o0 + (9 + 2 * i), none⟩ = some (.int .u8 ((x.getD (9 + 2 * i) 0).toNat : Int)) ∧ V.cell? ⟨b0, o0 + (9 + 2 * i) + 1, none⟩ = some (.int .u8 ((x.getD (10 + 2 * i) 0).toNat : Int)) ∧ V.cell? ⟨b, off + 1 + i, none⟩ = some (.slice D 32 cd)) := Lib.hid fun V hV => by
              refine ⟨HB.out V hV _ (by omega), ?_, ?_⟩
              · rw [Nat.add_assoc, show 9 + 2 * i + 1 = 10 + 2 * i by omega]; exact HB.out V hV _ (by omega)
              · rw [Nat.add_assoc]; rw [HD.out] at gk; exact (hV.cell (p := ⟨b, off + (1 + i), none⟩) hb).trans gk
            have CC : Hid (∀ V, Below w.heap.size w V → Calls Tryd.prog 58 #[.slice D 32 cd] V fun e w' => ∃ v, e = .returned v ∧ OwB 5 w' V.heap.size v (rs.getD (1 + i) []) ∧ Below V.heap.size V w') := Lib.hid fun V hV => clone_any D (rs.getD (1 + i) []) 32 cd V HD.out.symm (by rw [HD.out]; omega) ((hdk.below hV (Nat.le_refl _)).more hV.size)
            have HIt : Hid (itsN rs (i + 1) = itsN rs i ++ [⟨((x.getD (9 + 2 * i) 0).toNat : Int), ((x.getD (10 + 2 * i) 0).toNat : Int), rs.getD (1 + i) []⟩]) := by
              refine Lib.hid ?_
              rw [itsN_succ, ← hx]; rfl
            have hu0 : (x.getD (9 + 2 * i) 0).toNat < 256 := (x.getD (9 + 2 * i) 0).toNat_lt
            have hu1 : (x.getD (10 + 2 * i) 0).toNat < 256 := (x.getD (10 + 2 * i) 0).toNat_lt
            generalize (x.getD (9 + 2 * i) 0).toNat = u0 at HC HIt hu0
            generalize (x.getD (10 + 2 * i) 0).toNat = u1 at HC HIt hu1
            generalize rs.getD (1 + i) [] = dat at HD CC HIt
            have k1 : IntKind.i64.wrap (2 * (i : Int)) = 2 * (i : Int) := by rw [IntKind.wrap_i64]; omega
            have k2 : IntKind.i64.wrap (9 + 2 * (i : Int)) = 9 + 2 * (i : Int) := by rw [IntKind.wrap_i64]; omega
            have k3 : (9 + 2 * (i : Int)).toNat = 9 + 2 * i := by omega
            have k4 : 0 ≤ 9 + 2 * (i : Int) ∧ 9 + 2 * (i : Int) ≤ 32 := by omega
            have k5 : ¬ c0 = 9 + 2 * i := by omega
            have k6 : (9 + 2 * (i : Int)) ≤ (c0 : Int) := by omega
            have k7 : (32 : Int) ≤ (c0 : Int) := by omega
            have k8 : (i : Int) < 3 := by omega
            obtain ⟨L, hL⟩ : ∃ L, 32 - (9 + 2 * i) = L := ⟨_, rfl⟩
            have k9 : (1 : Int) < (L : Int) := by omega
            have k10 : (0 : Int) < (L : Int) := by omega
            have k11 : 0 < L := by omega
            have k13 : IntKind.i64.wrap (u0 : Int) = (u0 : Int) := by rw [IntKind.wrap_i64]; omega
            have k14 : IntKind.i64.wrap (u1 : Int) = (u1 : Int) := by rw [IntKind.wrap_i64]; omega
            have k12 : 1 < L := by omega
            clear gk hdk
            go_wp2_with fail
            refine wp_region_noPanic (region_ord 17 [] (fun V => FdS w y v (itsN rs i) V) (by kernel_rfl) (by kernel_rfl) (fun _ _ _ _ _ h => h) fun R => ?_)
            change anyI _ _ _ _ _ _ 20 _ _ wr.drew
            have HS0 := Lib.hid (show (fun V => FdS w y v (itsN rs i) V) wr.drew from FdS.drew Hst.out)
            refine' anyI_take R 0 rfl (v := ?_) (by kernel_rfl) (by rfl) (fun V hV => ?hy) HS0.out ?_
            case hy => ((try dsimp only at hV);  have qk := HC.out V hV.2.1; have p0 := qk.1; have p1 := qk.2.1; have p2 := qk.2.2; have p3 := hV.2.2.2.1; go_simp; try with_reducible rfl)
            try simp only [Act.put, List.getElem_toArray, List.getElem_cons_succ, List.getElem_cons_zero, List.setIfInBounds_toArray, List.set_cons_zero, List.set_cons_succ]
            refine' anyI_take R 1 rfl (v := ?_) (by kernel_rfl) (by rfl) (fun V hV => ?hy) HS0.out ?_
            case hy => ((try dsimp only at hV);  have qk := HC.out V hV.2.1; have p0 := qk.1; have p1 := qk.2.1; have p2 := qk.2.2; have p3 := hV.2.2.2.1; go_simp; try with_reducible rfl)
            try simp only [Act.put, List.getElem_toArray, List.getElem_cons_succ, List.getElem_cons_zero, List.setIfInBounds_toArray, List.set_cons_zero, List.set_cons_succ]
            refine' anyI_take R 2 rfl (v := ?_) (by kernel_rfl) (by rfl) (fun V hV => ?hy) HS0.out ?_
            case hy => ((try dsimp only at hV);  have qk := HC.out V hV.2.1; have p0 := qk.1; have p1 := qk.2.1; have p2 := qk.2.2; have p3 := hV.2.2.2.1; go_simp; try with_reducible rfl)
            try simp only [Act.put, List.getElem_toArray, List.getElem_cons_succ, List.getElem_cons_zero, List.setIfInBounds_toArray, List.set_cons_zero, List.set_cons_succ]
            refine' anyI_take R 3 rfl (v := ?_) (by kernel_rfl) (by rfl) (fun V hV => ?hy) HS0.out ?_
            case hy => ((try dsimp only at hV);  have qk := HC.out V hV.2.1; have p0 := qk.1; have p1 := qk.2.1; have p2 := qk.2.2; have p3 := hV.2.2.2.1; go_simp; try with_reducible rfl)
            try simp only [Act.put, List.getElem_toArray, List.getElem_cons_succ, List.getElem_cons_zero, List.setIfInBounds_toArray, List.set_cons_zero, List.set_cons_succ]
            refine' anyI_take R 4 rfl (v := ?_) (by kernel_rfl) (by rfl) (fun V hV => ?hy) HS0.out ?_
            case hy => ((try dsimp only at hV);  have qk := HC.out V hV.2.1; have p0 := qk.1; have p1 := qk.2.1; have p2 := qk.2.2; have p3 := hV.2.2.2.1; go_simp; try with_reducible rfl)
            try simp only [Act.put, List.getElem_toArray, List.getElem_cons_succ, List.getElem_cons_zero, List.setIfInBounds_toArray, List.set_cons_zero, List.set_cons_succ]
            refine' anyI_take R 5 rfl (v := ?_) (by kernel_rfl) (by rfl) (fun V hV => ?hy) HS0.out ?_
            case hy => ((try dsimp only at hV);  have qk := HC.out V hV.2.1; have p0 := qk.1; have p1 := qk.2.1; have p2 := qk.2.2; have p3 := hV.2.2.2.1; go_simp; try with_reducible rfl)
            try simp only [Act.put, List.getElem_toArray, List.getElem_cons_succ, List.getElem_cons_zero, List.setIfInBounds_toArray, List.set_cons_zero, List.set_cons_succ]
            refine' anyI_take R 6 rfl (v := ?_) (by kernel_rfl) (by rfl) (fun V hV => ?hy) HS0.out ?_
            case hy => ((try dsimp only at hV);  have qk := HC.out V hV.2.1; have p0 := qk.1; have p1 := qk.2.1; have p2 := qk.2.2; have p3 := hV.2.2.2.1; go_simp; try with_reducible rfl)
            try simp only [Act.put, List.getElem_toArray, List.getElem_cons_succ, List.getElem_cons_zero, List.setIfInBounds_toArray, List.set_cons_zero, List.set_cons_succ]
            refine' anyI_take R 7 rfl (v := ?_) (by kernel_rfl) (by rfl) (fun V hV => ?hy) HS0.out ?_
            case hy => ((try dsimp only at hV);  have qk := HC.out V hV.2.1; have p0 := qk.1; have p1 := qk.2.1; have p2 := qk.2.2; have p3 := hV.2.2.2.1; go_simp; try with_reducible rfl)
            try simp only [Act.put, List.getElem_toArray, List.getElem_cons_succ, List.getElem_cons_zero, List.setIfInBounds_toArray, List.set_cons_zero, List.set_cons_succ]
            refine' anyI_take R 8 rfl (v := ?_) (by kernel_rfl) (by rfl) (fun V hV => ?hy) HS0.out ?_
            case hy => ((try dsimp only at hV);  have qk := HC.out V hV.2.1; have p0 := qk.1; have p1 := qk.2.1; have p2 := qk.2.2; have p3 := hV.2.2.2.1; go_simp; try with_reducible rfl)
            try simp only [Act.put, List.getElem_toArray, List.getElem_cons_succ, List.getElem_cons_zero, List.setIfInBounds_toArray, List.set_cons_zero, List.set_cons_succ]
            refine' anyI_take R 9 rfl (v := ?_) (by kernel_rfl) (by rfl) (fun V hV => ?hy) HS0.out ?_
            case hy => ((try dsimp only at hV);  have qk := HC.out V hV.2.1; have p0 := qk.1; have p1 := qk.2.1; have p2 := qk.2.2; have p3 := hV.2.2.2.1; go_simp; try with_reducible rfl)
            try simp only [Act.put, List.getElem_toArray, List.getElem_cons_succ, List.getElem_cons_zero, List.setIfInBounds_toArray, List.set_cons_zero, List.set_cons_succ]
            refine' anyI_take R 10 rfl (v := ?_) (by kernel_rfl) (by rfl) (fun V hV => ?hy) HS0.out ?_
            case hy => ((try dsimp only at hV);  have qk := HC.out V hV.2.1; have p0 := qk.1; have p1 := qk.2.1; have p2 := qk.2.2; have p3 := hV.2.2.2.1; go_simp; try with_reducible rfl)
            try simp only [Act.put, List.getElem_toArray, List.getElem_cons_succ, List.getElem_cons_zero, List.setIfInBounds_toArray, List.set_cons_zero, List.set_cons_succ]
            refine' anyI_take R 11 rfl (v := ?_) (by kernel_rfl) (by rfl) (fun V hV => ?hy) HS0.out ?_
            case hy => ((try dsimp only at hV);  have qk := HC.out V hV.2.1; have p0 := qk.1; have p1 := qk.2.1; have p2 := qk.2.2; have p3 := hV.2.2.2.1; go_simp; try with_reducible rfl)
            try simp only [Act.put, List.getElem_toArray, List.getElem_cons_succ, List.getElem_cons_zero, List.setIfInBounds_toArray, List.set_cons_zero, List.set_cons_succ]
            refine' anyI_take R 12 rfl (v := ?_) (by kernel_rfl) (by rfl) (fun V hV => ?hy) HS0.out ?_
            case hy => ((try dsimp only at hV);  have qk := HC.out V hV.2.1; have p0 := qk.1; have p1 := qk.2.1; have p2 := qk.2.2; have p3 := hV.2.2.2.1; go_simp; try with_reducible rfl)
            try simp only [Act.put, List.getElem_toArray, List.getElem_cons_succ, List.getElem_cons_zero, List.setIfInBounds_toArray, List.set_cons_zero, List.set_cons_succ]
            refine' anyI_take R 13 rfl (v := ?_) (by kernel_rfl) (by rfl) (fun V hV => ?hy) HS0.out ?_
            case hy => ((try dsimp only at hV);  have qk := HC.out V hV.2.1; have p0 := qk.1; have p1 := qk.2.1; have p2 := qk.2.2; have p3 := hV.2.2.2.1; go_simp; try with_reducible rfl)
            try simp only [Act.put, List.getElem_toArray, List.getElem_cons_succ, List.getElem_cons_zero, List.setIfInBounds_toArray, List.set_cons_zero, List.set_cons_succ]
            refine anyI_one 14 (by kernel_rfl) rfl ?_
            try simp only [List.getElem_toArray, List.getElem_cons_succ, List.getElem_cons_zero]
            refine opE_step ?_
            rw [if_pos (by rfl)]
            go_simp
            go_at_call 58
            refine (CC.out _ HS0.out.2.1).mono ?_
            rintro e w1 ⟨v1, rfl, OV, hb⟩
            have HZ := Lib.hid HS0.out.sz
            replace HS0 := Lib.hid (FdS.below HS0.out hb)
            obtain ⟨g1, cp1, rfl, hg1, hgl, hcp, _, hr1⟩ := OV.pos (by rw [HD.out]; omega)
            rw [HD.out]
            have Hr1 := Lib.hid hr1
            have Hg1 := Lib.hid (Nat.le_trans HZ.out hg1)
            have HW := Lib.hid hg1
            rw [HD.out] at hcp
            clear hb OV HZ hr1 hg1
            try dsimp only
            refine ⟨HS0.out, ?_⟩
            try simp only [Act.put, List.getElem_toArray, List.getElem_cons_succ, List.getElem_cons_zero, List.setIfInBounds_toArray, List.set_cons_zero, List.set_cons_succ]
            refine' anyI_take R 15 rfl (v := ?_) (by kernel_rfl) (by rfl) (fun V hV => ?hy) HS0.out ?_
            case hy => ((try dsimp only at hV);  have qk := HC.out V hV.2.1; have p0 := qk.1; have p1 := qk.2.1; have p2 := qk.2.2; have p3 := hV.2.2.2.1; go_simp; try with_reducible rfl)
            try simp only [Act.put, List.getElem_toArray, List.getElem_cons_succ, List.getElem_cons_zero, List.setIfInBounds_toArray, List.set_cons_zero, List.set_cons_succ]
            refine anyI_one 16 (by kernel_rfl) rfl ?_
            try simp only [List.getElem_toArray, List.getElem_cons_succ, List.getElem_cons_zero]
            refine opE_step ?_
            rw [if_pos (by rfl)]
            go_simp
            replace HS0 := Lib.hid (FdS.below HS0.out (below1 w1 (.cells #[.int .i64 (u0 : Int), .int .i64 (u1 : Int), .slice (some ⟨g1, 0, none⟩) 32 cp1] 43)))
            try dsimp only
            refine ⟨HS0.out, ?_⟩
            try simp only [Act.put, List.getElem_toArray, List.getElem_cons_succ, List.getElem_cons_zero, List.setIfInBounds_toArray, List.set_cons_zero, List.set_cons_succ]
            refine anyI_tail (by kernel_rfl) ?_
            try simp only [List.drop_succ_cons, List.drop_zero]
            clear R
            have HA := Lib.hid HS0.out
            have HN := Lib.hid (fun ob (hob : ob = v.ownBlock) => src_one (w := w1.alloc (.cells #[.int .i64 (u0 : Int), .int .i64 (u1 : Int), .slice (some ⟨g1, 0, none⟩) 32 cp1] 43)) (lo := w.heap.size + 2) (g := w1.heap.size) (ob := ob) (x := ⟨(u0 : Int), (u1 : Int), dat⟩) (D := some ⟨g1, 0, none⟩) (c := cp1) (by dsimp only; rw [HD.out]; exact heap_alloc_new _ _) ((Hr1.out.below (below1 w1 _) (Nat.le_refl _)).more (by simp)) (by dsimp only; rw [HD.out]; exact hcp) (fun _ a ha => by
              injection ha with ha
              subst ha
              refine ⟨fun e => ?_, Hg1.out⟩
              rw [hob] at e
              have h1 := (Hst.out.1.lt g1 e.symm).2
              exact absurd (Nat.lt_of_lt_of_le h1 HW.out) (Nat.lt_irrefl _)))
            go_wp2_with (
              ((with_reducible refine (id ?_ : wpList _ _ _ (⟨some 60, _, _, _, _, _⟩ :: _) _ _)); refine wpList_append_I _ (by rfl) _ _ _ (by rfl) (w.heap.size + 2) (w.heap.size + 2) 43 Tryd.underlying27 infoI v _ (by rfl) HA.out.1 (some ⟨w1.heap.size, 0, none⟩) 1 1 _ (by rfl) (by rfl) (HN.out _ rfl) (by rw [itsN_len]; show i + 1 ≤ _; omega) HA.out.sz ?_
               intro v4 w4 O4 g4 _
               obtain ⟨A4, c4, rfl, _, _⟩ := O4.rd
               have H4 := Lib.hid (show FdS w y _ (itsN rs (i + 1)) (w4.setCell ⟨w.heap.size + 1, 1, none⟩ (.slice A4 _ c4)) from FdS.put1 HA.out g4 (by rw [HIt.out]; exact O4))
               obtain ⟨_, _, _, q3', q4', _⟩ := HA.out.grow g4 (fun k e => (HA.out.1.lt k e).1) O4
               have q5' := q4' 1
               rw [show (itsN rs i ++ [(⟨(u0 : Int), (u1 : Int), dat⟩ : It)]).length = (itsN rs i).length + 1 from List.length_append] at H4
               clear O4 g4 q4'))
            refine NoPanic.normal ?_
            go_wp2
            go_roundw
            case rel => exact ⟨i + 1, _, by omega, by go_num, H4.out⟩
            case measure => simp [intOf]; omega
          · obtain rfl : i = cn := by omega
            obtain ⟨h0, h1, h2, h3, h4, h5, h6, h7⟩ := Hst.out
            have f0 := h7 0
            have f1 := h7 1
            have HF := Lib.hid (FdS.put_end Hst.out)
            obtain ⟨A5, c5, rfl, _, _⟩ := h0.rd
            clear h0 h1 h4 h7
            go_wp2
            refine bodyPost_ret (v := .agg #[.int .i64 y, .slice A5 (itsN rs i).length c5]) (by simp [results, Tryd.results70, go_sem, HF.out.1, HF.out.2.1]) rfl ⟨_, by rw [HY.out], by rw [HI.out]; exact HF.out.2.2.1, HF.out.2.2.2⟩
      · have e3 : ¬ (cn : Int) ≤ 3 := by omega
        have HI := Lib.hid (show itsO rs = itsN rs 3 by rw [Hi.out, Nat.min_eq_right (by omega)])
        go_wp2
        go_loopw [35] (fun iv wr => ∃ (i : Nat) (v : Value), i ≤ 3 ∧ iv = .int .i64 i ∧ FdS w y v (itsN rs i) wr) (fun iv _ => 3 - (intOf iv).toNat)
        case atStart => exact ⟨0, _, Nat.zero_le _, rfl, Hst2.out⟩
        case round =>
          obtain ⟨i, v, hi, rfl, hst⟩ := hrel
          have Hst := Lib.hid hst
          clear hst Hst2
          by_cases hlt : i < 3
          · have hi3 : i < 3 := by omega
            obtain ⟨D, cd, gk, hcd, hdk⟩ := HCK.out (1 + i) (by omega)
            have HD := Lib.hid (HX.out (1 + i) (by omega))
            have HC : Hid (∀ V, Below w.heap.size w V → V.cell? ⟨b0, o0 + (9 + 2 * i), none⟩ = some (.int .u8 ((x.getD (9 + 2 * i) 0).toNat : Int)) ∧ V.cell? ⟨b0, o0 + (9 + 2 * i) + 1, none⟩ = some (.int .u8 ((x.getD (10 + 2 * i) 0).toNat : Int)) ∧ V.cell? ⟨b, off + 1 + i, none⟩ = some (.slice D 32 cd)) := Lib.hid fun V hV => by
              refine ⟨HB.out V hV _ (by omega), ?_, ?_⟩
              · rw [Nat.add_assoc, show 9 + 2 * i + 1 = 10 + 2 * i by omega]; exact HB.out V hV _ (by omega)
              · rw [Nat.add_assoc]; rw [HD.out] at gk; exact (hV.cell (p := ⟨b, off + (1 + i), none⟩) hb).trans gk
            have CC : Hid (∀ V, Below w.heap.size w V → Calls Tryd.prog 58 #[.slice D 32 cd] V fun e w' => ∃ v, e = .returned v ∧ OwB 5 w' V.heap.size v (rs.getD (1 + i) []) ∧ Below V.heap.size V w') := Lib.hid fun V hV => clone_any D (rs.getD (1 + i) []) 32 cd V HD.out.symm (by rw [HD.out]; omega) ((hdk.below hV (Nat.le_refl _)).more hV.size)
            have HIt : Hid (itsN rs (i + 1) = itsN rs i ++ [⟨((x.getD (9 + 2 * i) 0).toNat : Int), ((x.getD (10 + 2 * i) 0).toNat : Int), rs.getD (1 + i) []⟩]) := by
              refine Lib.hid ?_
              rw [itsN_succ, ← hx]; rfl
            have hu0 : (x.getD (9 + 2 * i) 0).toNat < 256 := (x.getD (9 + 2 * i) 0).toNat_lt
            have hu1 : (x.getD (10 + 2 * i) 0).toNat < 256 := (x.getD (10 + 2 * i) 0).toNat_lt
            generalize (x.getD (9 + 2 * i) 0).toNat = u0 at HC HIt hu0
            generalize (x.getD (10 + 2 * i) 0).toNat = u1 at HC HIt hu1
            generalize rs.getD (1 + i) [] = dat at HD CC HIt
            have k1 : IntKind.i64.wrap (2 * (i : Int)) = 2 * (i : Int) := by rw [IntKind.wrap_i64]; omega
            have k2 : IntKind.i64.wrap (9 + 2 * (i : Int)) = 9 + 2 * (i : Int) := by rw [IntKind.wrap_i64]; omega
            have k3 : (9 + 2 * (i : Int)).toNat = 9 + 2 * i := by omega
            have k4 : 0 ≤ 9 + 2 * (i : Int) ∧ 9 + 2 * (i : Int) ≤ 32 := by omega
            have k5 : ¬ c0 = 9 + 2 * i := by omega
            have k6 : (9 + 2 * (i : Int)) ≤ (c0 : Int) := by omega
            have k7 : (32 : Int) ≤ (c0 : Int) := by omega
            have k8 : (i : Int) < 3 := by omega
            obtain ⟨L, hL⟩ : ∃ L, 32 - (9 + 2 * i) = L := ⟨_, rfl⟩
            have k9 : (1 : Int) < (L : Int) := by omega
            have k10 : (0 : Int) < (L : Int) := by omega
            have k11 : 0 < L := by omega
            have k13 : IntKind.i64.wrap (u0 : Int) = (u0 : Int) := by rw [IntKind.wrap_i64]; omega
            have k14 : IntKind.i64.wrap (u1 : Int) = (u1 : Int) := by rw [IntKind.wrap_i64]; omega
            have k12 : 1 < L := by omega
            clear gk hdk
            go_wp2_with fail
            refine wp_region_noPanic (region_ord 17 [] (fun V => FdS w y v (itsN rs i) V) (by kernel_rfl) (by kernel_rfl) (fun _ _ _ _ _ h => h) fun R => ?_)
            change anyI _ _ _ _ _ _ 20 _ _ wr.drew
            have HS0 := Lib.hid (show (fun V => FdS w y v (itsN rs i) V) wr.drew from FdS.drew Hst.out)
            refine' anyI_take R 0 rfl (v := ?_) (by kernel_rfl) (by rfl) (fun V hV => ?hy) HS0.out ?_
            case hy => ((try dsimp only at hV);  have qk := HC.out V hV.2.1; have p0 := qk.1; have p1 := qk.2.1; have p2 := qk.2.2; have p3 := hV.2.2.2.1; go_simp; try with_reducible rfl)
            try simp only [Act.put, List.getElem_toArray, List.getElem_cons_succ, List.getElem_cons_zero, List.setIfInBounds_toArray, List.set_cons_zero, List.set_cons_succ]
            refine' anyI_take R 1 rfl (v := ?_) (by kernel_rfl) (by rfl) (fun V hV => ?hy) HS0.out ?_
            case hy => ((try dsimp only at hV);  have qk := HC.out V hV.2.1; have p0 := qk.1; have p1 := qk.2.1; have p2 := qk.2.2; have p3 := hV.2.2.2.1; go_simp; try with_reducible rfl)
            try simp only [Act.put, List.getElem_toArray, List.getElem_cons_succ, List.getElem_cons_zero, List.setIfInBounds_toArray, List.set_cons_zero, List.set_cons_succ]
            refine' anyI_take R 2 rfl (v := ?_) (by kernel_rfl) (by rfl) (fun V hV => ?hy) HS0.out ?_
            case hy => ((try dsimp only at hV);  have qk := HC.out V hV.2.1; have p0 := qk.1; have p1 := qk.2.1; have p2 := qk.2.2; have p3 := hV.2.2.2.1; go_simp; try with_reducible rfl)
            try simp only [Act.put, List.getElem_toArray, List.getElem_cons_succ, List.getElem_cons_zero, List.setIfInBounds_toArray, List.set_cons_zero, List.set_cons_succ]
            refine' anyI_take R 3 rfl (v := ?_) (by kernel_rfl) (by rfl) (fun V hV => ?hy) HS0.out ?_
            case hy => ((try dsimp only at hV);  have qk := HC.out V hV.2.1; have p0 := qk.1; have p1 := qk.2.1; have p2 := qk.2.2; have p3 := hV.2.2.2.1; go_simp; try with_reducible rfl)
            try simp only [Act.put, List.getElem_toArray, List.getElem_cons_succ, List.getElem_cons_zero, List.setIfInBounds_toArray, List.set_cons_zero, List.set_cons_succ]
            refine' anyI_take R 4 rfl (v := ?_) (by kernel_rfl) (by rfl) (fun V hV => ?hy) HS0.out ?_
            case hy => ((try dsimp only at hV);  have qk := HC.out V hV.2.1; have p0 := qk.1; have p1 := qk.2.1; have p2 := qk.2.2; have p3 := hV.2.2.2.1; go_simp; try with_reducible rfl)
            try simp only [Act.put, List.getElem_toArray, List.getElem_cons_succ, List.getElem_cons_zero, List.setIfInBounds_toArray, List.set_cons_zero, List.set_cons_succ]
            refine' anyI_take R 5 rfl (v := ?_) (by kernel_rfl) (by rfl) (fun V hV => ?hy) HS0.out ?_
            case hy => ((try dsimp only at hV);  have qk := HC.out V hV.2.1; have p0 := qk.1; have p1 := qk.2.1; have p2 := qk.2.2; have p3 := hV.2.2.2.1; go_simp; try with_reducible rfl)
            try simp only [Act.put, List.getElem_toArray, List.getElem_cons_succ, List.getElem_cons_zero, List.setIfInBounds_toArray, List.set_cons_zero, List.set_cons_succ]
            refine' anyI_take R 6 rfl (v := ?_) (by kernel_rfl) (by rfl) (fun V hV => ?hy) HS0.out ?_
            case hy => ((try dsimp only at hV);  have qk := HC.out V hV.2.1; have p0 := qk.1; have p1 := qk.2.1; have p2 := qk.2.2; have p3 := hV.2.2.2.1; go_simp; try with_reducible rfl)
            try simp only [Act.put, List.getElem_toArray, List.getElem_cons_succ, List.getElem_cons_zero, List.setIfInBounds_toArray, List.set_cons_zero, List.set_cons_succ]
            refine' anyI_take R 7 rfl (v := ?_) (by kernel_rfl) (by rfl) (fun V hV => ?hy) HS0.out ?_
            case hy => ((try dsimp only at hV);  have qk := HC.out V hV.2.1; have p0 := qk.1; have p1 := qk.2.1; have p2 := qk.2.2; have p3 := hV.2.2.2.1; go_simp; try with_reducible rfl)
            try simp only [Act.put, List.getElem_toArray, List.getElem_cons_succ, List.getElem_cons_zero, List.setIfInBounds_toArray, List.set_cons_zero, List.set_cons_succ]
            refine' anyI_take R 8 rfl (v := ?_) (by kernel_rfl) (by rfl) (fun V hV => ?hy) HS0.out ?_
            case hy => ((try dsimp only at hV);  have qk := HC.out V hV.2.1; have p0 := qk.1; have p1 := qk.2.1; have p2 := qk.2.2; have p3 := hV.2.2.2.1; go_simp; try with_reducible rfl)
            try simp only [Act.put, List.getElem_toArray, List.getElem_cons_succ, List.getElem_cons_zero, List.setIfInBounds_toArray, List.set_cons_zero, List.set_cons_succ]
            refine' anyI_take R 9 rfl (v := ?_) (by kernel_rfl) (by rfl) (fun V hV => ?hy) HS0.out ?_
            case hy => ((try dsimp only at hV);  have qk := HC.out V hV.2.1; have p0 := qk.1; have p1 := qk.2.1; have p2 := qk.2.2; have p3 := hV.2.2.2.1; go_simp; try with_reducible rfl)
            try simp only [Act.put, List.getElem_toArray, List.getElem_cons_succ, List.getElem_cons_zero, List.setIfInBounds_toArray, List.set_cons_zero, List.set_cons_succ]
            refine' anyI_take R 10 rfl (v := ?_) (by kernel_rfl) (by rfl) (fun V hV => ?hy) HS0.out ?_
            case hy => ((try dsimp only at hV);  have qk := HC.out V hV.2.1; have p0 := qk.1; have p1 := qk.2.1; have p2 := qk.2.2; have p3 := hV.2.2.2.1; go_simp; try with_reducible rfl)
            try simp only [Act.put, List.getElem_toArray, List.getElem_cons_succ, List.getElem_cons_zero, List.setIfInBounds_toArray, List.set_cons_zero, List.set_cons_succ]
            refine' anyI_take R 11 rfl (v := ?_) (by kernel_rfl) (by rfl) (fun V hV => ?hy) HS0.out ?_
            case hy => ((try dsimp only at hV);  have qk := HC.out V hV.2.1; have p0 := qk.1; have p1 := qk.2.1; have p2 := qk.2.2; have p3 := hV.2.2.2.1; go_simp; try with_reducible rfl)
            try simp only [Act.put, List.getElem_toArray, List.getElem_cons_succ, List.getElem_cons_zero, List.setIfInBounds_toArray, List.set_cons_zero, List.set_cons_succ]
            refine' anyI_take R 12 rfl (v := ?_) (by kernel_rfl) (by rfl) (fun V hV => ?hy) HS0.out ?_
            case hy => ((try dsimp only at hV);  have qk := HC.out V hV.2.1; have p0 := qk.1; have p1 := qk.2.1; have p2 := qk.2.2; have p3 := hV.2.2.2.1; go_simp; try with_reducible rfl)
            try simp only [Act.put, List.getElem_toArray, List.getElem_cons_succ, List.getElem_cons_zero, List.setIfInBounds_toArray, List.set_cons_zero, List.set_cons_succ]
            refine' anyI_take R 13 rfl (v := ?_) (by kernel_rfl) (by rfl) (fun V hV => ?hy) HS0.out ?_
            case hy => ((try dsimp only at hV);  have qk := HC.out V hV.2.1; have p0 := qk.1; have p1 := qk.2.1; have p2 := qk.2.2; have p3 := hV.2.2.2.1; go_simp; try with_reducible rfl)
            try simp only [Act.put, List.getElem_toArray, List.getElem_cons_succ, List.getElem_cons_zero, List.setIfInBounds_toArray, List.set_cons_zero, List.set_cons_succ]
            refine anyI_one 14 (by kernel_rfl) rfl ?_
            try simp only [List.getElem_toArray, List.getElem_cons_succ, List.getElem_cons_zero]
            refine opE_step ?_
            rw [if_pos (by rfl)]
            go_simp
            go_at_call 58
            refine (CC.out _ HS0.out.2.1).mono ?_
            rintro e w1 ⟨v1, rfl, OV, hb⟩
            have HZ := Lib.hid HS0.out.sz
            replace HS0 := Lib.hid (FdS.below HS0.out hb)
            obtain ⟨g1, cp1, rfl, hg1, hgl, hcp, _, hr1⟩ := OV.pos (by rw [HD.out]; omega)
            rw [HD.out]
            have Hr1 := Lib.hid hr1
            have Hg1 := Lib.hid (Nat.le_trans HZ.out hg1)
            have HW := Lib.hid hg1
            rw [HD.out] at hcp
            clear hb OV HZ hr1 hg1
            try dsimp only
            refine ⟨HS0.out, ?_⟩
            try simp only [Act.put, List.getElem_toArray, List.getElem_cons_succ, List.getElem_cons_zero, List.setIfInBounds_toArray, List.set_cons_zero, List.set_cons_succ]
            refine' anyI_take R 15 rfl (v := ?_) (by kernel_rfl) (by rfl) (fun V hV => ?hy) HS0.out ?_
            case hy => ((try dsimp only at hV);  have qk := HC.out V hV.2.1; have p0 := qk.1; have p1 := qk.2.1; have p2 := qk.2.2; have p3 := hV.2.2.2.1; go_simp; try with_reducible rfl)
            try simp only [Act.put, List.getElem_toArray, List.getElem_cons_succ, List.getElem_cons_zero, List.setIfInBounds_toArray, List.set_cons_zero, List.set_cons_succ]
            refine anyI_one 16 (by kernel_rfl) rfl ?_
            try simp only [List.getElem_toArray, List.getElem_cons_succ, List.getElem_cons_zero]
            refine opE_step ?_
            rw [if_pos (by rfl)]
            go_simp
            replace HS0 := Lib.hid (FdS.below HS0.out (below1 w1 (.cells #[.int .i64 (u0 : Int), .int .i64 (u1 : Int), .slice (some ⟨g1, 0, none⟩) 32 cp1] 43)))
            try dsimp only
            refine ⟨HS0.out, ?_⟩
            try simp only [Act.put, List.getElem_toArray, List.getElem_cons_succ, List.getElem_cons_zero, List.setIfInBounds_toArray, List.set_cons_zero, List.set_cons_succ]
            refine anyI_tail (by kernel_rfl) ?_
            try simp only [List.drop_succ_cons, List.drop_zero]
            clear R
            have HA := Lib.hid HS0.out
            have HN := Lib.hid (fun ob (hob : ob = v.ownBlock) => src_one (w := w1.alloc (.cells #[.int .i64 (u0 : Int), .int .i64 (u1 : Int), .slice (some ⟨g1, 0, none⟩) 32 cp1] 43)) (lo := w.heap.size + 2) (g := w1.heap.size) (ob := ob) (x := ⟨(u0 : Int), (u1 : Int), dat⟩) (D := some ⟨g1, 0, none⟩) (c := cp1) (by dsimp only; rw [HD.out]; exact heap_alloc_new _ _) ((Hr1.out.below (below1 w1 _) (Nat.le_refl _)).more (by simp)) (by dsimp only; rw [HD.out]; exact hcp) (fun _ a ha => by
              injection ha with ha
              subst ha
              refine ⟨fun e => ?_, Hg1.out⟩
              rw [hob] at e
              have h1 := (Hst.out.1.lt g1 e.symm).2
              exact absurd (Nat.lt_of_lt_of_le h1 HW.out) (Nat.lt_irrefl _)))
            go_wp2_with (
              ((with_reducible refine (id ?_ : wpList _ _ _ (⟨some 60, _, _, _, _, _⟩ :: _) _ _)); refine wpList_append_I _ (by rfl) _ _ _ (by rfl) (w.heap.size + 2) (w.heap.size + 2) 43 Tryd.underlying27 infoI v _ (by rfl) HA.out.1 (some ⟨w1.heap.size, 0, none⟩) 1 1 _ (by rfl) (by rfl) (HN.out _ rfl) (by rw [itsN_len]; show i + 1 ≤ _; omega) HA.out.sz ?_
               intro v4 w4 O4 g4 _
               obtain ⟨A4, c4, rfl, _, _⟩ := O4.rd
               have H4 := Lib.hid (show FdS w y _ (itsN rs (i + 1)) (w4.setCell ⟨w.heap.size + 1, 1, none⟩ (.slice A4 _ c4)) from FdS.put1 HA.out g4 (by rw [HIt.out]; exact O4))
               obtain ⟨_, _, _, q3', q4', _⟩ := HA.out.grow g4 (fun k e => (HA.out.1.lt k e).1) O4
               have q5' := q4' 1
               rw [show (itsN rs i ++ [(⟨(u0 : Int), (u1 : Int), dat⟩ : It)]).length = (itsN rs i).length + 1 from List.length_append] at H4
               clear O4 g4 q4'))
            refine NoPanic.normal ?_
            go_wp2
            go_roundw
            case rel => exact ⟨i + 1, _, by omega, by go_num, H4.out⟩
            case measure => simp [intOf]; omega
          · obtain rfl : i = 3 := by omega
            obtain ⟨h0, h1, h2, h3, h4, h5, h6, h7⟩ := Hst.out
            have f0 := h7 0
            have f1 := h7 1
            have HF := Lib.hid (FdS.put_end Hst.out)
            obtain ⟨A5, c5, rfl, _, _⟩ := h0.rd
            clear h0 h1 h4 h7
            go_wp2
            refine bodyPost_ret (v := .agg #[.int .i64 y, .slice A5 (itsN rs 3).length c5]) (by simp [results, Tryd.results70, go_sem, HF.out.1, HF.out.2.1]) rfl ⟨_, by rw [HY.out], by rw [HI.out]; exact HF.out.2.2.1, HF.out.2.2.2⟩
end Go.Proofs.YtoomdgidpplpfaaDoor
end
section
set_option linter.unusedVariables false
set_option linter.unusedSimpArgs false
namespace Go.Proofs.YtoomdgidpplpfaaDoor
open Go.RowKit

theorem itcs_setD : ∀ (l : List It) (xs : List Value) (k : Nat) (d : Int), xs.length = l.length → k < l.length → itcs (l.set k ⟨d, (itN l k).a, (itN l k).b⟩) xs = (itcs l xs).set (k * 3) (.int .i64 d)
  | [], _, _, _, _, hk => by simp at hk
  | _ :: _, [], _, _, h, _ => by simp at h
  | x :: l, v :: xs, 0, d, _, _ => rfl
  | x :: l, v :: xs, k + 1, d, hl, hk => by
    have := itcs_setD l xs k d (by simpa using hl) (by simpa using hk)
    rw [show (k + 1) * 3 = k * 3 + 1 + 1 + 1 from by omega]
    simp only [itcs, List.set_cons_succ]
    rw [← this]; rfl
theorem itcs_setA : ∀ (l : List It) (xs : List Value) (k : Nat) (a : Int), xs.length = l.length → k < l.length → itcs (l.set k ⟨(itN l k).d, a, (itN l k).b⟩) xs = (itcs l xs).set (k * 3 + 1) (.int .i64 a)
  | [], _, _, _, _, hk => by simp at hk
  | _ :: _, [], _, _, h, _ => by simp at h
  | x :: l, v :: xs, 0, d, _, _ => rfl
  | x :: l, v :: xs, k + 1, d, hl, hk => by
    have := itcs_setA l xs k d (by simpa using hl) (by simpa using hk)
    rw [show (k + 1) * 3 + 1 = k * 3 + 1 + 1 + 1 + 1 by omega]
    simp only [itcs, List.set_cons_succ]
    rw [← this]; rfl
theorem itcs_setB : ∀ (l : List It) (xs : List Value) (k : Nat) (b : List UInt8) (u : Value), xs.length = l.length → k < l.length → itcs (l.set k ⟨(itN l k).d, (itN l k).a, b⟩) (xs.set k u) = (itcs l xs).set (k * 3 + 2) u
  | [], _, _, _, _, _, hk => by simp at hk
  | _ :: _, [], _, _, _, h, _ => by simp at h
  | x :: l, v :: xs, 0, d, _, _, _ => rfl
  | x :: l, v :: xs, k + 1, d, u, hl, hk => by
    have := itcs_setB l xs k d u (by simpa using hl) (by simpa using hk)
    rw [show (k + 1) * 3 + 2 = k * 3 + 2 + 1 + 1 + 1 by omega]
    simp only [itcs, List.set_cons_succ]
    rw [← this]; rfl
theorem map_set_same (l : List It) (k : Nat) (x : It) (h : x.b = (itN l k).b) (hk : k < l.length) : (l.set k x).map (·.b) = l.map (·.b) := by
  apply List.ext_getElem (by simp)
  intro n h1 h2
  simp only [List.getElem_map, List.getElem_set]
  split
  · subst_vars
    rw [h]; simp [itN, List.getD_eq_getElem?_getD, hk]
  · rfl
section
variable {e : TypeId} {w : World} {B lo g n cap : Nat} {l : List It}
theorem OwIt.setX (h : OwIt e w B lo (.slice (some ⟨g, 0, none⟩) n cap) l) (hn : l.length = n) (j : Nat) (u : Value) (l' : List It) (xs' : List Value → List Value) (hl : l'.length = l.length)
    (hx : ∀ xs, xs.length = l.length → itcs l' (xs' xs) = (itcs l xs).set j u) (hr : ∀ (w' : World) xs, RowsL w' lo (some g) xs (l.map (·.b)) → RowsL w' lo (some g) (xs' xs) (l'.map (·.b))) :
    OwIt e (w.setCell ⟨g, j, none⟩ u) B lo (.slice (some ⟨g, 0, none⟩) n cap) l' ∧ w.grownBy (w.setCell ⟨g, j, none⟩ u) (some g) := by
  subst hn
  obtain ⟨xs, h1, h2, h3⟩ := h
  have hxl : xs.length = l.length := by have := h2.1; simpa using this
  obtain ⟨k1, k2⟩ := h1.stored j u
  refine ⟨⟨xs' xs, ?_, hr _ _ (h2.grown k2 (.inl rfl) (.inl rfl)), by rw [hl]; exact h3⟩, k2⟩
  rw [hx xs hxl, hl]; exact k1
theorem OwIt.setD (h : OwIt e w B lo (.slice (some ⟨g, 0, none⟩) n cap) l) (hn : l.length = n) (k : Nat) (hk : k < n) (d : Int) :
    OwIt e (w.setCell ⟨g, k * 3, none⟩ (.int .i64 d)) B lo (.slice (some ⟨g, 0, none⟩) n cap) (l.set k ⟨d, (itN l k).a, (itN l k).b⟩) ∧ w.grownBy (w.setCell ⟨g, k * 3, none⟩ (.int .i64 d)) (some g) :=
  h.setX hn _ _ _ (fun xs => xs) (by simp) (fun xs hx => itcs_setD l xs k d hx (by omega)) fun w' xs h => by rw [map_set_same l k ⟨d, (itN l k).a, (itN l k).b⟩ rfl (by omega)]; exact h
theorem OwIt.setA (h : OwIt e w B lo (.slice (some ⟨g, 0, none⟩) n cap) l) (hn : l.length = n) (k : Nat) (hk : k < n) (a : Int) :
    OwIt e (w.setCell ⟨g, k * 3 + 1, none⟩ (.int .i64 a)) B lo (.slice (some ⟨g, 0, none⟩) n cap) (l.set k ⟨(itN l k).d, a, (itN l k).b⟩) ∧ w.grownBy (w.setCell ⟨g, k * 3 + 1, none⟩ (.int .i64 a)) (some g) :=
  h.setX hn _ _ _ (fun xs => xs) (by simp) (fun xs hx => itcs_setA l xs k a hx (by omega)) fun w' xs h => by rw [map_set_same l k ⟨(itN l k).d, a, (itN l k).b⟩ rfl (by omega)]; exact h
/-- Data cut short. -/
theorem OwIt.cell (h : OwIt e w B lo (.slice (some ⟨g, 0, none⟩) n cap) l) (hn : l.length = n) (k : Nat) (hk : k < n) :
    ∃ D c, w.rangeAt g (k * 3) [.int .i64 (itN l k).d, .int .i64 (itN l k).a, .slice D (itN l k).b.length c] ∧ (itN l k).b.length ≤ c ∧ ∀ m, m ≤ (itN l k).b.length →
      OwIt e (w.setCell ⟨g, k * 3 + 2, none⟩ (.slice D m c)) B lo (.slice (some ⟨g, 0, none⟩) n cap) (l.set k ⟨(itN l k).d, (itN l k).a, (itN l k).b.take m⟩) ∧ w.grownBy (w.setCell ⟨g, k * 3 + 2, none⟩ (.slice D m c)) (some g) := by
  subst hn
  have h' := h
  obtain ⟨xs, h1, h2, h3⟩ := h
  have hxl : xs.length = l.length := by have := h2.1; simpa using this
  obtain ⟨D, c', hx, hc, hr, hne⟩ := h2.2 k (by simpa using hk)
  rw [itB_get hk] at hx hr hc hne
  refine ⟨D, c', fun j u hj => ?_, hc, fun m hm => ?_⟩
  · have hj3 : j < 3 := (List.getElem?_eq_some_iff.1 hj).1
    rw [rx_cell_at h1 _ (by rw [itcs_len _ _ hxl]; omega), itcs_get l xs k _ hxl hx j hj3]
    exact hj
  · obtain ⟨k1, k2⟩ := h1.stored (k * 3 + 2) (.slice D m c')
    have ht : ((itN l k).b.take m).length = m := by rw [List.length_take]; omega
    have R0 := h2.grown k2 (.inl rfl) (.inl rfl)
    refine ⟨⟨xs.set k (.slice D m c'), ?_, ⟨by simpa using hxl, fun i hi => ?_⟩, by simp; omega⟩, k2⟩
    · rw [itcs_setB l xs k _ _ hxl hk, List.length_set]; exact k1
    · simp only [List.length_map, List.length_set] at hi
      by_cases hik : i = k
      · subst hik
        have e1 : ((l.set i ⟨(itN l i).d, (itN l i).a, (itN l i).b.take m⟩).map (·.b)).getD i [] = (itN l i).b.take m := by simp [List.getD_eq_getElem?_getD, hi]
        obtain ⟨A', c2, q1, q2, q3, q4⟩ := R0.2 i (by simpa using hi)
        rw [itB_get hi] at q1 q2 q3 q4
        obtain ⟨e3, e4, e5⟩ : D = A' ∧ True ∧ c' = c2 := by
          rw [hx] at q1; injection q1 with q1; injection q1 with r1 r2 r3; exact ⟨r1, trivial, r3⟩
        subst e3 e5
        rw [e1, ht]
        refine ⟨D, c', by rw [List.getElem?_set_self (by omega)], by omega, ?_, fun h0 => hne (by omega)⟩
        refine ⟨by rw [ht]; have := q3.1; omega, fun h0 => ?_⟩
        obtain ⟨b, off, rfl, hb, hcell⟩ := q3.2 (by omega)
        refine ⟨b, off, rfl, hb, fun j hj => ?_⟩
        rw [ht] at hj
        rw [hcell j (by omega)]
        simp [List.getD_eq_getElem?_getD, List.getElem?_take, hj]
      · have e1 : ((l.set k ⟨(itN l k).d, (itN l k).a, (itN l k).b.take m⟩).map (·.b)).getD i [] = (l.map (·.b)).getD i [] := by
          simp [List.getD_eq_getElem?_getD, List.getElem?_set_ne (Ne.symm hik)]
        rw [e1, List.getElem?_set_ne (Ne.symm hik)]
        exact R0.2 i (by simpa using hi)
end
end Go.Proofs.YtoomdgidpplpfaaDoor
end
section
namespace Go.Proofs.YtoomdgidpplpfaaDoor
open Go.RowKit

/-- A part of a piece of code. -/
def sub : List Nat → Code → Code
  | [], c => c
  | 0 :: p, .seq a _ => sub p a
  | _ :: p, .seq _ b => sub p b
  | _ :: p, .block _ c => sub p c
  | _ :: p, .loop c => sub p c
  | _ :: p, .scope c => sub p c
  | 0 :: p, .cond _ a _ => sub p a
  | _ :: p, .cond _ _ b => sub p b
  | _, c => c
theorem wp_block_then {P : Program} {id : Nat} {c : Code} {K : Act → World → Prop} {Q : Exit → Act → World → Prop} {a : Act} {w : World} (h : c.wp P (Exit.then K (Exit.inBlock id (Exit.then K Q))) a w) : (Code.block id c).wp P (Exit.then K Q) a w :=
  wp_block (wp_mono h fun e a w h => by cases e <;> exact h)
end Go.Proofs.YtoomdgidpplpfaaDoor
end
