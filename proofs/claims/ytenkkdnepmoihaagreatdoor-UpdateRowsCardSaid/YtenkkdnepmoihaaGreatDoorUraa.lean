/- Texts put together: Mem, CrcMath, Feed, Law, Laid, Bools, LawArgs. -/
import Derived.WalkKit
import Derived.Lib.Hide
import Derived.Lib.SlBytesConst
import Derived.Deep.OwnRows
import Derived.Deep.DeepCutAuto
import Derived.Deep.RegionHeld3
import Derived.Deep.QuietTactic
import Derived.BigQuiet
import Derived.Handy
import Derived.Deep.Light
import Derived.Lib.ItoaWalk
import Derived.Test.YtenkkdnepmoihaaGreatDoorProg
import Derived.ProofKit
import Derived.OpenShut
import Derived.Carry
import Derived.SizedLaws
import GoSem.ClaimSeven
import Derived.Deep.DeepHandedRow
import Derived.Lib.LaidTab
import Derived.Test.YtenkkdnepmoihaaGreatDoorCards
import Derived.Test.YtenkkdnepmoihaaGreatDoorTie
import Derived.Deep.Grids
section
namespace Go.Proofs.YtenkkdnepmoihaaGreatDoor
open Go.RowKit

theorem hp_new (w : World) (o : Obj) (g : Nat) (h : g = w.heap.size) : (w.alloc o).heap[g]? = some o := by subst h; exact heap_alloc_new _ _
theorem hp_old (w : World) (o : Obj) (g : Nat) (h : g < w.heap.size) : (w.alloc o).heap[g]? = w.heap[g]? := heap_alloc_old w o h
theorem belowN (B : Nat) (w : World) (n : Nat) : Below B w (w.drewN n) := ⟨rfl, rfl, rfl, Nat.le_refl _, fun _ _ => rfl⟩
theorem below1 (w : World) (o : Obj) : Below w.heap.size w (w.alloc o) := (Below.refl _ _).alloc (Nat.le_refl _) o
theorem below2 (w : World) (o o' : Obj) : Below w.heap.size w ((w.alloc o).alloc o') := (below1 w o).alloc (by simp) o'
theorem below3 (w : World) (o o' o'' : Obj) : Below w.heap.size w (((w.alloc o).alloc o').alloc o'') := (below2 w o o').alloc (by simp; omega) o''
/-- A byte as a value. -/
def bv (b : UInt8) : Value := .int .u8 (b.toNat : Int)

/-- The slice's address and length read as these bytes; its cells lie below block B. -/
def RdB (w : World) (B : Nat) (A : Option Addr) (bs : List UInt8) : Prop :=
  bs.length ≤ 140737488355328 ∧ (0 < bs.length → ∃ b off, A = some ⟨b, off, none⟩ ∧ b < B ∧ ∀ k, k < bs.length → w.cell? ⟨b, off + k, none⟩ = some (.int .u8 ((bs.getD k 0).toNat : Int)))

/-- The slice of slices reads as these rows. -/
def RdR (w : World) (B : Nat) (A : Option Addr) (rs : List (List UInt8)) : Prop :=
  rs.length ≤ 140737488355328 ∧ (0 < rs.length → ∃ b off, A = some ⟨b, off, none⟩ ∧ b < B ∧ ∀ k, k < rs.length → ∃ A' c, w.cell? ⟨b, off + k, none⟩ = some (.slice A' (rs.getD k []).length c) ∧ RdB w B A' (rs.getD k []))

theorem RdB.keep {w w' : World} {B B' : Nat} {A : Option Addr} {bs : List UInt8} (h : RdB w B A bs) (hB : B ≤ B') (hk : ∀ p : Addr, p.block < B → w'.cell? p = w.cell? p) : RdB w' B' A bs :=
  ⟨h.1, fun hn => by
    obtain ⟨b, off, e, hb, hc⟩ := h.2 hn
    exact ⟨b, off, e, by omega, fun k hk' => (hk ⟨b, off + k, none⟩ hb).trans (hc k hk')⟩⟩
theorem RdR.keep {w w' : World} {B B' : Nat} {A : Option Addr} {rs : List (List UInt8)} (h : RdR w B A rs) (hB : B ≤ B') (hk : ∀ p : Addr, p.block < B → w'.cell? p = w.cell? p) : RdR w' B' A rs :=
  ⟨h.1, fun hn => by
    obtain ⟨b, off, e, hb, hc⟩ := h.2 hn
    refine ⟨b, off, e, by omega, fun k hk' => ?_⟩
    obtain ⟨A', c, h1, h2⟩ := hc k hk'
    exact ⟨A', c, (hk ⟨b, off + k, none⟩ hb).trans h1, h2.keep hB hk⟩⟩
theorem RdB.below {w w' : World} {B B' : Nat} {A : Option Addr} {bs : List UInt8} (h : RdB w B A bs) (hb : Below B' w w') (hB : B ≤ B') : RdB w' B A bs := h.keep (Nat.le_refl _) fun p hp => hb.cell (by omega)
theorem RdR.below {w w' : World} {B B' : Nat} {A : Option Addr} {rs : List (List UInt8)} (h : RdR w B A rs) (hb : Below B' w w') (hB : B ≤ B') : RdR w' B A rs := h.keep (Nat.le_refl _) fun p hp => hb.cell (by omega)
theorem RdB.more {w : World} {B B' : Nat} {A : Option Addr} {bs : List UInt8} (h : RdB w B A bs) (hB : B ≤ B') : RdB w B' A bs := h.keep hB fun _ _ => rfl
theorem RdR.more {w : World} {B B' : Nat} {A : Option Addr} {rs : List (List UInt8)} (h : RdR w B A rs) (hB : B ≤ B') : RdR w B' A rs := h.keep hB fun _ _ => rfl
theorem RdB.nil (w : World) (B : Nat) (A : Option Addr) : RdB w B A [] := ⟨by simp, fun h => by simp at h⟩
/-- A new block that holds slices: a row of rows. -/
theorem rdr_cells {w : World} {g : Nat} {cs : Array Value} {t : TypeId} {f : Nat × Nat} {rs : List (List UInt8)} {B : Nat} (hg : w.heap[g]? = some (.cells cs t f)) (hB : g < B) (hl : rs.length ≤ 140737488355328)
    (h : ∀ k, k < rs.length → ∃ A c, cs[k]? = some (.slice A (rs.getD k []).length c) ∧ RdB w B A (rs.getD k [])) : RdR w B (some ⟨g, 0, none⟩) rs :=
  ⟨hl, fun _ => ⟨g, 0, rfl, hB, fun k hk => by
    obtain ⟨A, c, h1, h2⟩ := h k hk
    exact ⟨A, c, by rw [Nat.zero_add, cell_of_row w g k cs t f hg]; exact h1, h2⟩⟩⟩
/-- A new block of bytes, read whole. -/
theorem rdb_block {w : World} {g : Nat} {cs : Array Value} {t : TypeId} {f : Nat × Nat} {bs : List UInt8} {B : Nat} (hg : w.heap[g]? = some (.cells cs t f)) (hB : g < B) (hl : bs.length ≤ 140737488355328)
    (h : ∀ k, k < bs.length → cs[k]? = some (.int .u8 ((bs.getD k 0).toNat : Int))) : RdB w B (some ⟨g, 0, none⟩) bs :=
  ⟨hl, fun _ => ⟨g, 0, rfl, hB, fun k hk => by rw [Nat.zero_add, cell_of_row w g k cs t f hg]; exact h k hk⟩⟩
theorem rdr_one {w : World} {A : Option Addr} {bs : List UInt8} {c : Nat} {t : TypeId} {B : Nat} (h : RdB w B A bs) (hB : B ≤ w.heap.size) : RdR (w.alloc (.cells #[.slice A bs.length c] t)) (w.heap.size + 1) (some ⟨w.heap.size, 0, none⟩) [bs] :=
  rdr_cells (heap_alloc_new w _) (by omega) (by simp) fun k hk => by
    obtain rfl : k = 0 := by simp at hk; omega
    exact ⟨A, c, rfl, (h.keep (w' := w.alloc _) (B' := w.heap.size + 1) (by omega) fun p hp => World.cell?_alloc_lt w _ p (by omega))⟩
theorem rdr_two {w : World} {A A' : Option Addr} {bs bs' : List UInt8} {c c' : Nat} {t : TypeId} {B : Nat} (h : RdB w B A bs) (h' : RdB w B A' bs') (hB : B ≤ w.heap.size) :
    RdR (w.alloc (.cells #[.slice A bs.length c, .slice A' bs'.length c'] t)) (w.heap.size + 1) (some ⟨w.heap.size, 0, none⟩) [bs, bs'] :=
  rdr_cells (heap_alloc_new w _) (by omega) (by simp) fun k hk => by
    obtain rfl | rfl : k = 0 ∨ k = 1 := by simp at hk; omega
    · exact ⟨A, c, rfl, h.keep (by omega) fun p hp => World.cell?_alloc_lt w _ p (by omega)⟩
    · exact ⟨A', c', rfl, h'.keep (by omega) fun p hp => World.cell?_alloc_lt w _ p (by omega)⟩
theorem rdr_block2 {w : World} {g : Nat} {A A' : Option Addr} {n n' c c' : Nat} {bs bs' : List UInt8} {t : TypeId} {f : Nat × Nat} {B : Nat} (hg : w.heap[g]? = some (.cells #[.slice A n c, .slice A' n' c'] t f)) (hn : n = bs.length) (hn' : n' = bs'.length)
    (h : RdB w B A bs) (h' : RdB w B A' bs') (hB : B ≤ w.heap.size) : RdR w w.heap.size (some ⟨g, 0, none⟩) [bs, bs'] := by
  subst hn hn'
  exact rdr_cells hg (Array.getElem?_eq_some_iff.1 hg).1 (by simp) fun k hk => by
    obtain rfl | rfl : k = 0 ∨ k = 1 := by simp at hk; omega
    · exact ⟨A, c, rfl, h.more hB⟩
    · exact ⟨A', c', rfl, h'.more hB⟩
/-- A slice cut: s[:k], s[k:]. -/
theorem RdB.take {w : World} {B : Nat} {A : Option Addr} {bs : List UInt8} (h : RdB w B A bs) (k : Nat) : RdB w B A (bs.take k) :=
  ⟨by have := h.1; simp; omega, fun hn => by
    have hn' : 0 < bs.length := by simp at hn; omega
    obtain ⟨b, off, e, hb, hc⟩ := h.2 hn'
    refine ⟨b, off, e, hb, fun j hj => ?_⟩
    have hj' : j < k ∧ j < bs.length := by simp at hj; omega
    rw [hc j hj'.2]
    simp [hj'.1]⟩
/-- n zero bytes as cells. -/
def zcells (n : Nat) : Array Value := madeCells #[.int .u8 0] n
theorem zcells_size (n : Nat) : (zcells n).size = n := size_madeCells _ _
end Go.Proofs.YtenkkdnepmoihaaGreatDoor
end
section
namespace Go.Proofs.YtenkkdnepmoihaaGreatDoor

def nibs : List Nat := [0, 274646895, 549293790, 820201905, 1098587580, 1361435347, 1640403810, 1905808397, 2197175160, 2460548119, 2722870694, 2987750089, 3280807620, 3553878443, 3811616794, 4084100981]
/-- Four digits taken out of a sum, by the table. -/
def half (x : Nat) : Nat := (x / 16) ^^^ nibs.getD (x % 16) 0
def stepB (x : Nat) (c : UInt8) : Nat := half (half (x ^^^ c.toNat))
def feedB (x : Nat) (bs : List UInt8) : Nat := bs.foldl stepB x
def feedR (x : Nat) (rs : List (List UInt8)) : Nat := rs.foldl feedB x
def sumR (rs : List (List UInt8)) : Nat := feedR 4294967295 rs ^^^ 4294967295

theorem nibs_lt (i : Nat) : nibs.getD i 0 < 4294967296 := by
  by_cases h : i < 16
  · exact (show ∀ i, i < 16 → nibs.getD i 0 < 4294967296 by decide) i h
  · rw [List.getD_eq_getElem?_getD, List.getElem?_eq_none (by simp [nibs]; omega)]; decide
theorem xor_lt32 {a b : Nat} (ha : a < 4294967296) (hb : b < 4294967296) : a ^^^ b < 4294967296 := Nat.xor_lt_two_pow (n := 32) ha hb
theorem half_lt {x : Nat} (h : x < 4294967296) : half x < 4294967296 := xor_lt32 (by omega) (nibs_lt _)
theorem stepB_lt {x : Nat} (c : UInt8) (h : x < 4294967296) : stepB x c < 4294967296 := half_lt (half_lt (xor_lt32 h (by have := c.toNat_lt; omega)))
theorem feedB_lt {x : Nat} (bs : List UInt8) (h : x < 4294967296) : feedB x bs < 4294967296 := by
  unfold feedB
  induction bs generalizing x with
  | nil => exact h
  | cons c r ih => exact ih (stepB_lt c h)
theorem feedR_lt {x : Nat} (rs : List (List UInt8)) (h : x < 4294967296) : feedR x rs < 4294967296 := by
  unfold feedR
  induction rs generalizing x with
  | nil => exact h
  | cons c r ih => exact ih (feedB_lt c h)
theorem foldl_snoc {α β : Type} (f : β → α → β) (x : β) (l : List α) (d : α) (j : Nat) (h : j < l.length) : (l.take (j + 1)).foldl f x = f ((l.take j).foldl f x) (l.getD j d) := by
  rw [List.take_succ_eq_append_getElem h, List.foldl_append]
  simp [h]
theorem feedB_snoc (x : Nat) (bs : List UInt8) (j : Nat) (h : j < bs.length) : feedB x (bs.take (j + 1)) = stepB (feedB x (bs.take j)) (bs.getD j 0) := foldl_snoc stepB x bs 0 j h
theorem feedR_snoc (x : Nat) (rs : List (List UInt8)) (j : Nat) (h : j < rs.length) : feedR x (rs.take (j + 1)) = feedB (feedR x (rs.take j)) (rs.getD j []) := foldl_snoc feedB x rs [] j h
/-- Byte k of a sum, the greatest first. -/
def beB (x k : Nat) : UInt8 := UInt8.ofNat (x / 2 ^ (24 - 8 * k))
def be4 (x : Nat) : List UInt8 := [beB x 0, beB x 1, beB x 2, beB x 3]
/-- The first k bytes of a stamp set in a sector. -/
def stampK (bs : List UInt8) (x k : Nat) : List UInt8 := (List.range k).foldl (fun l i => l.set (28 + i) (beB x i)) bs
/-- A sector, stamped. -/
def stamped (bs : List UInt8) (rs : List (List UInt8)) : List UInt8 := bs.take 28 ++ be4 (sumR (bs.take 28 :: rs))
theorem stampK_succ (bs : List UInt8) (x k : Nat) : stampK bs x (k + 1) = (stampK bs x k).set (28 + k) (beB x k) := by
  simp [stampK, List.range_succ, List.foldl_append]
theorem stampK_len (bs : List UInt8) (x k : Nat) : (stampK bs x k).length = bs.length := by
  induction k with
  | zero => rfl
  | succ k ih => rw [stampK_succ]; simp [ih]
theorem stampK_four (bs : List UInt8) (x : Nat) (h : bs.length = 32) : stampK bs x 4 = bs.take 28 ++ be4 x := by
  apply List.ext_getElem?
  intro i
  simp only [stampK, List.range_succ, List.range_zero, List.nil_append, List.cons_append, List.foldl_cons, List.foldl_nil, be4, Nat.add_zero]
  simp only [List.getElem?_set, List.length_set, h, List.getElem?_append, List.length_take]
  have hm : min 28 bs.length = 28 := by omega
  rw [h] at hm
  rw [hm]
  by_cases h1 : i < 28
  · rw [if_pos h1, if_neg (by omega), if_neg (by omega), if_neg (by omega), if_neg (by omega), List.getElem?_take, if_pos h1]
  · rw [if_neg h1]
    by_cases h2 : i = 28
    · subst h2; simp
    · by_cases h3 : i = 29
      · subst h3; simp
      · by_cases h4 : i = 30
        · subst h4; simp
        · by_cases h5 : i = 31
          · subst h5; simp
          · rw [if_neg (by omega), if_neg (by omega), if_neg (by omega), if_neg (by omega), List.getElem?_eq_none (by omega), List.getElem?_eq_none (by simp; omega)]
theorem stamped_len (bs : List UInt8) (rs : List (List UInt8)) (h : bs.length = 32) : (stamped bs rs).length = 32 := by simp [stamped, be4, h]
theorem sumR_lt (rs : List (List UInt8)) : sumR rs < 4294967296 := xor_lt32 (feedR_lt rs (by decide)) (by decide)
end Go.Proofs.YtenkkdnepmoihaaGreatDoor
end
section
namespace Go.Proofs.YtenkkdnepmoihaaGreatDoor
open Go.RowKit

def TabOk (w : World) : Prop := ∀ i, i < 16 → w.cell? ⟨0, i, none⟩ = some (.int .u32 ((nibs.getD i 0 : Nat) : Int))
theorem and15 (s : Nat) (h : s < 4294967296) : bits .and .u32 (s : Int) 15 = ((s % 16 : Nat) : Int) := by
  have := u32_and_nat s 15 h (by decide)
  rw [show ((15 : Nat) : Int) = 15 from rfl] at this
  rw [this, nat_mask4]
theorem shr_xor (s n : Nat) (h : s < 4294967296) (hn : n < 4294967296) : bits .xor .u32 ((s : Int) / 16) (n : Int) = (((s / 16) ^^^ n : Nat) : Int) := by
  have := u32_xor_nat (s / 16) n (by omega) hn
  rw [← this]; rfl
theorem TabOk.below {w w' : World} {B : Nat} (h : TabOk w) (hb : Below B w w') (hB : 0 < B) : TabOk w' := fun i hi => (hb.cell (p := ⟨0, i, none⟩) hB).trans (h i hi)
theorem TabOk.pos {w : World} (h : TabOk w) : 0 < w.heap.size := World.block_lt_of_cell? w ⟨0, 0, none⟩ (h 0 (by omega))
set_option maxHeartbeats 400000 in
theorem feed_any (A : Option Addr) (rs : List (List UInt8)) (cp : Nat) (x : Nat) (hx : x < 4294967296) (w : World) (hr : RdR w w.heap.size A rs) (ht : TabOk w) :
    Calls Tryz.prog 141 #[.int .u32 (x : Int), .slice A rs.length cp] w fun e w' => e = .returned (.int .u32 ((feedR x rs : Nat) : Int)) ∧ w' = w := by
  have hm := hr.1
  go_enter Tryz.func141, Tryz.ntmps141
  go_wp2
  go_loop [0, 11] (fun v i => ∃ k : Nat, k ≤ rs.length ∧ i = .int .i64 k ∧ v = .int .u32 ((feedR x (rs.take k) : Nat) : Int)) (fun _ i => rs.length - (intOf i).toNat)
  case atStart => exact ⟨0, Nat.zero_le _, rfl, rfl⟩
  case round =>
    obtain ⟨k, hk, rfl, rfl⟩ := hrel
    have hy := feedR_lt (rs.take k) hx
    by_cases hlt : k < rs.length
    · obtain ⟨b, off, rfl, hb, hc⟩ := hr.2 (by omega)
      obtain ⟨A', c', h1, h2⟩ := hc k hlt
      have Hsn := Lib.hid (feedR_snoc x rs k hlt)
      generalize rs.getD k [] = row at h1 h2 Hsn
      generalize feedR x (rs.take k) = y at hy Hsn
      clear hc
      have hlen := h2.1
      go_wp2
      go_loop [0, 17] (fun v i => ∃ j : Nat, j ≤ row.length ∧ i = .int .i64 j ∧ v = .int .u32 ((feedB y (row.take j) : Nat) : Int)) (fun _ i => row.length - (intOf i).toNat)
      case atStart => exact ⟨0, Nat.zero_le _, rfl, rfl⟩
      case round =>
        obtain ⟨j, hj, rfl, rfl⟩ := hrel
        have hz := feedB_lt (row.take j) hy
        by_cases hlt2 : j < row.length
        · obtain ⟨b2, off2, rfl, hb2, hc2⟩ := h2.2 (by omega)
          have h3 := hc2 j hlt2
          have Hsn2 := Lib.hid (feedB_snoc y row j hlt2)
          generalize row.getD j 0 = c at h3 Hsn2
          generalize feedB y (row.take j) = z at hz Hsn2
          have hcb : c.toNat < 256 := c.toNat_lt
          clear hc2
          have e0 := u32_xor_nat z c.toNat hz (by omega)
          have hs0 := xor_lt32 hz (show c.toNat < 4294967296 by omega)
          have Hst : Hid (stepB z c = half (half (z ^^^ c.toNat))) := rfl
          generalize z ^^^ c.toNat = s0 at e0 hs0 Hst
          have e1 := and15 s0 hs0
          have t1 := ht (s0 % 16) (by omega)
          have n1 := nibs_lt (s0 % 16)
          have e2 := shr_xor s0 _ hs0 n1
          have hs1 := half_lt hs0
          rw [show (s0 / 16) ^^^ nibs.getD (s0 % 16) 0 = half s0 from rfl] at e2
          generalize half s0 = s1 at e2 hs1 Hst
          generalize nibs.getD (s0 % 16) 0 = m1 at t1 n1 e2
          have e3 := and15 s1 hs1
          have t2 := ht (s1 % 16) (by omega)
          have n2 := nibs_lt (s1 % 16)
          have e4 := shr_xor s1 _ hs1 n2
          have hs2 := half_lt hs1
          rw [show (s1 / 16) ^^^ nibs.getD (s1 % 16) 0 = half s1 from rfl] at e4
          generalize half s1 = s2 at e4 hs2 Hst
          generalize nibs.getD (s1 % 16) 0 = m2 at t2 n2 e4
          go_wp2
          go_round
          case rel => exact ⟨j + 1, by omega, by go_num, by rw [Hsn2.out, Hst.out]⟩
          case measure => simp [intOf]; omega
        · obtain rfl : j = row.length := by omega
          go_wp2
          go_round
          case rel => exact ⟨k + 1, by omega, by go_num, by rw [Hsn.out, List.take_length]⟩
          case measure => simp [intOf]; omega
    · obtain rfl : k = rs.length := by omega
      go_wp2
      go_ret
      exact ⟨rfl, rfl⟩
end Go.Proofs.YtenkkdnepmoihaaGreatDoor
end
section
namespace Go.Proofs.YtenkkdnepmoihaaGreatDoor
open Go.ChangeShapes Go.WideShapes Go.ChangeAt Go.RowKit

section
variable {H : Type} {enc : TypeId × Value → H} {P : Program}

/-- All arguments read behind the call as they did, where nothing old has turned. -/
theorem args_again (hl : laidOutB P = true) {W W' : World} (hb : Below W.heap.size W W') :
    ∀ {ts : List TypeId} {vs : List Value} {ds : List (DataW H)} {p : List MemPlace}, (∀ t ∈ ts, P.readableRec t = true ∧ t < P.types.size) →
      DataW.TrodAll enc P W 0 (fun _ => true) true ts vs ds p → (∀ x ∈ p, x.block < W.heap.size) → DataW.TrodAll enc P W' 0 (fun b => decide (b < W.heap.size)) true ts vs ds p
  | [], _, _, _, _, h, _ => by
    obtain ⟨rfl, rfl, rfl⟩ := trodAll_nil h
    exact trodAll_mk0
  | t :: ts, _, _, _, hts, h, hlt => by
    obtain ⟨v, vs1, d, ds1, a, b, rfl, rfl, rfl, h1, h2⟩ := trodAll_cons h
    have ht := hts t (by simp)
    exact trodAll_cons_mk (Below.trod hl ht.1 ht.2 h1 hb fun x hx => hlt x (by simp [hx])) (args_again hl hb (fun t' ht' => hts t' (by simp [ht'])) h2 fun x hx => hlt x (by simp [hx]))

/-- A law's row behind the walk: true came back, and nothing old has turned. -/
theorem law_post {f : Func} {s : ChangeSpec} {W W' : World} {args : Array Value} {ds gs : List (DataW H)} {before : List MemPlace} {tb : TypeId} (hl : laidOutB P = true)
    (hts0 : (f.params.toList.all fun t => P.readableRec t && decide (t < P.types.size)) = true) (hv : s.vars = []) (hr : f.resultTypes = #[tb]) (htb : P.underlying tb = some .bool)
    (hfn : ∀ l : List (DataW H), l.length = f.params.size → (s.fn H l).results = [.lit (.bool true)] ∧ (s.fn H l).args = l ∧ (s.fn H l).vars = [])
    (hW : DataW.Whole enc P f.params.toList s.vars false W args.toList ds gs before) (hb : Below W.heap.size W W') :
    ∃ v, Ending.returned (.bool true) = .returned v ∧ s.post enc P f false true false false W args v W' := by
  have hts : ∀ t ∈ f.params.toList, P.readableRec t = true ∧ t < P.types.size := fun t ht => by simpa using List.all_eq_true.1 hts0 t ht
  have hW' := hW
  obtain ⟨p, q, hA, hV, rfl, hfz, hnd⟩ := hW
  rw [hv] at hV
  obtain ⟨rfl, rfl⟩ := trodVars_none hV
  have hlen : ds.length = f.params.size := by
    have : ∀ {ts : List TypeId} {vs : List Value} {ds : List (DataW H)} {p : List MemPlace}, DataW.TrodAll enc P W 0 (fun _ => true) true ts vs ds p → ds.length = ts.length := by
      intro ts
      induction ts with
      | nil => intro vs ds p h; obtain ⟨rfl, rfl, rfl⟩ := trodAll_nil h; rfl
      | cons t ts ih => intro vs ds p h; obtain ⟨v, vs1, d, ds1, a, b, rfl, rfl, rfl, h1, h2⟩ := trodAll_cons h; simp [ih h2]
    simpa using this hA
  obtain ⟨e1, e2, e3⟩ := hfn ds hlen
  have hlt : ∀ x ∈ p ++ [], x.block < W.heap.size := fun x hx => by simpa using hW'.lt x hx
  refine ⟨_, rfl, _, _, _, [], p, [], hW', ?_, ?_, ?_, hb.frame _, fun h => by cases h⟩
  · rw [List.append_nil, e1, hr]
    exact trodAll_mk1 (shut_bool htb _)
  · rw [List.append_nil, e2]
    exact args_again hl hb hts hA (by simpa using hlt)
  · rw [List.append_nil, e3, hv]
    rfl

/-- No parameter wants a stand-in: what a card asks. -/
theorem plain_of {name : String} {f0 : FuncId} {fn0 : Func} (h1 : P.funcNamed name = some f0) (h2 : P.funcs[f0]? = some fn0) (h3 : P.looks [] = false) (h4 : (fn0.params.toList.all fun t => !P.wantsStandIn t) = true) (f : FuncId) (fn : Func)
    (hf : P.funcNamed name = some f) (hfn : P.funcs[f]? = some fn) : false = P.looks [] ∧ ∀ (j : Nat) t, fn.params[j]? = some t → P.wantsStandIn t = false := by
  obtain rfl : f = f0 := Option.some.inj (hf.symm.trans h1)
  obtain rfl : fn = fn0 := Option.some.inj (hfn.symm.trans h2)
  refine ⟨h3.symm, fun j t ht => ?_⟩
  have := List.all_eq_true.1 h4 t (by simpa using Array.mem_of_getElem? ht)
  simpa using this

end
end Go.Proofs.YtenkkdnepmoihaaGreatDoor
end
section
namespace Go.Proofs.YtenkkdnepmoihaaGreatDoor
open Go.ChangeShapes Go.WideShapes Go.ChangeAt Go.RowKit

theorem laidOut : laidOutB Tryz.prog = true := by kernel_rfl
theorem own : ownKnob Tryz.prog.godebug = none := by kernel_rfl
theorem gTab : Tryz.prog.globalNamed "wattle/crc.nibbles" = some 0 := by kernel_rfl
theorem gTabType : (Tryz.prog.globals[0]?).map (·.type) = some 164 := by kernel_rfl
theorem cellsTab : Tryz.prog.cellsOf 164 = 16 := by kernel_rfl
theorem cellsU32 : Tryz.prog.cellsOf 145 = 1 := by kernel_rfl
def laidAll : List (String × DataW Unit) := [("wattle/crc.nibbles", Rows.laid_wattle_crc_nibbles)]
theorem table {W : World} (h : laidMetH Tryz.prog laidAll W) : Lib.TabIs Tryz.prog W "wattle/crc.nibbles" .u32 (nibs.map fun n : Nat => (n : Int)) :=
  Lib.tabIs_of_head (rest := []) gTab gTabType Tryz.underlying164 Tryz.underlying145 cellsU32 cellsTab h
theorem tabOk {W : World} (h : laidMetH Tryz.prog laidAll W) : TabOk W := fun i hi => by
  have h1 := (table h).cell gTab i (by simpa [nibs] using hi)
  rw [h1, (show ∀ i, i < 16 → (nibs.map fun n : Nat => (n : Int)).getD i 0 = ((nibs.getD i 0 : Nat) : Int) by decide) i hi]
/-- A world for the witness: the settled one, the table (block 0) holding what its initialiser lays. -/
noncomputable def laidWorld (os : Os) : World :=
  { World.holding Tryz.prog os ⟨#[], #[], []⟩ with heap := (World.holding Tryz.prog os ⟨#[], #[], []⟩).heap.modify 0 fun
      | .cells _ t frozen => .cells #[.int .u32 0, .int .u32 274646895, .int .u32 549293790, .int .u32 820201905, .int .u32 1098587580, .int .u32 1361435347, .int .u32 1640403810, .int .u32 1905808397, .int .u32 2197175160, .int .u32 2460548119, .int .u32 2722870694, .int .u32 2987750089, .int .u32 3280807620, .int .u32 3553878443, .int .u32 3811616794, .int .u32 4084100981] t frozen
      | o => o }
end Go.Proofs.YtenkkdnepmoihaaGreatDoor
end
section
namespace Go.Proofs.YtenkkdnepmoihaaGreatDoor
open Go.RowKit

/-- A slice that reads as yes and no. -/
def RdO (w : World) (B : Nat) (A : Option Addr) (ks : List Bool) : Prop :=
  ks.length ≤ 9223372036854775807 ∧ (0 < ks.length → ∃ b off, A = some ⟨b, off, none⟩ ∧ b < B ∧ ∀ k, k < ks.length → w.cell? ⟨b, off + k, none⟩ = some (.bool (ks.getD k false)))
theorem RdO.keep {w w' : World} {B B' : Nat} {A : Option Addr} {ks : List Bool} (h : RdO w B A ks) (hB : B ≤ B') (hk : ∀ p : Addr, p.block < B → w'.cell? p = w.cell? p) : RdO w' B' A ks :=
  ⟨h.1, fun hn => by
    obtain ⟨b, off, e, hb, hc⟩ := h.2 hn
    exact ⟨b, off, e, by omega, fun k hk' => (hk ⟨b, off + k, none⟩ hb).trans (hc k hk')⟩⟩
theorem RdO.below {w w' : World} {B B' : Nat} {A : Option Addr} {ks : List Bool} (h : RdO w B A ks) (hb : Below B' w w') (hB : B ≤ B') : RdO w' B A ks := h.keep (Nat.le_refl _) fun p hp => hb.cell (by omega)
/-- A slice that reads as these numbers. -/
def RdZ (w : World) (B : Nat) (A : Option Addr) (zs : List Int) : Prop :=
  zs.length ≤ 9223372036854775807 ∧ (∀ z ∈ zs, -9223372036854775808 ≤ z ∧ z ≤ 9223372036854775807) ∧ (0 < zs.length → ∃ b off, A = some ⟨b, off, none⟩ ∧ b < B ∧ ∀ k, k < zs.length → w.cell? ⟨b, off + k, none⟩ = some (.int .i64 (zs.getD k 0)))
theorem RdZ.nil (w : World) (B : Nat) (A : Option Addr) : RdZ w B A [] := ⟨by simp, fun z hz => by simp at hz, fun h => by simp at h⟩
theorem RdZ.keep {w w' : World} {B B' : Nat} {A : Option Addr} {zs : List Int} (h : RdZ w B A zs) (hB : B ≤ B') (hk : ∀ p : Addr, p.block < B → w'.cell? p = w.cell? p) : RdZ w' B' A zs :=
  ⟨h.1, h.2.1, fun hn => by
    obtain ⟨b, off, e, hb, hc⟩ := h.2.2 hn
    exact ⟨b, off, e, by omega, fun k hk' => (hk ⟨b, off + k, none⟩ hb).trans (hc k hk')⟩⟩
theorem RdZ.below {w w' : World} {B B' : Nat} {A : Option Addr} {zs : List Int} (h : RdZ w B A zs) (hb : Below B' w w') (hB : B ≤ B') : RdZ w' B A zs := h.keep (Nat.le_refl _) fun p hp => hb.cell (by omega)
theorem RdZ.bd {w : World} {B : Nat} {A : Option Addr} {zs : List Int} (h : RdZ w B A zs) (k : Nat) : -9223372036854775808 ≤ zs.getD k 0 ∧ zs.getD k 0 ≤ 9223372036854775807 := by
  by_cases hk : k < zs.length
  · exact h.2.1 _ (by simp [hk])
  · rw [List.getD_eq_getElem?_getD, List.getElem?_eq_none (by omega)]; simp
end Go.Proofs.YtenkkdnepmoihaaGreatDoor
end
section
namespace Go.Proofs.YtenkkdnepmoihaaGreatDoor
open Go.ChangeShapes Go.WideShapes Go.ChangeAt Go.RowKit Go.Deep

section
variable {H : Type} {enc : TypeId × Value → H} {P : Program}
theorem addr_of {W : World} {x : Addr} {u : Value} (h : W.cell? (x.add 0) = some u) : ∃ b off, x = ⟨b, off, none⟩ ∧ b < W.heap.size := by
  obtain ⟨b, off, spot⟩ := x
  have hspot : spot = none := by simpa [Addr.add] using World.cell?_spot h
  subst hspot
  have := World.block_lt_of_cell? _ _ h
  exact ⟨b, off, rfl, by simpa [Addr.add] using this⟩
theorem addr_add (b off k : Nat) : ((⟨b, off, none⟩ : Addr).add k) = ⟨b, off + k, none⟩ := by unfold Addr.add; by_cases hk0 : k = 0 <;> simp [hk0]
/-- A slice of whole numbers that came in. -/
theorem open_rdz {t e : TypeId} (ht : P.underlying t = some (.slice e)) (he : P.underlying e = some (.int .i64)) (hc : P.cellsOf e = 1) {r : Reach} {W : World} {base : Nat} {v : Value} {d : DataW H} {p : List MemPlace}
    (hv : Value.okWide P W r base t v) (h : DataW.Trod enc P W 0 (fun _ => true) true t v d p) : ∃ A zs cap, v = .slice A zs.length cap ∧ zs.length ≤ cap ∧ RdZ W W.heap.size A zs := by
  obtain ⟨A, len, cap, rfl⟩ := okWide_slice ht hv
  obtain ⟨fuel, hf⟩ := h
  rcases open_ints ht he hc hf with ⟨hcs, _⟩ | ⟨x, l, c, zs, hcs, _, hl, hm, hz, hd, hcell, hwz⟩
  · simp [Value.cells] at hcs
    obtain ⟨rfl, rfl, rfl⟩ := hcs
    exact ⟨none, [], 0, rfl, Nat.le_refl _, RdZ.nil _ _ _⟩
  · simp [Value.cells] at hcs
    obtain ⟨rfl, rfl, rfl⟩ := hcs
    simp only [if_true] at hz
    have hL : (zs.take len).length = len := by rw [List.length_take]; omega
    refine ⟨some x, zs.take len, cap, by rw [hL], by rw [hL]; exact hl, by rw [hL]; unfold maxLen at hm; omega, fun z hz => bounds_i64 (hwz z (List.mem_of_mem_take hz)), fun hn => ?_⟩
    rw [hL] at hn
    obtain ⟨b, off, rfl, hb⟩ := addr_of (hcell 0 (by omega))
    refine ⟨b, off, rfl, hb, fun k hk => ?_⟩
    rw [hL] at hk
    have := hcell k (by omega)
    rw [addr_add] at this
    rw [this]
    simp [hk]
end
end Go.Proofs.YtenkkdnepmoihaaGreatDoor
end
