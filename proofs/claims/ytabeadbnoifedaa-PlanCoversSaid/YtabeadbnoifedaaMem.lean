/- Words for memory, of no program: a slice of bytes that reads as a list; a slice of such slices. -/
import Derived.WalkKit
import Derived.Lib.Hide
import Derived.Lib.SlBytesConst
import Derived.Deep.OwnRows
import Derived.Deep.DeepCutAuto
import Derived.Deep.RegionHeld3
import Derived.Deep.QuietTactic
import Derived.BigQuiet
import Derived.Handy
import Derived.Deep.Light
import Derived.Lib.ItoaWalk
namespace Go.Proofs.Ytabeadbnoifedaa
open Go.RowKit

theorem hp_drew (w : World) (g : Nat) : w.drew.heap[g]? = w.heap[g]? := rfl
theorem hp_new (w : World) (o : Obj) (g : Nat) (h : g = w.heap.size) : (w.alloc o).heap[g]? = some o := by subst h; exact heap_alloc_new _ _
theorem hp_old (w : World) (o : Obj) (g : Nat) (h : g < w.heap.size) : (w.alloc o).heap[g]? = w.heap[g]? := heap_alloc_old w o h
theorem belowN (B : Nat) (w : World) (n : Nat) : Below B w (w.drewN n) := ⟨rfl, rfl, rfl, Nat.le_refl _, fun _ _ => rfl⟩
theorem below1 (w : World) (o : Obj) : Below w.heap.size w (w.alloc o) := (Below.refl _ _).alloc (Nat.le_refl _) o
theorem below2 (w : World) (o o' : Obj) : Below w.heap.size w ((w.alloc o).alloc o') := (below1 w o).alloc (by simp) o'
theorem below3 (w : World) (o o' o'' : Obj) : Below w.heap.size w (((w.alloc o).alloc o').alloc o'') := (below2 w o o').alloc (by simp; omega) o''
theorem below4 (w : World) (o o' o'' o3 : Obj) : Below w.heap.size w ((((w.alloc o).alloc o').alloc o'').alloc o3) := (below3 w o o' o'').alloc (by simp; omega) o3
/-- A byte as a value. -/
def bv (b : UInt8) : Value := .int .u8 (b.toNat : Int)

/-- The slice's address and length read as these bytes; its cells lie below block B. -/
def RdB (w : World) (B : Nat) (A : Option Addr) (bs : List UInt8) : Prop :=
  bs.length ≤ 140737488355328 ∧ (0 < bs.length → ∃ b off, A = some ⟨b, off, none⟩ ∧ b < B ∧ ∀ k, k < bs.length → w.cell? ⟨b, off + k, none⟩ = some (.int .u8 ((bs.getD k 0).toNat : Int)))

/-- The slice of slices reads as these rows. -/
def RdR (w : World) (B : Nat) (A : Option Addr) (rs : List (List UInt8)) : Prop :=
  rs.length ≤ 140737488355328 ∧ (0 < rs.length → ∃ b off, A = some ⟨b, off, none⟩ ∧ b < B ∧ ∀ k, k < rs.length → ∃ A' c, w.cell? ⟨b, off + k, none⟩ = some (.slice A' (rs.getD k []).length c) ∧ RdB w B A' (rs.getD k []))

theorem RdB.keep {w w' : World} {B B' : Nat} {A : Option Addr} {bs : List UInt8} (h : RdB w B A bs) (hB : B ≤ B') (hk : ∀ p : Addr, p.block < B → w'.cell? p = w.cell? p) : RdB w' B' A bs :=
  ⟨h.1, fun hn => by
    obtain ⟨b, off, e, hb, hc⟩ := h.2 hn
    exact ⟨b, off, e, by omega, fun k hk' => (hk ⟨b, off + k, none⟩ hb).trans (hc k hk')⟩⟩
theorem RdR.keep {w w' : World} {B B' : Nat} {A : Option Addr} {rs : List (List UInt8)} (h : RdR w B A rs) (hB : B ≤ B') (hk : ∀ p : Addr, p.block < B → w'.cell? p = w.cell? p) : RdR w' B' A rs :=
  ⟨h.1, fun hn => by
    obtain ⟨b, off, e, hb, hc⟩ := h.2 hn
    refine ⟨b, off, e, by omega, fun k hk' => ?_⟩
    obtain ⟨A', c, h1, h2⟩ := hc k hk'
    exact ⟨A', c, (hk ⟨b, off + k, none⟩ hb).trans h1, h2.keep hB hk⟩⟩
theorem Below.agree {B : Nat} {w w' : World} (h : Below B w w') : ∀ p : Addr, p.block < B → w'.cell? p = w.cell? p := fun _ hp => h.cell hp
theorem RdB.below {w w' : World} {B B' : Nat} {A : Option Addr} {bs : List UInt8} (h : RdB w B A bs) (hb : Below B' w w') (hB : B ≤ B') : RdB w' B A bs := h.keep (Nat.le_refl _) fun p hp => hb.cell (by omega)
theorem RdR.below {w w' : World} {B B' : Nat} {A : Option Addr} {rs : List (List UInt8)} (h : RdR w B A rs) (hb : Below B' w w') (hB : B ≤ B') : RdR w' B A rs := h.keep (Nat.le_refl _) fun p hp => hb.cell (by omega)
theorem RdB.more {w : World} {B B' : Nat} {A : Option Addr} {bs : List UInt8} (h : RdB w B A bs) (hB : B ≤ B') : RdB w B' A bs := h.keep hB fun _ _ => rfl
theorem RdR.more {w : World} {B B' : Nat} {A : Option Addr} {rs : List (List UInt8)} (h : RdR w B A rs) (hB : B ≤ B') : RdR w B' A rs := h.keep hB fun _ _ => rfl
theorem RdB.nil (w : World) (B : Nat) (A : Option Addr) : RdB w B A [] := ⟨by simp, fun h => by simp at h⟩
/-- A new block that holds slices: a row of rows. -/
theorem rdr_cells {w : World} {g : Nat} {cs : Array Value} {t : TypeId} {f : Nat × Nat} {rs : List (List UInt8)} {B : Nat} (hg : w.heap[g]? = some (.cells cs t f)) (hB : g < B) (hl : rs.length ≤ 140737488355328)
    (h : ∀ k, k < rs.length → ∃ A c, cs[k]? = some (.slice A (rs.getD k []).length c) ∧ RdB w B A (rs.getD k [])) : RdR w B (some ⟨g, 0, none⟩) rs :=
  ⟨hl, fun _ => ⟨g, 0, rfl, hB, fun k hk => by
    obtain ⟨A, c, h1, h2⟩ := h k hk
    exact ⟨A, c, by rw [Nat.zero_add, cell_of_row w g k cs t f hg]; exact h1, h2⟩⟩⟩
/-- A new block of bytes, read whole. -/
theorem rdb_block {w : World} {g : Nat} {cs : Array Value} {t : TypeId} {f : Nat × Nat} {bs : List UInt8} {B : Nat} (hg : w.heap[g]? = some (.cells cs t f)) (hB : g < B) (hl : bs.length ≤ 140737488355328)
    (h : ∀ k, k < bs.length → cs[k]? = some (.int .u8 ((bs.getD k 0).toNat : Int))) : RdB w B (some ⟨g, 0, none⟩) bs :=
  ⟨hl, fun _ => ⟨g, 0, rfl, hB, fun k hk => by rw [Nat.zero_add, cell_of_row w g k cs t f hg]; exact h k hk⟩⟩
theorem rdr_one {w : World} {A : Option Addr} {bs : List UInt8} {c : Nat} {t : TypeId} {B : Nat} (h : RdB w B A bs) (hB : B ≤ w.heap.size) : RdR (w.alloc (.cells #[.slice A bs.length c] t)) (w.heap.size + 1) (some ⟨w.heap.size, 0, none⟩) [bs] :=
  rdr_cells (heap_alloc_new w _) (by omega) (by simp) fun k hk => by
    obtain rfl : k = 0 := by simp at hk; omega
    exact ⟨A, c, rfl, (h.keep (w' := w.alloc _) (B' := w.heap.size + 1) (by omega) fun p hp => World.cell?_alloc_lt w _ p (by omega))⟩
theorem rdr_two {w : World} {A A' : Option Addr} {bs bs' : List UInt8} {c c' : Nat} {t : TypeId} {B : Nat} (h : RdB w B A bs) (h' : RdB w B A' bs') (hB : B ≤ w.heap.size) :
    RdR (w.alloc (.cells #[.slice A bs.length c, .slice A' bs'.length c'] t)) (w.heap.size + 1) (some ⟨w.heap.size, 0, none⟩) [bs, bs'] :=
  rdr_cells (heap_alloc_new w _) (by omega) (by simp) fun k hk => by
    obtain rfl | rfl : k = 0 ∨ k = 1 := by simp at hk; omega
    · exact ⟨A, c, rfl, h.keep (by omega) fun p hp => World.cell?_alloc_lt w _ p (by omega)⟩
    · exact ⟨A', c', rfl, h'.keep (by omega) fun p hp => World.cell?_alloc_lt w _ p (by omega)⟩
theorem rdr_block1 {w : World} {g : Nat} {A : Option Addr} {n c : Nat} {bs : List UInt8} {t : TypeId} {f : Nat × Nat} {B : Nat} (hg : w.heap[g]? = some (.cells #[.slice A n c] t f)) (hn : n = bs.length) (h : RdB w B A bs) (hB : B ≤ w.heap.size) : RdR w w.heap.size (some ⟨g, 0, none⟩) [bs] := by
  subst hn
  exact rdr_cells hg (Array.getElem?_eq_some_iff.1 hg).1 (by simp) fun k hk => by
    obtain rfl : k = 0 := by simp at hk; omega
    exact ⟨A, c, rfl, h.more hB⟩
theorem rdr_block2 {w : World} {g : Nat} {A A' : Option Addr} {n n' c c' : Nat} {bs bs' : List UInt8} {t : TypeId} {f : Nat × Nat} {B : Nat} (hg : w.heap[g]? = some (.cells #[.slice A n c, .slice A' n' c'] t f)) (hn : n = bs.length) (hn' : n' = bs'.length)
    (h : RdB w B A bs) (h' : RdB w B A' bs') (hB : B ≤ w.heap.size) : RdR w w.heap.size (some ⟨g, 0, none⟩) [bs, bs'] := by
  subst hn hn'
  exact rdr_cells hg (Array.getElem?_eq_some_iff.1 hg).1 (by simp) fun k hk => by
    obtain rfl | rfl : k = 0 ∨ k = 1 := by simp at hk; omega
    · exact ⟨A, c, rfl, h.more hB⟩
    · exact ⟨A', c', rfl, h'.more hB⟩
theorem rdr_block3 {w : World} {g : Nat} {A A' A'' : Option Addr} {n n' n'' c c' c'' : Nat} {bs bs' bs'' : List UInt8} {t : TypeId} {f : Nat × Nat} {B : Nat} (hg : w.heap[g]? = some (.cells #[.slice A n c, .slice A' n' c', .slice A'' n'' c''] t f)) (hn : n = bs.length) (hn' : n' = bs'.length) (hn'' : n'' = bs''.length)
    (h : RdB w B A bs) (h' : RdB w B A' bs') (h'' : RdB w B A'' bs'') (hB : B ≤ w.heap.size) : RdR w w.heap.size (some ⟨g, 0, none⟩) [bs, bs', bs''] := by
  subst hn hn' hn''
  exact rdr_cells hg (Array.getElem?_eq_some_iff.1 hg).1 (by simp) fun k hk => by
    match k, hk with
    | 0, _ => exact ⟨A, c, rfl, h.more hB⟩
    | 1, _ => exact ⟨A', c', rfl, h'.more hB⟩
    | 2, _ => exact ⟨A'', c'', rfl, h''.more hB⟩
theorem rdr_four {w : World} {g : Nat} {A A' : Option Addr} {n n' c c' : Nat} {bs bs' : List UInt8} {t : TypeId} {f : Nat × Nat} {B : Nat} (hg : w.heap[g]? = some (.cells #[.slice none 0 0, .slice A n c, .slice none 0 0, .slice A' n' c'] t f)) (hn : n = bs.length) (hn' : n' = bs'.length)
    (h : RdB w B A bs) (h' : RdB w B A' bs') (hB : B ≤ w.heap.size) : RdR w w.heap.size (some ⟨g, 0, none⟩) [[], bs, [], bs'] := by
  subst hn hn'
  exact rdr_cells hg (Array.getElem?_eq_some_iff.1 hg).1 (by simp) fun k hk => by
    match k, hk with
    | 0, _ => exact ⟨none, 0, rfl, RdB.nil _ _ _⟩
    | 1, _ => exact ⟨A, c, rfl, h.more hB⟩
    | 2, _ => exact ⟨none, 0, rfl, RdB.nil _ _ _⟩
    | 3, _ => exact ⟨A', c', rfl, h'.more hB⟩
/-- A slice cut: s[:k], s[k:]. -/
theorem RdB.take {w : World} {B : Nat} {A : Option Addr} {bs : List UInt8} (h : RdB w B A bs) (k : Nat) : RdB w B A (bs.take k) :=
  ⟨by have := h.1; simp; omega, fun hn => by
    have hn' : 0 < bs.length := by simp at hn; omega
    obtain ⟨b, off, e, hb, hc⟩ := h.2 hn'
    refine ⟨b, off, e, hb, fun j hj => ?_⟩
    have hj' : j < k ∧ j < bs.length := by simp at hj; omega
    rw [hc j hj'.2]
    simp [hj'.1]⟩
theorem RdB.drop {w : World} {B : Nat} {A : Option Addr} {bs : List UInt8} (h : RdB w B A bs) (k cap : Nat) (hc : bs.length ≤ cap) : RdB w B (if cap = k then A else A.map (·.add k)) (bs.drop k) :=
  ⟨by have := h.1; simp; omega, fun hn => by
    have hn' : k < bs.length := by simp at hn; omega
    obtain ⟨b, off, rfl, hb, hc⟩ := h.2 (by omega)
    rw [if_neg (by omega)]
    refine ⟨b, off + k, ?_, hb, fun j hj => ?_⟩
    · unfold Addr.add; by_cases hk0 : k = 0 <;> simp [hk0]
    · have hj' : k + j < bs.length := by simp at hj; omega
      rw [Nat.add_assoc, hc (k + j) hj']
      simp⟩
/-- n zero bytes as cells. -/
def zcells (n : Nat) : Array Value := madeCells #[.int .u8 0] n
theorem zcells_get (n k : Nat) (h : k < n) : (zcells n)[k]? = some (.int .u8 0) := by
  unfold zcells
  rw [← Array.getElem?_toList, toList_madeCells_one, List.getElem?_replicate, if_pos h]
theorem zcells_size (n : Nat) : (zcells n).size = n := size_madeCells _ _
end Go.Proofs.Ytabeadbnoifedaa
