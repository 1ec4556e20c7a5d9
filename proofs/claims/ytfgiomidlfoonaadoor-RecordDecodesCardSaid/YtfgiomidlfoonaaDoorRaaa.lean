/- Texts put together: Mem, Own, Law, Rows2, GeoMath, CrcMath, CrcFind. -/
import Derived.WalkKit
import Derived.Lib.Hide
import Derived.Lib.SlBytesConst
import Derived.Deep.OwnRows
import Derived.Deep.DeepCutAuto
import Derived.Deep.RegionHeld3
import Derived.Deep.QuietTactic
import Derived.BigQuiet
import Derived.Handy
import Derived.Deep.Light
import Derived.Lib.ItoaWalk
import Derived.Maps.AppendAt
import Derived.Laws.AppendOwnNone
import Derived.Deep.AppendLies
import Derived.Laws.CopyOwn
import Derived.ProofKit
import Derived.OpenShut
import Derived.Carry
import Derived.SizedLaws
import GoSem.ClaimSeven
import Derived.Deep.DeepHandedRow
import Derived.Lib.LaidTab
import Derived.Deep.Matrix
section
namespace Go.Proofs.YtfgiomidlfoonaaDoor
open Go.RowKit

theorem hp_drew (w : World) (g : Nat) : w.drew.heap[g]? = w.heap[g]? := rfl
theorem hp_new (w : World) (o : Obj) (g : Nat) (h : g = w.heap.size) : (w.alloc o).heap[g]? = some o := by subst h; exact heap_alloc_new _ _
theorem hp_old (w : World) (o : Obj) (g : Nat) (h : g < w.heap.size) : (w.alloc o).heap[g]? = w.heap[g]? := heap_alloc_old w o h
theorem belowN (B : Nat) (w : World) (n : Nat) : Below B w (w.drewN n) := ⟨rfl, rfl, rfl, Nat.le_refl _, fun _ _ => rfl⟩
theorem below1 (w : World) (o : Obj) : Below w.heap.size w (w.alloc o) := (Below.refl _ _).alloc (Nat.le_refl _) o
theorem below2 (w : World) (o o' : Obj) : Below w.heap.size w ((w.alloc o).alloc o') := (below1 w o).alloc (by simp) o'
theorem below3 (w : World) (o o' o'' : Obj) : Below w.heap.size w (((w.alloc o).alloc o').alloc o'') := (below2 w o o').alloc (by simp; omega) o''
theorem below4 (w : World) (o o' o'' o3 : Obj) : Below w.heap.size w ((((w.alloc o).alloc o').alloc o'').alloc o3) := (below3 w o o' o'').alloc (by simp; omega) o3
/-- A byte as a value. -/
def bv (b : UInt8) : Value := .int .u8 (b.toNat : Int)

/-- The slice's address and length read as these bytes; its cells lie below block B. -/
def RdB (w : World) (B : Nat) (A : Option Addr) (bs : List UInt8) : Prop :=
  bs.length ≤ 140737488355328 ∧ (0 < bs.length → ∃ b off, A = some ⟨b, off, none⟩ ∧ b < B ∧ ∀ k, k < bs.length → w.cell? ⟨b, off + k, none⟩ = some (.int .u8 ((bs.getD k 0).toNat : Int)))

/-- The slice of slices reads as these rows. -/
def RdR (w : World) (B : Nat) (A : Option Addr) (rs : List (List UInt8)) : Prop :=
  rs.length ≤ 140737488355328 ∧ (0 < rs.length → ∃ b off, A = some ⟨b, off, none⟩ ∧ b < B ∧ ∀ k, k < rs.length → ∃ A' c, w.cell? ⟨b, off + k, none⟩ = some (.slice A' (rs.getD k []).length c) ∧ RdB w B A' (rs.getD k []))

theorem RdB.keep {w w' : World} {B B' : Nat} {A : Option Addr} {bs : List UInt8} (h : RdB w B A bs) (hB : B ≤ B') (hk : ∀ p : Addr, p.block < B → w'.cell? p = w.cell? p) : RdB w' B' A bs :=
  ⟨h.1, fun hn => by
    obtain ⟨b, off, e, hb, hc⟩ := h.2 hn
    exact ⟨b, off, e, by omega, fun k hk' => (hk ⟨b, off + k, none⟩ hb).trans (hc k hk')⟩⟩
theorem RdR.keep {w w' : World} {B B' : Nat} {A : Option Addr} {rs : List (List UInt8)} (h : RdR w B A rs) (hB : B ≤ B') (hk : ∀ p : Addr, p.block < B → w'.cell? p = w.cell? p) : RdR w' B' A rs :=
  ⟨h.1, fun hn => by
    obtain ⟨b, off, e, hb, hc⟩ := h.2 hn
    refine ⟨b, off, e, by omega, fun k hk' => ?_⟩
    obtain ⟨A', c, h1, h2⟩ := hc k hk'
    exact ⟨A', c, (hk ⟨b, off + k, none⟩ hb).trans h1, h2.keep hB hk⟩⟩
theorem Below.agree {B : Nat} {w w' : World} (h : Below B w w') : ∀ p : Addr, p.block < B → w'.cell? p = w.cell? p := fun _ hp => h.cell hp
theorem RdB.below {w w' : World} {B B' : Nat} {A : Option Addr} {bs : List UInt8} (h : RdB w B A bs) (hb : Below B' w w') (hB : B ≤ B') : RdB w' B A bs := h.keep (Nat.le_refl _) fun p hp => hb.cell (by omega)
theorem RdR.below {w w' : World} {B B' : Nat} {A : Option Addr} {rs : List (List UInt8)} (h : RdR w B A rs) (hb : Below B' w w') (hB : B ≤ B') : RdR w' B A rs := h.keep (Nat.le_refl _) fun p hp => hb.cell (by omega)
theorem RdB.more {w : World} {B B' : Nat} {A : Option Addr} {bs : List UInt8} (h : RdB w B A bs) (hB : B ≤ B') : RdB w B' A bs := h.keep hB fun _ _ => rfl
theorem RdR.more {w : World} {B B' : Nat} {A : Option Addr} {rs : List (List UInt8)} (h : RdR w B A rs) (hB : B ≤ B') : RdR w B' A rs := h.keep hB fun _ _ => rfl
theorem RdB.nil (w : World) (B : Nat) (A : Option Addr) : RdB w B A [] := ⟨by simp, fun h => by simp at h⟩
/-- A new block that holds slices: a row of rows. -/
theorem rdr_cells {w : World} {g : Nat} {cs : Array Value} {t : TypeId} {f : Nat × Nat} {rs : List (List UInt8)} {B : Nat} (hg : w.heap[g]? = some (.cells cs t f)) (hB : g < B) (hl : rs.length ≤ 140737488355328)
    (h : ∀ k, k < rs.length → ∃ A c, cs[k]? = some (.slice A (rs.getD k []).length c) ∧ RdB w B A (rs.getD k [])) : RdR w B (some ⟨g, 0, none⟩) rs :=
  ⟨hl, fun _ => ⟨g, 0, rfl, hB, fun k hk => by
    obtain ⟨A, c, h1, h2⟩ := h k hk
    exact ⟨A, c, by rw [Nat.zero_add, cell_of_row w g k cs t f hg]; exact h1, h2⟩⟩⟩
/-- A new block of bytes, read whole. -/
theorem rdb_block {w : World} {g : Nat} {cs : Array Value} {t : TypeId} {f : Nat × Nat} {bs : List UInt8} {B : Nat} (hg : w.heap[g]? = some (.cells cs t f)) (hB : g < B) (hl : bs.length ≤ 140737488355328)
    (h : ∀ k, k < bs.length → cs[k]? = some (.int .u8 ((bs.getD k 0).toNat : Int))) : RdB w B (some ⟨g, 0, none⟩) bs :=
  ⟨hl, fun _ => ⟨g, 0, rfl, hB, fun k hk => by rw [Nat.zero_add, cell_of_row w g k cs t f hg]; exact h k hk⟩⟩
theorem rdr_one {w : World} {A : Option Addr} {bs : List UInt8} {c : Nat} {t : TypeId} {B : Nat} (h : RdB w B A bs) (hB : B ≤ w.heap.size) : RdR (w.alloc (.cells #[.slice A bs.length c] t)) (w.heap.size + 1) (some ⟨w.heap.size, 0, none⟩) [bs] :=
  rdr_cells (heap_alloc_new w _) (by omega) (by simp) fun k hk => by
    obtain rfl : k = 0 := by simp at hk; omega
    exact ⟨A, c, rfl, (h.keep (w' := w.alloc _) (B' := w.heap.size + 1) (by omega) fun p hp => World.cell?_alloc_lt w _ p (by omega))⟩
theorem rdr_two {w : World} {A A' : Option Addr} {bs bs' : List UInt8} {c c' : Nat} {t : TypeId} {B : Nat} (h : RdB w B A bs) (h' : RdB w B A' bs') (hB : B ≤ w.heap.size) :
    RdR (w.alloc (.cells #[.slice A bs.length c, .slice A' bs'.length c'] t)) (w.heap.size + 1) (some ⟨w.heap.size, 0, none⟩) [bs, bs'] :=
  rdr_cells (heap_alloc_new w _) (by omega) (by simp) fun k hk => by
    obtain rfl | rfl : k = 0 ∨ k = 1 := by simp at hk; omega
    · exact ⟨A, c, rfl, h.keep (by omega) fun p hp => World.cell?_alloc_lt w _ p (by omega)⟩
    · exact ⟨A', c', rfl, h'.keep (by omega) fun p hp => World.cell?_alloc_lt w _ p (by omega)⟩
theorem rdr_block1 {w : World} {g : Nat} {A : Option Addr} {n c : Nat} {bs : List UInt8} {t : TypeId} {f : Nat × Nat} {B : Nat} (hg : w.heap[g]? = some (.cells #[.slice A n c] t f)) (hn : n = bs.length) (h : RdB w B A bs) (hB : B ≤ w.heap.size) : RdR w w.heap.size (some ⟨g, 0, none⟩) [bs] := by
  subst hn
  exact rdr_cells hg (Array.getElem?_eq_some_iff.1 hg).1 (by simp) fun k hk => by
    obtain rfl : k = 0 := by simp at hk; omega
    exact ⟨A, c, rfl, h.more hB⟩
theorem rdr_block2 {w : World} {g : Nat} {A A' : Option Addr} {n n' c c' : Nat} {bs bs' : List UInt8} {t : TypeId} {f : Nat × Nat} {B : Nat} (hg : w.heap[g]? = some (.cells #[.slice A n c, .slice A' n' c'] t f)) (hn : n = bs.length) (hn' : n' = bs'.length)
    (h : RdB w B A bs) (h' : RdB w B A' bs') (hB : B ≤ w.heap.size) : RdR w w.heap.size (some ⟨g, 0, none⟩) [bs, bs'] := by
  subst hn hn'
  exact rdr_cells hg (Array.getElem?_eq_some_iff.1 hg).1 (by simp) fun k hk => by
    obtain rfl | rfl : k = 0 ∨ k = 1 := by simp at hk; omega
    · exact ⟨A, c, rfl, h.more hB⟩
    · exact ⟨A', c', rfl, h'.more hB⟩
theorem rdr_block3 {w : World} {g : Nat} {A A' A'' : Option Addr} {n n' n'' c c' c'' : Nat} {bs bs' bs'' : List UInt8} {t : TypeId} {f : Nat × Nat} {B : Nat} (hg : w.heap[g]? = some (.cells #[.slice A n c, .slice A' n' c', .slice A'' n'' c''] t f)) (hn : n = bs.length) (hn' : n' = bs'.length) (hn'' : n'' = bs''.length)
    (h : RdB w B A bs) (h' : RdB w B A' bs') (h'' : RdB w B A'' bs'') (hB : B ≤ w.heap.size) : RdR w w.heap.size (some ⟨g, 0, none⟩) [bs, bs', bs''] := by
  subst hn hn' hn''
  exact rdr_cells hg (Array.getElem?_eq_some_iff.1 hg).1 (by simp) fun k hk => by
    match k, hk with
    | 0, _ => exact ⟨A, c, rfl, h.more hB⟩
    | 1, _ => exact ⟨A', c', rfl, h'.more hB⟩
    | 2, _ => exact ⟨A'', c'', rfl, h''.more hB⟩
theorem rdr_four {w : World} {g : Nat} {A A' : Option Addr} {n n' c c' : Nat} {bs bs' : List UInt8} {t : TypeId} {f : Nat × Nat} {B : Nat} (hg : w.heap[g]? = some (.cells #[.slice none 0 0, .slice A n c, .slice none 0 0, .slice A' n' c'] t f)) (hn : n = bs.length) (hn' : n' = bs'.length)
    (h : RdB w B A bs) (h' : RdB w B A' bs') (hB : B ≤ w.heap.size) : RdR w w.heap.size (some ⟨g, 0, none⟩) [[], bs, [], bs'] := by
  subst hn hn'
  exact rdr_cells hg (Array.getElem?_eq_some_iff.1 hg).1 (by simp) fun k hk => by
    match k, hk with
    | 0, _ => exact ⟨none, 0, rfl, RdB.nil _ _ _⟩
    | 1, _ => exact ⟨A, c, rfl, h.more hB⟩
    | 2, _ => exact ⟨none, 0, rfl, RdB.nil _ _ _⟩
    | 3, _ => exact ⟨A', c', rfl, h'.more hB⟩
/-- A slice cut: s[:k], s[k:]. -/
theorem RdB.take {w : World} {B : Nat} {A : Option Addr} {bs : List UInt8} (h : RdB w B A bs) (k : Nat) : RdB w B A (bs.take k) :=
  ⟨by have := h.1; simp; omega, fun hn => by
    have hn' : 0 < bs.length := by simp at hn; omega
    obtain ⟨b, off, e, hb, hc⟩ := h.2 hn'
    refine ⟨b, off, e, hb, fun j hj => ?_⟩
    have hj' : j < k ∧ j < bs.length := by simp at hj; omega
    rw [hc j hj'.2]
    simp [hj'.1]⟩
theorem RdB.drop {w : World} {B : Nat} {A : Option Addr} {bs : List UInt8} (h : RdB w B A bs) (k cap : Nat) (hc : bs.length ≤ cap) : RdB w B (if cap = k then A else A.map (·.add k)) (bs.drop k) :=
  ⟨by have := h.1; simp; omega, fun hn => by
    have hn' : k < bs.length := by simp at hn; omega
    obtain ⟨b, off, rfl, hb, hc⟩ := h.2 (by omega)
    rw [if_neg (by omega)]
    refine ⟨b, off + k, ?_, hb, fun j hj => ?_⟩
    · unfold Addr.add; by_cases hk0 : k = 0 <;> simp [hk0]
    · have hj' : k + j < bs.length := by simp at hj; omega
      rw [Nat.add_assoc, hc (k + j) hj']
      simp⟩
/-- n zero bytes as cells. -/
def zcells (n : Nat) : Array Value := madeCells #[.int .u8 0] n
theorem zcells_get (n k : Nat) (h : k < n) : (zcells n)[k]? = some (.int .u8 0) := by
  unfold zcells
  rw [← Array.getElem?_toList, toList_madeCells_one, List.getElem?_replicate, if_pos h]
theorem zcells_size (n : Nat) : (zcells n).size = n := size_madeCells _ _
end Go.Proofs.YtfgiomidlfoonaaDoor
end
section
namespace Go.Proofs.YtfgiomidlfoonaaDoor
open Go.RowKit

theorem bv_one (b : UInt8) : (bv b).oneCell' = true := rfl
theorem map_bv_one {bs : List UInt8} : ∀ u ∈ bs.map bv, u.oneCell' = true := fun u hu => by
  obtain ⟨b, _, rfl⟩ := List.mem_map.1 hu
  rfl
/-- The slice value v owns these bytes, in a block from B on. -/
def OwB (e : TypeId) (w : World) (B : Nat) (v : Value) (bs : List UInt8) : Prop := w.ownsRow B e 1 v bs.length (bs.map bv) ∧ bs.length ≤ 140737488355328

section
variable {e : TypeId} {w w' : World} {B B' : Nat} {v : Value} {bs : List UInt8}
theorem OwB.nil (e : TypeId) (w : World) (B : Nat) : OwB e w B (.slice none 0 0) [] := ⟨World.ownsRow_nil _ _ _ _, by simp⟩
/-- What an own slice is: nil and empty, or a row of its own block. -/
theorem OwB.form (h : OwB e w B v bs) : (v = .slice none 0 0 ∧ bs = []) ∨ ∃ g cap cur, v = .slice (some ⟨g, 0, none⟩) bs.length cap ∧ B ≤ g ∧ w.heap[g]? = some (.cells cur e (0, 0)) ∧ bs.length ≤ cap ∧ cap ≤ maxLen ∧ cur.size = cap ∧
    (∀ k, k < bs.length → cur[k]? = some (.int .u8 ((bs.getD k 0).toNat : Int))) := by
  rcases h.1.2 with ⟨h1, h2⟩ | ⟨g, cap, cur, h1, h2, h3, h4, h5, h6, h7⟩
  · exact .inl ⟨h1, List.eq_nil_of_length_eq_zero h2⟩
  · refine .inr ⟨g, cap, cur, h1, h2, h3, h4, h5, by simpa using h6, fun k hk => ?_⟩
    have : (cur.toList.take (bs.length * 1))[k]? = (bs.map bv)[k]? := by rw [h7]
    rw [List.getElem?_take, if_pos (by omega), Array.getElem?_toList] at this
    rw [this]
    simp [hk, bv]
theorem OwB.rd (h : OwB e w B v bs) : ∃ A cap, v = .slice A bs.length cap ∧ bs.length ≤ cap ∧ RdB w w.heap.size A bs := by
  rcases h.form with ⟨rfl, rfl⟩ | ⟨g, cap, cur, rfl, _, hg, hc, _, _, hk⟩
  · exact ⟨none, 0, rfl, Nat.le_refl _, RdB.nil _ _ _⟩
  · exact ⟨_, cap, rfl, hc, h.2, fun _ => ⟨g, 0, rfl, (Array.getElem?_eq_some_iff.1 hg).1, fun k hk' => by rw [Nat.zero_add, cell_of_row w g k cur e (0, 0) hg]; exact hk k hk'⟩⟩
theorem OwB.rdS {A : Option Addr} {n c : Nat} (h : OwB e w B (.slice A n c) bs) : RdB w w.heap.size A bs ∧ n = bs.length ∧ n ≤ c := by
  obtain ⟨A', c', hv, hc, hr⟩ := h.rd
  injection hv with h1 h2 h3
  subst h1 h2 h3
  exact ⟨hr, rfl, hc⟩
theorem OwB.pos (h : OwB e w B v bs) (hp : 0 < bs.length) : ∃ g cap, v = .slice (some ⟨g, 0, none⟩) bs.length cap ∧ B ≤ g ∧ g < w.heap.size ∧ bs.length ≤ cap ∧ cap ≤ maxLen ∧ RdB w w.heap.size (some ⟨g, 0, none⟩) bs := by
  obtain ⟨A, c, hv, _, hr⟩ := h.rd
  rcases h.form with ⟨_, rfl⟩ | ⟨g, cap, cur, rfl, hB, hg, hc, hm, _, _⟩
  · simp at hp
  · injection hv with h1 _ _
    exact ⟨g, cap, rfl, hB, (Array.getElem?_eq_some_iff.1 hg).1, hc, hm, h1 ▸ hr⟩
/-- A new row of n zero bytes. -/
theorem own_make (e : TypeId) (w : World) (n : Nat) (hn : n ≤ 140737488355328) : OwB e (w.alloc (.cells (zcells n) e)) w.heap.size (.slice (some ⟨w.heap.size, 0, none⟩) n n) (List.replicate n 0) := by
  refine ⟨?_, by simpa using hn⟩
  have h := World.ownsRow_lit (base := w.heap.size) (e := e) (size := 1) w (zcells n) n (Nat.le_refl _) (by unfold maxLen; omega) (by rw [zcells_size]; omega)
  unfold zcells at h ⊢
  rw [toList_madeCells_one] at h
  simpa [bv] using h
theorem OwB.grown {row : Option Nat} (h : OwB e w B v bs) (hg : w.grownBy w' row) (hne : v.ownBlock = none ∨ v.ownBlock ≠ row) : OwB e w' B v bs := ⟨h.1.kept hg hne, h.2⟩
theorem OwB.growF {row : Option Nat} (h : OwB e w B v bs) (hg : w.grownBy w' row) (hr : ∀ j, row = some j → j < B) : OwB e w' B v bs := by
  refine h.grown hg ?_
  rcases hv : v.ownBlock with _ | k
  · exact .inl rfl
  · refine .inr fun e => ?_
    have h1 := hr k e.symm
    have h2 : B ≤ k := by
      rcases h.1.2 with ⟨rfl, _⟩ | ⟨g, cap, cur, rfl, h2, _⟩
      · simp [Value.ownBlock] at hv
      · simp [Value.ownBlock] at hv; omega
    omega
theorem grown_none {a b : World} (h : Below a.heap.size a b) : a.grownBy b none := ⟨h.os, h.tape, h.output, h.size, fun k hk _ => h.block k hk⟩
theorem OwB.below (h : OwB e w B v bs) (hb : Below w.heap.size w w') : OwB e w' B v bs := h.grown (grown_none hb) (by cases v.ownBlock <;> simp)
theorem OwB.lt (h : OwB e w B v bs) : ∀ k, v.ownBlock = some k → B ≤ k ∧ k < w.heap.size := h.1.lt
theorem OwB.le (h : OwB e w B v bs) (hB : B' ≤ B) : OwB e w B' v bs := by
  refine ⟨⟨h.1.1, ?_⟩, h.2⟩
  rcases h.1.2 with h1 | ⟨g, cap, cur, h1, h2, r⟩
  · exact .inl h1
  · exact .inr ⟨g, cap, cur, h1, by omega, r⟩
end

section
variable {e : TypeId} {w w' : World} {B g n cap : Nat} {bs : List UInt8}
theorem OwB.cell (h : OwB e w B (.slice (some ⟨g, 0, none⟩) n cap) bs) (hn : bs.length = n) (j : Nat) (hj : j < n) : w.cell? ⟨g, j, none⟩ = some (.int .u8 ((bs.getD j 0).toNat : Int)) ∧ w.frozen? ⟨g, j, none⟩ = false := by
  subst hn
  refine ⟨?_, h.1.frozenAt j⟩
  rw [h.1.cellAt j (by omega)]
  simp [hj, bv]
theorem OwB.set (h : OwB e w B (.slice (some ⟨g, 0, none⟩) n cap) bs) (hn : bs.length = n) (j : Nat) (b : UInt8) :
    OwB e (w.setCell ⟨g, j, none⟩ (.int .u8 (b.toNat : Int))) B (.slice (some ⟨g, 0, none⟩) n cap) (bs.set j b) ∧ w.grownBy (w.setCell ⟨g, j, none⟩ (.int .u8 (b.toNat : Int))) (some g) := by
  subst hn
  obtain ⟨h1, h2⟩ := h.1.stored j (.int .u8 (b.toNat : Int))
  refine ⟨⟨?_, by simpa using h.2⟩, h2⟩
  rw [List.map_set, List.length_set]
  exact h1
theorem OwB.takeS {g n cap : Nat} (h : OwB e w B (.slice (some ⟨g, 0, none⟩) n cap) bs) (hn : bs.length = n) (k : Nat) (hk : k ≤ n) : OwB e w B (.slice (some ⟨g, 0, none⟩) k cap) (bs.take k) := by
  subst hn
  have hl : (bs.take k).length = k := by rw [List.length_take]; omega
  rcases h.1.2 with ⟨h1, _⟩ | ⟨g', cap', cur, h1, h2, h3, h4, h5, h6, h7⟩
  · cases h1
  · injection h1 with h8 _ h9
    injection h8 with h8
    injection h8 with h8 _ _
    subst h8 h9
    refine ⟨⟨by simp, .inr ⟨g, cap, cur, by rw [hl], h2, h3, by omega, h5, h6, ?_⟩⟩, by have := h.2; omega⟩
    rw [hl, List.map_take, ← h7, List.take_take]
    congr 1
    omega
theorem grown_drewN {a b : World} {row : Option Nat} (h : a.grownBy b row) (n : Nat) : a.grownBy (b.drewN n) row := ⟨h.os, h.tape, h.output, h.size, h.block⟩
theorem grown_of_below {a b : World} (h : Below a.heap.size a b) (row : Option Nat) : a.grownBy b row := ⟨h.os, h.tape, h.output, h.size, fun k hk _ => h.block k hk⟩
end

section
variable {P : Program} (w : World)
/-- append(own, source...): the source nil, empty or full. -/
theorem run_append_B (base : Nat) (t ty e : TypeId) (ht : P.underlying t = some (.slice e)) (hinfo : (P.info? e).map (fun i => (i.zero, i.size, i.bytes)) = some (some (.int .u8 0), 1, 1))
    (v : Value) (xs : List UInt8) (hown : OwB e w base v xs) (B : Nat) (A : Option Addr) (c : Nat) (bs : List UInt8) (hr : RdB w B A bs) (hn : xs.length + bs.length ≤ 140737488355328) (hbase : base ≤ w.heap.size) :
    ∃ v' w', (Builtin.append_ #[t, t] ty #[v, .slice A bs.length c]).run P w = .ok v' w' ∧ OwB e w' base v' (xs ++ bs) ∧ w.grownBy w' v.ownBlock ∧ (v'.ownBlock = v.ownBlock ∨ v'.ownBlock = some w.heap.size) := by
  obtain ⟨i, hi, hzz⟩ := Option.map_eq_some_iff.1 hinfo
  simp only [Prod.mk.injEq] at hzz
  obtain ⟨hz, hs, hb⟩ := hzz
  rcases A with _ | ad
  · have hm : bs = [] := by
      rcases bs with _ | ⟨b, r⟩
      · rfl
      · obtain ⟨_, _, h, _⟩ := hr.2 (by simp)
        cases h
    subst hm
    refine ⟨v, w, ?_, by simpa using hown, World.grownBy.refl w _, .inl rfl⟩
    rcases hown.1.2 with ⟨rfl, _⟩ | ⟨g, cap, cur, rfl, _, _, hnc, _⟩
    · simp [Builtin.append_, run_underlying ht, sizeOf, typeInfo, hi, Builtin.lenOf, Builtin.firstCells]
    · simp [Builtin.append_, run_underlying ht, sizeOf, typeInfo, hi, Builtin.lenOf, Builtin.firstCells, hnc, storeCells]
  · have hcells : ∀ j u, (bs.map bv)[j]? = some u → w.cell? (ad.add j) = some u := by
      intro j u hu
      simp only [List.getElem?_map, Option.map_eq_some_iff] at hu
      obtain ⟨b, hb1, rfl⟩ := hu
      obtain ⟨hj, rfl⟩ := List.getElem?_eq_some_iff.1 hb1
      obtain ⟨b2, off, h, _, hc⟩ := hr.2 (by omega)
      injection h with h
      subst h
      have e1 : ((⟨b2, off, none⟩ : Addr).add j) = ⟨b2, off + j, none⟩ := by unfold Addr.add; by_cases hk0 : j = 0 <;> simp [hk0]
      rw [e1, hc j hj]
      simp [bv, hj]
    obtain ⟨v', w', hrun, h2, h3, _, h5⟩ := run_append_own_at (P := P) w base t ty e i _ 1 1 ht hi hz hs hb rfl (by omega) v xs.length (xs.map bv) hown.1 ad bs.length c (bs.map bv) (by simp) hcells map_bv_one (by unfold maxLen; omega) (by omega) hbase
    exact ⟨v', w', hrun, ⟨by simpa using h2, by simpa using hn⟩, h3, h5⟩
theorem wpList_append_B {ops : Array Oper} {rest : List Oper} {o : Oper} {a : Act} {Q : Exit → Act → World → Prop} (hw : Region.wanted o (yielded ops a.tmps) = true) (s x : Operand) (t : TypeId)
    (ho : o.op = .call { callee := .builtin .append, args := #[s, x], argTypes := #[t, t] })
    (base : Nat) (e : TypeId) (ht : P.underlying t = some (.slice e)) (hinfo : (P.info? e).map (fun i => (i.zero, i.size, i.bytes)) = some (some (.int .u8 0), 1, 1))
    (v : Value) (xs : List UInt8) (hs : a.eval s = v) (hown : OwB e w base v xs) (B : Nat) (A : Option Addr) (n c : Nat) (bs : List UInt8) (hx : a.eval x = .slice A n c) (hnl : n = bs.length) (hr : RdB w B A bs)
    (hn : xs.length + bs.length ≤ 140737488355328) (hbase : base ≤ w.heap.size)
    (h : ∀ v' w', OwB e w' base v' (xs ++ bs) → w.grownBy w' v.ownBlock → (v'.ownBlock = v.ownBlock ∨ v'.ownBlock = some w.heap.size) → wpList P ops Q rest (a.put o.dst v') w') : wpList P ops Q (o :: rest) a w := by
  subst hnl
  refine BigFrame.wpList_want hw fun K hK => ?_
  obtain ⟨v', w', hrun, h2, h3, h4⟩ := run_append_B (P := P) w base t o.type e ht hinfo v xs hown B A c bs hr hn hbase
  unfold Oper.wp execOp
  simp only [ho, resolve, invoke, builtin, Sem.run_bind, Sem.run_pure, Result.andThen_ok, List.map_toArray, List.map_cons, List.map_nil, hs, hx, hrun]
  exact hK _ _ (h v' w' h2 h3 h4)

/-- copy(own, source): what own reads then. -/
def copyB (ds bs : List UInt8) : List UInt8 := bs.take ds.length ++ ds.drop bs.length
theorem copyB_len (ds bs : List UInt8) : (copyB ds bs).length = ds.length := by simp [copyB]; omega
theorem wpList_copy_B {w : World} {ops : Array Oper} {rest : List Oper} {o : Oper} {a : Act} {Q : Exit → Act → World → Prop} (hgd : o.guard = none) (d s : Operand) (t : TypeId)
    (ho : o.op = .call { callee := .builtin .copy, args := #[d, s], argTypes := #[t, t] }) (e : TypeId) (hu : P.underlying t = some (.slice e)) (hsz : (P.info? e).map (·.size) = some 1)
    (g n cap B : Nat) (ds : List UInt8) (hd : a.eval d = .slice (some ⟨g, 0, none⟩) n cap) (hown : OwB e w B (.slice (some ⟨g, 0, none⟩) n cap) ds) (hdn : ds.length = n)
    (B' : Nat) (A : Option Addr) (m c : Nat) (bs : List UInt8) (hs : a.eval s = .slice A m c) (hm : m = bs.length) (hr : RdB w B' A bs)
    (h : ∀ w', OwB e w' B (.slice (some ⟨g, 0, none⟩) n cap) (copyB ds bs) → w.grownBy w' (some g) → ∀ r : Value, wpList P ops Q rest (a.put o.dst r) w') : wpList P ops Q (o :: rest) a w := by
  subst hm hdn
  by_cases h0 : Nat.min bs.length ds.length = 0
  · refine wpList_copy_nothing hgd d s t t ho e hu hsz _ _ _ _ _ _ hd hs h0 (h w ?_ (World.grownBy.refl w _) _)
    have : copyB ds bs = ds := by
      unfold copyB
      rcases bs with _ | ⟨b, r⟩
      · simp
      · rcases ds with _ | ⟨x, y⟩
        · simp
        · exfalso
          have h1 : Nat.min (r.length + 1) (y.length + 1) = 0 := h0
          rcases Nat.le_total (r.length + 1) (y.length + 1) with hle | hle
          · rw [show Nat.min (r.length + 1) (y.length + 1) = r.length + 1 from Nat.min_eq_left hle] at h1; omega
          · rw [show Nat.min (r.length + 1) (y.length + 1) = y.length + 1 from Nat.min_eq_right hle] at h1; omega
    rw [this]
    exact hown
  · rcases hown.1.2 with ⟨h1, _⟩ | ⟨g', cap', cur, h1, h2, h3, h4, h5, h6, h7⟩
    · cases h1
    · injection h1 with h1 _ hc
      injection h1 with h1
      injection h1 with h1 _ _
      subst h1 hc
      have hpos : 0 < bs.length := by
        rcases Nat.eq_zero_or_pos bs.length with h | h
        · rw [h] at h0; exact absurd (show Nat.min 0 ds.length = 0 from Nat.zero_min _) h0
        · exact h
      obtain ⟨b2, off, rfl, _, hc2⟩ := hr.2 hpos
      have hkl : ((bs.take ds.length).map bv).length = Nat.min bs.length ds.length := by
        rw [List.length_map, List.length_take, Nat.min_comm]
      have hks : ((bs.take ds.length).map bv).length ≤ ds.length := by simp; omega
      refine wpList_copy_own hgd d s t t ho e hu hsz g 0 ds.length cap ⟨b2, off, none⟩ bs.length c hd hs cur e h3 ((bs.take ds.length).map bv) hkl ?_ (by omega) map_bv_one
        (h _ ⟨⟨by simp, .inr ⟨g, cap, _, by rw [copyB_len], h2, setRow_heap w g cur _ e (0, 0) h3, by rw [copyB_len]; exact h4, h5, ?_, ?_⟩⟩, by rw [copyB_len]; exact hown.2⟩
          ⟨rfl, rfl, rfl, by simp, fun k _ hk => setRow_other w g k _ (fun e => hk (by rw [e]))⟩ _)
      · intro j v hj
        simp only [List.getElem?_map, Option.map_eq_some_iff] at hj
        obtain ⟨b, hb1, rfl⟩ := hj
        obtain ⟨hjl, rfl⟩ := List.getElem?_eq_some_iff.1 hb1
        have hjb : j < bs.length := by simp at hjl; omega
        have e1 : ((⟨b2, off, none⟩ : Addr).add j) = ⟨b2, off + j, none⟩ := by unfold Addr.add; by_cases hk0 : j = 0 <;> simp [hk0]
        rw [e1, hc2 j hjb]
        simp [bv, hjb]
      · simp only [List.size_toArray, List.length_append, List.length_take, List.length_drop, Array.length_toList]
        omega
      · rw [copyB_len, List.toList_toArray, Nat.mul_one, List.take_zero, List.nil_append, Nat.zero_add]
        rw [List.take_append, List.take_of_length_le hks, copyB, List.map_append]
        congr 1
        rw [Nat.mul_one] at h7
        rw [← List.drop_take, h7, List.map_drop]
        apply List.ext_getElem?
        intro j
        simp only [List.getElem?_drop, hkl]
        by_cases hle : bs.length ≤ ds.length
        · rw [show Nat.min bs.length ds.length = bs.length from Nat.min_eq_left hle]
        · rw [show Nat.min bs.length ds.length = ds.length from Nat.min_eq_right (by omega), List.getElem?_eq_none (by simp), List.getElem?_eq_none (by simp; omega)]

/-- A slice that holds these values, one cell each. -/
def RdV (w : World) (B : Nat) (A : Option Addr) (xs : List Value) : Prop :=
  0 < xs.length → ∃ b off, A = some ⟨b, off, none⟩ ∧ b < B ∧ ∀ k, k < xs.length → w.cell? ⟨b, off + k, none⟩ = xs[k]?
theorem RdV.below {w w' : World} {B B' : Nat} {A : Option Addr} {xs : List Value} (h : RdV w B A xs) (hb : Below B w w') (hB : B ≤ B') : RdV w' B' A xs := fun hn => by
  obtain ⟨b, off, e, hlt, hc⟩ := h hn
  exact ⟨b, off, e, by omega, fun k hk => (hb.cell (p := ⟨b, off + k, none⟩) hlt).trans (hc k hk)⟩
/-- Values that read as rows. -/
def RowsV (w : World) (B : Nat) (xs : List Value) (rs : List (List UInt8)) : Prop :=
  xs.length = rs.length ∧ ∀ k, k < rs.length → ∃ A c, xs[k]? = some (.slice A (rs.getD k []).length c) ∧ RdB w B A (rs.getD k [])
theorem RdR.vals {w : World} {B : Nat} {A : Option Addr} {rs : List (List UInt8)} (h : RdR w B A rs) : ∃ xs, RdV w B A xs ∧ RowsV w B xs rs ∧ ∀ u ∈ xs, u.oneCell' = true := by
  rcases Nat.eq_zero_or_pos rs.length with h0 | h0
  · refine ⟨[], fun h => by simp at h, ⟨by simp [h0], fun k hk => by omega⟩, fun u hu => by simp at hu⟩
  · obtain ⟨b, off, rfl, hb, hc⟩ := h.2 h0
    have hx : ∀ k, k < rs.length → ((List.range rs.length).map fun k => (w.cell? ⟨b, off + k, none⟩).getD undef)[k]? = w.cell? ⟨b, off + k, none⟩ := fun k hk => by
      obtain ⟨A', c', h1, _⟩ := hc k hk
      simp [hk, h1]
    refine ⟨(List.range rs.length).map fun k => (w.cell? ⟨b, off + k, none⟩).getD undef, fun _ => ⟨b, off, rfl, hb, fun k hk => (hx k (by simpa using hk)).symm⟩, ⟨by simp, fun k hk => ?_⟩, fun u hu => ?_⟩
    · obtain ⟨A', c', h1, h2⟩ := hc k hk
      exact ⟨A', c', (hx k hk).trans h1, h2⟩
    · simp only [List.mem_map, List.mem_range] at hu
      obtain ⟨k, hk, rfl⟩ := hu
      obtain ⟨A', c', h1, _⟩ := hc k hk
      rw [h1]
      rfl
theorem wpList_append_V {w : World} {ops : Array Oper} {rest : List Oper} {o : Oper} {a : Act} {Q : Exit → Act → World → Prop} (hw : Region.wanted o (yielded ops a.tmps) = true) (s x : Operand) (t : TypeId)
    (ho : o.op = .call { callee := .builtin .append, args := #[s, x], argTypes := #[t, t] })
    (base : Nat) (e : TypeId) (z : Value) (bytes : Nat) (ht : P.underlying t = some (.slice e)) (hinfo : (P.info? e).map (fun i => (i.zero, i.size, i.bytes)) = some (some z, 1, bytes)) (hz1 : z.cells.size = 1)
    (v : Value) (n : Nat) (xs : List Value) (hs : a.eval s = v) (hown : w.ownsRow base e 1 v n xs) (B : Nat) (A : Option Addr) (m c : Nat) (news : List Value) (hx : a.eval x = .slice A m c) (hm : m = news.length)
    (hr : RdV w B A news) (h1 : ∀ u ∈ news, u.oneCell' = true) (h63 : n + m ≤ maxLen) (hbytes : (n + m) * bytes ≤ 140737488355328) (hbase : base ≤ w.heap.size)
    (h : ∀ v' w', w'.ownsRow base e 1 v' (n + m) (xs ++ news) → w.grownBy w' v.ownBlock → (v'.ownBlock = v.ownBlock ∨ v'.ownBlock = some w.heap.size) → wpList P ops Q rest (a.put o.dst v') w') : wpList P ops Q (o :: rest) a w := by
  subst hm
  refine BigFrame.wpList_want hw fun K hK => ?_
  obtain ⟨i, hi, hzz⟩ := Option.map_eq_some_iff.1 hinfo
  simp only [Prod.mk.injEq] at hzz
  obtain ⟨hz, hsz, hb⟩ := hzz
  have hrun : ∃ v' w', (Builtin.append_ #[t, t] o.type #[v, .slice A news.length c]).run P w = .ok v' w' ∧ w'.ownsRow base e 1 v' (n + news.length) (xs ++ news) ∧ w.grownBy w' v.ownBlock ∧ (v'.ownBlock = v.ownBlock ∨ v'.ownBlock = some w.heap.size) := by
    rcases A with _ | ad
    · have hm : news = [] := by
        rcases news with _ | ⟨b, r⟩
        · rfl
        · obtain ⟨_, _, h, _⟩ := hr (by simp)
          cases h
      subst hm
      refine ⟨v, w, ?_, by simpa using hown, World.grownBy.refl w _, .inl rfl⟩
      rcases hown.2 with ⟨rfl, _⟩ | ⟨g, cap, cur, rfl, _, _, hnc, _⟩
      · simp [Builtin.append_, run_underlying ht, sizeOf, typeInfo, hi, Builtin.lenOf, Builtin.firstCells]
      · simp [Builtin.append_, run_underlying ht, sizeOf, typeInfo, hi, Builtin.lenOf, Builtin.firstCells, hnc, storeCells]
    · have hcells : ∀ j u, news[j]? = some u → w.cell? (ad.add j) = some u := by
        intro j u hu
        obtain ⟨hj, _⟩ := List.getElem?_eq_some_iff.1 hu
        obtain ⟨b2, off, h, _, hc⟩ := hr (by omega)
        injection h with h
        subst h
        have e1 : ((⟨b2, off, none⟩ : Addr).add j) = ⟨b2, off + j, none⟩ := by unfold Addr.add; by_cases hk0 : j = 0 <;> simp [hk0]
        rw [e1, hc j hj, hu]
      obtain ⟨v', w', hrun, h2, h3, _, h5⟩ := run_append_own_at (P := P) w base t o.type e i _ 1 bytes ht hi hz hsz hb hz1 (by omega) v n xs hown ad news.length c news (by simp) hcells h1 h63 hbytes hbase
      exact ⟨v', w', hrun, h2, h3, h5⟩
  obtain ⟨v', w', hrun, h2, h3, h4⟩ := hrun
  unfold Oper.wp execOp
  simp only [ho, resolve, invoke, builtin, Sem.run_bind, Sem.run_pure, Result.andThen_ok, List.map_toArray, List.map_cons, List.map_nil, hs, hx, hrun]
  exact hK _ _ (h v' w' h2 h3 h4)
/-- An own row of slices reads as rows. -/
theorem rdr_own {w : World} {B base : Nat} {e : TypeId} {v : Value} {n : Nat} {xs : List Value} {rs : List (List UInt8)} (h : w.ownsRow base e 1 v n xs) (hB : w.heap.size ≤ B) (hl : rs.length ≤ 140737488355328) (hx : RowsV w B xs rs) :
    ∃ A cap, v = .slice A rs.length cap ∧ RdR w B A rs := by
  have hn : n = rs.length := by have := h.1; have := hx.1; omega
  subst hn
  rcases h.2 with ⟨rfl, h0⟩ | ⟨g, cap, cur, rfl, _, hg, _, _, _, htk⟩
  · exact ⟨none, 0, by rw [h0], hl, fun h => by omega⟩
  · refine ⟨_, cap, rfl, rdr_cells hg (by have := (Array.getElem?_eq_some_iff.1 hg).1; omega) hl fun k hk => ?_⟩
    obtain ⟨A, c, h1, h2⟩ := hx.2 k hk
    refine ⟨A, c, ?_, h2⟩
    rw [← htk, List.getElem?_take, if_pos (by omega), Array.getElem?_toList] at h1
    exact h1
theorem rows_one {w : World} {B : Nat} {A : Option Addr} {c : Nat} {bs : List UInt8} {xs : List Value} {rs : List (List UInt8)} (h : RdB w B A bs) (hx : RowsV w B xs rs) : RowsV w B ([.slice A bs.length c] ++ xs) (bs :: rs) :=
  ⟨by simp [hx.1], fun k hk => by
    cases k with
    | zero => exact ⟨A, c, rfl, h⟩
    | succ k => exact hx.2 k (by simpa using hk)⟩
theorem RowsV.below {w w' : World} {B B' : Nat} {xs : List Value} {rs : List (List UInt8)} (hx : RowsV w B xs rs) (hb : Below B w w') (hB : B ≤ B') : RowsV w' B' xs rs :=
  ⟨hx.1, fun k hk => by
    obtain ⟨A, c, h1, h2⟩ := hx.2 k hk
    exact ⟨A, c, h1, (h2.below hb (Nat.le_refl _)).more hB⟩⟩
/-- append([][]byte{x}, rows...). -/
theorem wpList_append_rows1 {W : World} {ops : Array Oper} {rest : List Oper} {o : Oper} {a : Act} {Q : Exit → Act → World → Prop} (hw : Region.wanted o (yielded ops a.tmps) = true) (s x : Operand) (t : TypeId)
    (ho : o.op = .call { callee := .builtin .append, args := #[s, x], argTypes := #[t, t] }) (e : TypeId) (ht : P.underlying t = some (.slice e)) (hinfo : (P.info? e).map (fun i => (i.zero, i.size, i.bytes)) = some (some (.slice none 0 0), 1, 24))
    (A1 : Option Addr) (n1 c1 : Nat) (b1 : List UInt8) (hn1 : b1.length = n1) (hs : a.eval s = .slice (some ⟨W.heap.size, 0, none⟩) 1 1) (A : Option Addr) (n c : Nat) (rs : List (List UInt8)) (hx : a.eval x = .slice A n c)
    (hn : rs.length = n) (hn2 : n ≤ 1000000) (h1 : RdB W W.heap.size A1 b1) (hr : RdR W W.heap.size A rs)
    (h : ∀ A2 cap2 w2, RdR w2 w2.heap.size A2 (b1 :: rs) → Below W.heap.size W w2 → wpList P ops Q rest (a.put o.dst (.slice A2 (1 + n) cap2)) w2) : wpList P ops Q (o :: rest) a (W.alloc (.cells #[.slice A1 n1 c1] e)) := by
  subst hn1 hn
  obtain ⟨xs, hxv, hxr, hx1⟩ := hr.vals
  refine wpList_append_V hw s x t ho W.heap.size e (.slice none 0 0) 24 ht hinfo rfl _ 1 _ hs (World.ownsRow_lit W #[.slice A1 b1.length c1] 1 (Nat.le_refl _) (by decide) rfl) W.heap.size A rs.length c xs hx
    hxr.1.symm (hxv.below (below1 W _) (Nat.le_refl _)) hx1 (by unfold maxLen; omega) (by omega) (by simp) ?_
  intro v2 w2 hown2 hg2 hat2
  have hb2 : Below W.heap.size W w2 := (below1 W _).grown hg2 (by simp) (by intro k hk; simp [Value.ownBlock] at hk; omega)
  obtain ⟨A2, cap2, rfl, hrr⟩ := rdr_own (rs := b1 :: rs) hown2 (Nat.le_refl _) (by simp; omega) (rows_one (c := c1) ((h1.below hb2 (Nat.le_refl _)).more hb2.size) (hxr.below hb2 hb2.size))
  have := h A2 cap2 w2 hrr hb2
  rwa [Nat.add_comm] at this
end
end Go.Proofs.YtfgiomidlfoonaaDoor
end
section
namespace Go.Proofs.YtfgiomidlfoonaaDoor
open Go.ChangeShapes Go.WideShapes Go.ChangeAt Go.RowKit

section
variable {H : Type} {enc : TypeId × Value → H} {P : Program}

/-- All arguments read behind the call as they did, where nothing old has turned. -/
theorem args_again (hl : laidOutB P = true) {W W' : World} (hb : Below W.heap.size W W') :
    ∀ {ts : List TypeId} {vs : List Value} {ds : List (DataW H)} {p : List MemPlace}, (∀ t ∈ ts, P.readableRec t = true ∧ t < P.types.size) →
      DataW.TrodAll enc P W 0 (fun _ => true) true ts vs ds p → (∀ x ∈ p, x.block < W.heap.size) → DataW.TrodAll enc P W' 0 (fun b => decide (b < W.heap.size)) true ts vs ds p
  | [], _, _, _, _, h, _ => by
    obtain ⟨rfl, rfl, rfl⟩ := trodAll_nil h
    exact trodAll_mk0
  | t :: ts, _, _, _, hts, h, hlt => by
    obtain ⟨v, vs1, d, ds1, a, b, rfl, rfl, rfl, h1, h2⟩ := trodAll_cons h
    have ht := hts t (by simp)
    exact trodAll_cons_mk (Below.trod hl ht.1 ht.2 h1 hb fun x hx => hlt x (by simp [hx])) (args_again hl hb (fun t' ht' => hts t' (by simp [ht'])) h2 fun x hx => hlt x (by simp [hx]))

/-- A law's row behind the walk: true came back, and nothing old has turned. -/
theorem law_post {f : Func} {s : ChangeSpec} {W W' : World} {args : Array Value} {ds gs : List (DataW H)} {before : List MemPlace} {tb : TypeId} (hl : laidOutB P = true)
    (hts0 : (f.params.toList.all fun t => P.readableRec t && decide (t < P.types.size)) = true) (hv : s.vars = []) (hr : f.resultTypes = #[tb]) (htb : P.underlying tb = some .bool)
    (hfn : ∀ l : List (DataW H), l.length = f.params.size → (s.fn H l).results = [.lit (.bool true)] ∧ (s.fn H l).args = l ∧ (s.fn H l).vars = [])
    (hW : DataW.Whole enc P f.params.toList s.vars false W args.toList ds gs before) (hb : Below W.heap.size W W') :
    ∃ v, Ending.returned (.bool true) = .returned v ∧ s.post enc P f false true false false W args v W' := by
  have hts : ∀ t ∈ f.params.toList, P.readableRec t = true ∧ t < P.types.size := fun t ht => by simpa using List.all_eq_true.1 hts0 t ht
  have hW' := hW
  obtain ⟨p, q, hA, hV, rfl, hfz, hnd⟩ := hW
  rw [hv] at hV
  obtain ⟨rfl, rfl⟩ := trodVars_none hV
  have hlen : ds.length = f.params.size := by
    have : ∀ {ts : List TypeId} {vs : List Value} {ds : List (DataW H)} {p : List MemPlace}, DataW.TrodAll enc P W 0 (fun _ => true) true ts vs ds p → ds.length = ts.length := by
      intro ts
      induction ts with
      | nil => intro vs ds p h; obtain ⟨rfl, rfl, rfl⟩ := trodAll_nil h; rfl
      | cons t ts ih => intro vs ds p h; obtain ⟨v, vs1, d, ds1, a, b, rfl, rfl, rfl, h1, h2⟩ := trodAll_cons h; simp [ih h2]
    simpa using this hA
  obtain ⟨e1, e2, e3⟩ := hfn ds hlen
  have hlt : ∀ x ∈ p ++ [], x.block < W.heap.size := fun x hx => by simpa using hW'.lt x hx
  refine ⟨_, rfl, _, _, _, [], p, [], hW', ?_, ?_, ?_, hb.frame _, fun h => by cases h⟩
  · rw [List.append_nil, e1, hr]
    exact trodAll_mk1 (shut_bool htb _)
  · rw [List.append_nil, e2]
    exact args_again hl hb hts hA (by simpa using hlt)
  · rw [List.append_nil, e3, hv]
    rfl

theorem byte_of {z : Int} (h : 0 ≤ z ∧ z ≤ 255) : ∃ b : UInt8, z = (b.toNat : Int) := ⟨UInt8.ofNat z.toNat, by rw [UInt8.toNat_ofNat', Nat.mod_eq_of_lt (by omega)]; omega⟩
/-- No parameter wants a stand-in: what a card asks. -/
theorem plain_of {name : String} {f0 : FuncId} {fn0 : Func} (h1 : P.funcNamed name = some f0) (h2 : P.funcs[f0]? = some fn0) (h3 : P.looks [] = false) (h4 : (fn0.params.toList.all fun t => !P.wantsStandIn t) = true) (f : FuncId) (fn : Func)
    (hf : P.funcNamed name = some f) (hfn : P.funcs[f]? = some fn) : false = P.looks [] ∧ ∀ (j : Nat) t, fn.params[j]? = some t → P.wantsStandIn t = false := by
  obtain rfl : f = f0 := Option.some.inj (hf.symm.trans h1)
  obtain rfl : fn = fn0 := Option.some.inj (hfn.symm.trans h2)
  refine ⟨h3.symm, fun j t ht => ?_⟩
  have := List.all_eq_true.1 h4 t (by simpa using Array.mem_of_getElem? ht)
  simpa using this

/-- A slice of bytes that came in. -/
theorem open_bytes {t e : TypeId} (ht : P.underlying t = some (.slice e)) (he : P.underlying e = some (.int .u8)) (hc : P.cellsOf e = 1) (hby : P.bytesOf e = 1) {r : Reach} {W : World} {base : Nat} {v : Value} {d : DataW H} {p : List MemPlace}
    (hv : Value.okWide P W r base t v) (h : DataW.Trod enc P W 0 (fun _ => true) true t v d p) (hs : ∀ n ∈ d.weights P t, n ≤ reachBytes) :
    ∃ A bs cap, v = .slice A bs.length cap ∧ bs.length ≤ cap ∧ cap ≤ 140737488355328 ∧ RdB W W.heap.size A bs := by
  obtain ⟨A, len, cap, rfl⟩ := okWide_slice ht hv
  obtain ⟨fuel, hf⟩ := h
  rcases open_ints ht he hc hf with ⟨hcs, _⟩ | ⟨x, l, c, zs, hcs, _, hl, hm, hz, hd, hcell, hwz⟩
  · simp [Value.cells] at hcs
    obtain ⟨rfl, rfl, rfl⟩ := hcs
    exact ⟨none, [], 0, rfl, Nat.le_refl _, by omega, RdB.nil _ _ _⟩
  · simp [Value.cells] at hcs
    obtain ⟨rfl, rfl, rfl⟩ := hcs
    simp only [if_true] at hz
    have hcap : cap ≤ 140737488355328 := by
      injection hd with hd1 hd2
      have := hs ((((zs.take len).map fun z => (DataW.lit (.int .u8 z) : DataW H)).length + ((zs.drop len).map fun z => (DataW.lit (.int .u8 z) : DataW H)).length) * P.bytesOf e) (by rw [hd1]; simp [DataW.weights, ht, lits])
      rw [hby] at this
      simp [reachBytes] at this
      omega
    have hb : ∀ k, k < zs.length → ∃ b : UInt8, zs.getD k 0 = (b.toNat : Int) := fun k hk => by
      have hmem : zs.getD k 0 ∈ zs := by simp [hk]
      have hw := bounds_u8 (hwz _ hmem)
      refine ⟨UInt8.ofNat (zs.getD k 0).toNat, ?_⟩
      rw [UInt8.toNat_ofNat', Nat.mod_eq_of_lt (by omega)]
      omega
    refine ⟨some x, (zs.take len).map fun z => UInt8.ofNat z.toNat, cap, ?_, ?_, hcap, ?_⟩
    · simp; omega
    · simp; omega
    · refine ⟨by simp; omega, fun hn => ?_⟩
      simp at hn
      obtain ⟨b, off, spot⟩ := x
      have hc0 := hcell 0 (by omega)
      have hspot : spot = none := by simpa [Addr.add] using World.cell?_spot hc0
      subst hspot
      refine ⟨b, off, rfl, ?_, fun k hk => ?_⟩
      · have := World.block_lt_of_cell? _ _ hc0
        simpa [Addr.add] using this
      · simp at hk
        have hk1 := hcell k (by omega)
        obtain ⟨bb, hbb⟩ := hb k (by omega)
        rw [hbb] at hk1
        have e1 : ((⟨b, off, none⟩ : Addr).add k) = ⟨b, off + k, none⟩ := by unfold Addr.add; by_cases hk0 : k = 0 <;> simp [hk0]
        rw [e1] at hk1
        rw [hk1]
        have e2 : zs[k]? = some (bb.toNat : Int) := by rw [← hbb, List.getD_eq_getElem?_getD, List.getElem?_eq_getElem (by omega)]; rfl
        have e3 : ((zs.take len).map fun z => UInt8.ofNat z.toNat).getD k 0 = bb := by
          rw [List.getD_eq_getElem?_getD, List.getElem?_map, List.getElem?_take, if_pos (by omega), e2]
          simp
        rw [e3]
end
end Go.Proofs.YtfgiomidlfoonaaDoor
end
section
namespace Go.Proofs.YtfgiomidlfoonaaDoor
open Go.ChangeShapes Go.WideShapes Go.ChangeAt Go.RowKit

/-- As RdR; and no row is longer than its room. -/
def RdC (w : World) (B : Nat) (A : Option Addr) (rs : List (List UInt8)) : Prop :=
  rs.length ≤ 140737488355328 ∧ (0 < rs.length → ∃ b off, A = some ⟨b, off, none⟩ ∧ b < B ∧ ∀ k, k < rs.length → ∃ A' c, w.cell? ⟨b, off + k, none⟩ = some (.slice A' (rs.getD k []).length c) ∧ (rs.getD k []).length ≤ c ∧ RdB w B A' (rs.getD k []))
theorem RdC.rdr {w : World} {B : Nat} {A : Option Addr} {rs : List (List UInt8)} (h : RdC w B A rs) : RdR w B A rs :=
  ⟨h.1, fun h0 => by
    obtain ⟨b, off, e, hb, hc⟩ := h.2 h0
    refine ⟨b, off, e, hb, fun k hk => ?_⟩
    obtain ⟨A', c, h1, _, h2⟩ := hc k hk
    exact ⟨A', c, h1, h2⟩⟩
theorem RdC.keep {w w' : World} {B B' : Nat} {A : Option Addr} {rs : List (List UInt8)} (h : RdC w B A rs) (hB : B ≤ B') (hk : ∀ p : Addr, p.block < B → w'.cell? p = w.cell? p) : RdC w' B' A rs :=
  ⟨h.1, fun hn => by
    obtain ⟨b, off, e, hb, hc⟩ := h.2 hn
    refine ⟨b, off, e, by omega, fun k hk' => ?_⟩
    obtain ⟨A', c, h1, h2, h3⟩ := hc k hk'
    exact ⟨A', c, (hk ⟨b, off + k, none⟩ hb).trans h1, h2, h3.keep hB hk⟩⟩
theorem RdC.below {w w' : World} {B B' : Nat} {A : Option Addr} {rs : List (List UInt8)} (h : RdC w B A rs) (hb : Below B' w w') (hB : B ≤ B') : RdC w' B A rs := h.keep (Nat.le_refl _) fun p hp => hb.cell (by omega)
theorem RdC.more {w : World} {B B' : Nat} {A : Option Addr} {rs : List (List UInt8)} (h : RdC w B A rs) (hB : B ≤ B') : RdC w B' A rs := h.keep hB fun _ _ => rfl
/-- A slice of slices cut: s[:k], s[k:]. -/
theorem RdR.take {w : World} {B : Nat} {A : Option Addr} {rs : List (List UInt8)} (h : RdR w B A rs) (k : Nat) : RdR w B A (rs.take k) :=
  ⟨by have := h.1; simp; omega, fun hn => by
    have hn' : 0 < rs.length := by simp at hn; omega
    obtain ⟨b, off, e, hb, hc⟩ := h.2 hn'
    refine ⟨b, off, e, hb, fun j hj => ?_⟩
    have hj' : j < k ∧ j < rs.length := by simp at hj; omega
    have e : (rs.take k).getD j [] = rs.getD j [] := by simp [hj'.1]
    rw [e]
    exact hc j hj'.2⟩
theorem RdR.drop {w : World} {B : Nat} {A : Option Addr} {rs : List (List UInt8)} (h : RdR w B A rs) (k cap : Nat) (hc : rs.length ≤ cap) : RdR w B (if cap = k then A else A.map (·.add k)) (rs.drop k) :=
  ⟨by have := h.1; simp; omega, fun hn => by
    have hn' : k < rs.length := by simp at hn; omega
    obtain ⟨b, off, rfl, hb, hc⟩ := h.2 (by omega)
    rw [if_neg (by omega)]
    refine ⟨b, off + k, ?_, hb, fun j hj => ?_⟩
    · unfold Addr.add; by_cases hk0 : k = 0 <;> simp [hk0]
    · have hj' : k + j < rs.length := by simp at hj; omega
      have e : (rs.drop k).getD j [] = rs.getD (k + j) [] := by simp
      rw [Nat.add_assoc, e]
      exact hc (k + j) hj'⟩

section
variable {H : Type} {enc : TypeId × Value → H} {P : Program}
theorem weightsAll_mem {e : TypeId} {d : DataW H} {n : Nat} : ∀ {ds : List (DataW H)}, d ∈ ds → n ∈ d.weights P e → n ∈ DataW.weightsAll P e ds
  | _ :: _, .head _, h => by unfold DataW.weightsAll; exact List.mem_append_left _ h
  | _ :: _, .tail _ h', h => by unfold DataW.weightsAll; exact List.mem_append_right _ (weightsAll_mem h' h)
/-- A slice of slices of bytes that came in. -/
theorem open_rows {t e q : TypeId} (ht : P.underlying t = some (.slice e)) (he : P.underlying e = some (.slice q)) (hq : P.underlying q = some (.int .u8)) (ce : P.cellsOf e = 1) (cq : P.cellsOf q = 1) (be : P.bytesOf e = 24) (bq : P.bytesOf q = 1)
    {r : Reach} {W : World} {base : Nat} {v : Value} {d : DataW H} {p : List MemPlace}
    (hv : Value.okWide P W r base t v) (h : DataW.Trod enc P W 0 (fun _ => true) true t v d p) (hs : ∀ n ∈ d.weights P t, n ≤ reachBytes) :
    ∃ A rs cap, v = .slice A rs.length cap ∧ rs.length ≤ cap ∧ RdC W W.heap.size A rs := by
  obtain ⟨A, len, cap, rfl⟩ := okWide_slice ht hv
  obtain ⟨fuel, hf⟩ := h
  rcases Deep.open_int_rows ht he hq ce cq hf with ⟨hcs, _⟩ | ⟨a, l, c, As, L, C, Z, hcs, _, hl, hm, hd, hall⟩
  · simp [Value.cells] at hcs
    obtain ⟨rfl, rfl, rfl⟩ := hcs
    exact ⟨none, [], 0, rfl, Nat.le_refl _, by simp, fun h => by simp at h⟩
  · simp [Value.cells] at hcs
    obtain ⟨rfl, rfl, rfl⟩ := hcs
    injection hd with hd1 hd2
    have hcap : cap ≤ 140737488355328 := by
      have := hs ((len + (cap - len)) * 24) (by rw [hd1]; simp [DataW.weights, ht, be])
      simp [reachBytes] at this
      omega
    have hrow : ∀ r, r < len → C r ≤ 140737488355328 := fun r hr => by
      obtain ⟨_, h2, h3, h4, _, h6, _⟩ := hall r (by omega)
      cases hA : As r with
      | none => have := h6 hA; omega
      | some a' =>
        have hw : C r * 1 ∈ (Deep.intRow (H := H) .u8 (As r) (L r) (Z r)).weights P e := by
          rw [hA]
          simp [Deep.intRow, DataW.weights, he, lits, bq, h4]
          omega
        have := hs _ (by rw [hd1]; unfold DataW.weights; simp only [ht]; exact List.mem_cons_of_mem _ (List.mem_append_left _ (weightsAll_mem (List.mem_map.2 ⟨r, List.mem_range.2 hr, rfl⟩) hw)))
        simp [reachBytes] at this
        omega
    have hcellA : ∀ r a', r < len → As r = some a' → 0 < C r → ∃ b off, a' = ⟨b, off, none⟩ ∧ b < W.heap.size := fun r a' hr hA hp => by
      obtain ⟨_, _, _, _, _, _, h7⟩ := hall r (by omega)
      have hc0 := (h7 a' hA).2 0 hp
      obtain ⟨b, off, spot⟩ := a'
      have hspot : spot = none := by simpa [Addr.add] using World.cell?_spot hc0
      subst hspot
      exact ⟨b, off, rfl, by have := World.block_lt_of_cell? _ _ hc0; simpa [Addr.add] using this⟩
    have hZ : ∀ r, r < len → ((Z r).take (L r)).length = L r := fun r hr => by
      obtain ⟨_, h2, _, h4, _⟩ := hall r (by omega)
      rw [List.length_take, h4]; omega
    have hget : ∀ r, r < len → ((List.range len).map fun r => ((Z r).take (L r)).map fun z => UInt8.ofNat z.toNat).getD r [] = ((Z r).take (L r)).map fun z => UInt8.ofNat z.toNat := fun r hr => by
      simp [hr]
    refine ⟨some a, (List.range len).map fun r => ((Z r).take (L r)).map fun z => UInt8.ofNat z.toNat, cap, by simp, by simpa using hl, by simp; omega, fun h0 => ?_⟩
    have h0' : 0 < len := by simpa using h0
    have hc0 := (hall 0 (by omega)).1
    obtain ⟨b, off, spot⟩ := a
    have hspot : spot = none := by simpa [Addr.add] using World.cell?_spot hc0
    subst hspot
    refine ⟨b, off, rfl, by have := World.block_lt_of_cell? _ _ hc0; simpa [Addr.add] using this, fun k hk => ?_⟩
    have hk' : k < len := by simpa using hk
    obtain ⟨h1, h2, h3, h4, h5, h6, h7⟩ := hall k (by omega)
    have e1 : ((⟨b, off, none⟩ : Addr).add k) = ⟨b, off + k, none⟩ := by unfold Addr.add; by_cases hk0 : k = 0 <;> simp [hk0]
    rw [e1] at h1
    rw [hget k hk', List.length_map, hZ k hk']
    refine ⟨As k, C k, h1, h2, ?_, fun hn => ?_⟩
    · rw [List.length_map, hZ k hk']; have := hrow k hk'; omega
    · rw [List.length_map, hZ k hk'] at hn
      cases hA : As k with
      | none => have := h6 hA; omega
      | some a' =>
        obtain ⟨b2, off2, rfl, hb2⟩ := hcellA k a' hk' hA (by omega)
        refine ⟨b2, off2, rfl, hb2, fun j hj => ?_⟩
        rw [List.length_map, hZ k hk'] at hj
        have hcj := (h7 _ hA).2 j (by omega)
        have e2 : ((⟨b2, off2, none⟩ : Addr).add j) = ⟨b2, off2 + j, none⟩ := by unfold Addr.add; by_cases hk0 : j = 0 <;> simp [hk0]
        rw [e2] at hcj
        rw [hcj]
        have hmem : (Z k).getD j 0 ∈ Z k := by simp [show j < (Z k).length by omega]
        have hw := bounds_u8 (h5 _ hmem)
        have e4 : (Z k)[j]? = some ((Z k).getD j 0) := by rw [List.getD_eq_getElem?_getD, List.getElem?_eq_getElem (by omega)]; rfl
        have e3 : (((Z k).take (L k)).map fun z => UInt8.ofNat z.toNat).getD j 0 = UInt8.ofNat ((Z k).getD j 0).toNat := by
          rw [List.getD_eq_getElem?_getD, List.getElem?_map, List.getElem?_take, if_pos hj, e4]
          rfl
        rw [e3, UInt8.toNat_ofNat', Nat.mod_eq_of_lt (by omega)]
        congr 2
        omega
end

/-- Values that read as rows, none of them in block ob. -/
def RowsX (w : World) (B : Nat) (ob : Option Nat) (xs : List Value) (rs : List (List UInt8)) : Prop :=
  xs.length = rs.length ∧ ∀ k, k < rs.length → ∃ A c, xs[k]? = some (.slice A (rs.getD k []).length c) ∧ RdB w B A (rs.getD k []) ∧ (0 < (rs.getD k []).length → ∀ a, A = some a → some a.block ≠ ob)
theorem RowsX.nil (w : World) (B : Nat) (ob : Option Nat) : RowsX w B ob [] [] := ⟨rfl, fun k hk => by simp at hk⟩
theorem RowsX.rowsV {w : World} {B : Nat} {ob : Option Nat} {xs : List Value} {rs : List (List UInt8)} (h : RowsX w B ob xs rs) : RowsV w B xs rs :=
  ⟨h.1, fun k hk => by
    obtain ⟨A, c, h1, h2, _⟩ := h.2 k hk
    exact ⟨A, c, h1, h2⟩⟩
theorem RowsX.below {w w' : World} {ob : Option Nat} {xs : List Value} {rs : List (List UInt8)} (h : RowsX w w.heap.size ob xs rs) (hb : Below w.heap.size w w') : RowsX w' w'.heap.size ob xs rs :=
  ⟨h.1, fun k hk => by
    obtain ⟨A, c, h1, h2, h3⟩ := h.2 k hk
    exact ⟨A, c, h1, (h2.below hb (Nat.le_refl _)).more hb.size, h3⟩⟩
theorem RowsX.grown {w w' : World} {ob ob' : Option Nat} {xs : List Value} {rs : List (List UInt8)} (h : RowsX w w.heap.size ob xs rs) (hg : w.grownBy w' ob) (ho : ob' = ob ∨ ob' = some w.heap.size) : RowsX w' w'.heap.size ob' xs rs :=
  ⟨h.1, fun k hk => by
    obtain ⟨A, c, h1, h2, h3⟩ := h.2 k hk
    refine ⟨A, c, h1, ⟨h2.1, fun h0 => ?_⟩, fun h0 a ha => ?_⟩
    · obtain ⟨b, off, e, hb, hc⟩ := h2.2 h0
      have hne := h3 h0 _ e
      refine ⟨b, off, e, by have := hg.size; omega, fun j hj => ?_⟩
      rw [← hc j hj]
      exact World.cell?_of_block (w := w) (hg.block b hb hne)
    · rcases ho with rfl | rfl
      · exact h3 h0 a ha
      · obtain ⟨b, off, e, hb, hc⟩ := h2.2 h0
        rw [ha] at e
        injection e with e
        subst e
        intro e
        injection e with e
        simp at e
        omega⟩
theorem RowsX.snoc {w : World} {B : Nat} {ob : Option Nat} {xs : List Value} {rs : List (List UInt8)} (h : RowsX w B ob xs rs) {A : Option Addr} {c : Nat} {bs : List UInt8} (hr : RdB w B A bs) (hne : 0 < bs.length → ∀ a, A = some a → some a.block ≠ ob) : RowsX w B ob (xs ++ [.slice A bs.length c]) (rs ++ [bs]) :=
  ⟨by simp [h.1], fun k hk => by
    by_cases hk2 : k < rs.length
    · obtain ⟨A', c', h1, h2, h3⟩ := h.2 k hk2
      have e : (rs ++ [bs]).getD k [] = rs.getD k [] := by simp [List.getElem?_append_left hk2]
      rw [e]
      exact ⟨A', c', by rw [List.getElem?_append_left (by rw [h.1]; exact hk2)]; exact h1, h2, h3⟩
    · have hk3 : k = rs.length := by simp at hk; omega
      subst hk3
      have e : (rs ++ [bs]).getD rs.length [] = bs := by simp
      rw [e]
      exact ⟨A, c, by rw [← h.1]; simp, hr, hne⟩⟩
/-- An own row of slices, read as rows, with its room. -/
theorem rdr_ownC {w : World} {base : Nat} {e : TypeId} {v : Value} {n : Nat} {xs : List Value} {rs : List (List UInt8)} (h : w.ownsRow base e 1 v n xs) (hl : rs.length ≤ 140737488355328) (hx : RowsV w w.heap.size xs rs) :
    ∃ A cap, v = .slice A rs.length cap ∧ rs.length ≤ cap ∧ RdR w w.heap.size A rs := by
  obtain ⟨A, cap, hv, hr⟩ := rdr_own h (Nat.le_refl _) hl hx
  refine ⟨A, cap, hv, ?_, hr⟩
  have hn : n = rs.length := by have := h.1; have := hx.1; omega
  rcases h.2 with ⟨h1, h0⟩ | ⟨g, cap', cur, h1, _, _, h3, _⟩
  · rw [hv] at h1; injection h1 with _ _ h1; omega
  · rw [hv] at h1; injection h1 with _ _ h1; omega
/-- A block of bytes that a literal made. -/
theorem rdb_lit {w : World} {g : Nat} {cs : Array Value} {t : TypeId} {f : Nat × Nat} {bs : List UInt8} (hg : w.heap[g]? = some (.cells cs t f)) (hl : bs.length ≤ 140737488355328) (hcs : cs.toList = bs.map bv) : RdB w w.heap.size (some ⟨g, 0, none⟩) bs :=
  rdb_block hg (Array.getElem?_eq_some_iff.1 hg).1 hl fun k hk => by
    rw [← Array.getElem?_toList, hcs, List.getElem?_map, List.getElem?_eq_getElem hk, List.getD_eq_getElem?_getD, List.getElem?_eq_getElem hk]
    rfl
theorem hp_get (w : World) (o : Obj) (g : Nat) : (w.alloc o).heap[g]? = if g = w.heap.size then some o else w.heap[g]? := by
  split
  · next h => exact hp_new w o g h
  · next h =>
    by_cases h2 : g < w.heap.size
    · exact hp_old w o g h2
    · rw [Array.getElem?_eq_none (by simp; omega), Array.getElem?_eq_none (by omega)]
end Go.Proofs.YtfgiomidlfoonaaDoor
end
section
namespace Go.Proofs.YtfgiomidlfoonaaDoor

/-- A geometry (level, disks, chunk) that may be. -/
def lvB (l d : Int) : Bool := decide (((l = 5 ∧ 3 ≤ d) ∨ (l = 6 ∧ 4 ≤ d)) ∧ d ≤ 8)
def chB (c : Int) : Bool := decide (c = 1 ∨ c = 2 ∨ c = 4)
def gOk (l d c : Int) : Bool := lvB l d && chB c
def gBud (l d c : Int) : Int := if gOk l d c = true then l - 4 else 0
def gWid (l d c : Int) : Int := if gOk l d c = true then d - (l - 4) else 0
def gCap (l d c : Int) : Int := gWid l d c * 16
def gEq (l d c l' d' c' : Int) : Bool := decide (l = l' ∧ d = d' ∧ c = c')
def gGe (l d c l' d' c' : Int) : Bool := decide (d ≤ d' ∧ l ≤ l' ∧ gWid l d c ≤ gWid l' d' c')
def gCan (l d c l' d' c' : Int) : Bool := gOk l d c && gOk l' d' c' && !gEq l d c l' d' c' && gGe l d c l' d' c'

def gErr (l d c : Int) : Int := if gOk l d c = true then 0 else 1
theorem gErr_yes {l d c : Int} (h : gOk l d c = true) : gErr l d c = 0 := if_pos h
theorem gErr_no {l d c : Int} (h : gOk l d c = false) : gErr l d c = 1 := if_neg (by rw [h]; decide)
theorem lvB_no {l d : Int} (h : ¬ (((l = 5 ∧ 3 ≤ d) ∨ (l = 6 ∧ 4 ≤ d)) ∧ d ≤ 8)) : lvB l d = false := decide_eq_false h
theorem lvB_5 {d : Int} (h : ¬ 8 < d) : lvB 5 d = decide (3 ≤ d) := by simp [lvB]; omega
theorem lvB_6 {d : Int} (h : ¬ 8 < d) : lvB 6 d = decide (4 ≤ d) := by simp [lvB]; omega
theorem chB_no {c : Int} (h : ¬ (c = 1 ∨ c = 2 ∨ c = 4)) : chB c = false := decide_eq_false h
theorem chB_yes {c : Int} (h : c = 1 ∨ c = 2 ∨ c = 4) : chB c = true := decide_eq_true h
theorem gGe_eq (l d c l' d' c' : Int) : gGe l d c l' d' c' = decide (d ≤ d' ∧ l ≤ l' ∧ gWid l d c ≤ gWid l' d' c') := rfl
theorem gOk_yes {l d c : Int} (h : gOk l d c = true) : ((l = 5 ∧ 3 ≤ d) ∨ (l = 6 ∧ 4 ≤ d)) ∧ d ≤ 8 ∧ (c = 1 ∨ c = 2 ∨ c = 4) := by
  simp [gOk, lvB, chB] at h
  omega
theorem gOk_mk {l d c : Int} (h : ((l = 5 ∧ 3 ≤ d) ∨ (l = 6 ∧ 4 ≤ d)) ∧ d ≤ 8 ∧ (c = 1 ∨ c = 2 ∨ c = 4)) : gOk l d c = true := by
  simp [gOk, lvB, chB]
  omega
theorem gOk_no {l d c : Int} (h : ¬ (((l = 5 ∧ 3 ≤ d) ∨ (l = 6 ∧ 4 ≤ d)) ∧ d ≤ 8 ∧ (c = 1 ∨ c = 2 ∨ c = 4))) : gOk l d c = false := by
  rw [← Bool.not_eq_true]; intro h'; exact h (gOk_yes h')
theorem gOk_bd {l d c : Int} (h : gOk l d c = true) : 5 ≤ l ∧ l ≤ 6 ∧ 3 ≤ d ∧ d ≤ 8 ∧ 1 ≤ c ∧ c ≤ 4 := by
  have := gOk_yes h
  omega
theorem gBud_yes {l d c : Int} (h : gOk l d c = true) : gBud l d c = l - 4 := if_pos h
theorem gBud_no {l d c : Int} (h : gOk l d c = false) : gBud l d c = 0 := if_neg (by rw [h]; decide)
theorem gWid_yes {l d c : Int} (h : gOk l d c = true) : gWid l d c = d - (l - 4) := if_pos h
theorem gWid_no {l d c : Int} (h : gOk l d c = false) : gWid l d c = 0 := if_neg (by rw [h]; decide)
theorem gBud_bd (l d c : Int) : 0 ≤ gBud l d c ∧ gBud l d c ≤ 2 := by
  cases h : gOk l d c
  · rw [gBud_no h]; omega
  · have := gOk_bd h; rw [gBud_yes h]; omega
theorem gWid_bd (l d c : Int) : 0 ≤ gWid l d c ∧ gWid l d c ≤ 7 := by
  cases h : gOk l d c
  · rw [gWid_no h]; omega
  · have := gOk_yes h; rw [gWid_yes h]; omega
theorem gEq_yes {l d c l' d' c' : Int} (h : gEq l d c l' d' c' = true) : l = l' ∧ d = d' ∧ c = c' := by simpa [gEq] using h
theorem gEq_no {l d c l' d' c' : Int} (h : gEq l d c l' d' c' = false) : ¬ (l = l' ∧ d = d' ∧ c = c') := by simpa [gEq] using h
theorem gEq_refl (l d c : Int) : gEq l d c l d c = true := by simp [gEq]
theorem gCan_parts {l d c l' d' c' : Int} (h : gCan l d c l' d' c' = true) : gOk l d c = true ∧ gOk l' d' c' = true ∧ gEq l d c l' d' c' = false ∧ d ≤ d' ∧ l ≤ l' ∧ gWid l d c ≤ gWid l' d' c' := by
  simp [gCan, gGe] at h
  exact ⟨h.1.1.1, h.1.1.2, h.1.2, h.2.1, h.2.2.1, h.2.2.2⟩
theorem gCan_mk {l d c l' d' c' : Int} (h : gOk l d c = true ∧ gOk l' d' c' = true ∧ gEq l d c l' d' c' = false ∧ d ≤ d' ∧ l ≤ l' ∧ gWid l d c ≤ gWid l' d' c') : gCan l d c l' d' c' = true := by
  simp [gCan, gGe]
  exact ⟨⟨⟨h.1, h.2.1⟩, h.2.2.1⟩, h.2.2.2.1, h.2.2.2.2.1, h.2.2.2.2.2⟩
theorem gCan_ok {l d c l' d' c' : Int} (h : gOk l d c = true) (h' : gOk l' d' c' = true) (hn : gEq l d c l' d' c' = false) : gCan l d c l' d' c' = gGe l d c l' d' c' := by
  simp [gCan, h, h', hn]
end Go.Proofs.YtfgiomidlfoonaaDoor
end
section
namespace Go.Proofs.YtfgiomidlfoonaaDoor

def nibs : List Nat := [0, 274646895, 549293790, 820201905, 1098587580, 1361435347, 1640403810, 1905808397, 2197175160, 2460548119, 2722870694, 2987750089, 3280807620, 3553878443, 3811616794, 4084100981]
/-- Four digits taken out of a sum, by the table. -/
def half (x : Nat) : Nat := (x / 16) ^^^ nibs.getD (x % 16) 0
def stepB (x : Nat) (c : UInt8) : Nat := half (half (x ^^^ c.toNat))
def feedB (x : Nat) (bs : List UInt8) : Nat := bs.foldl stepB x
def feedR (x : Nat) (rs : List (List UInt8)) : Nat := rs.foldl feedB x
def sumR (rs : List (List UInt8)) : Nat := feedR 4294967295 rs ^^^ 4294967295

theorem nibs_lt (i : Nat) : nibs.getD i 0 < 4294967296 := by
  by_cases h : i < 16
  · exact (show ∀ i, i < 16 → nibs.getD i 0 < 4294967296 by decide) i h
  · rw [List.getD_eq_getElem?_getD, List.getElem?_eq_none (by simp [nibs]; omega)]; decide
theorem xor_lt32 {a b : Nat} (ha : a < 4294967296) (hb : b < 4294967296) : a ^^^ b < 4294967296 := Nat.xor_lt_two_pow (n := 32) ha hb
theorem half_lt {x : Nat} (h : x < 4294967296) : half x < 4294967296 := xor_lt32 (by omega) (nibs_lt _)
theorem stepB_lt {x : Nat} (c : UInt8) (h : x < 4294967296) : stepB x c < 4294967296 := half_lt (half_lt (xor_lt32 h (by have := c.toNat_lt; omega)))
theorem feedB_lt {x : Nat} (bs : List UInt8) (h : x < 4294967296) : feedB x bs < 4294967296 := by
  unfold feedB
  induction bs generalizing x with
  | nil => exact h
  | cons c r ih => exact ih (stepB_lt c h)
theorem feedR_lt {x : Nat} (rs : List (List UInt8)) (h : x < 4294967296) : feedR x rs < 4294967296 := by
  unfold feedR
  induction rs generalizing x with
  | nil => exact h
  | cons c r ih => exact ih (feedB_lt c h)
theorem foldl_snoc {α β : Type} (f : β → α → β) (x : β) (l : List α) (d : α) (j : Nat) (h : j < l.length) : (l.take (j + 1)).foldl f x = f ((l.take j).foldl f x) (l.getD j d) := by
  rw [List.take_succ_eq_append_getElem h, List.foldl_append]
  simp [h]
theorem feedB_snoc (x : Nat) (bs : List UInt8) (j : Nat) (h : j < bs.length) : feedB x (bs.take (j + 1)) = stepB (feedB x (bs.take j)) (bs.getD j 0) := foldl_snoc stepB x bs 0 j h
theorem feedR_snoc (x : Nat) (rs : List (List UInt8)) (j : Nat) (h : j < rs.length) : feedR x (rs.take (j + 1)) = feedB (feedR x (rs.take j)) (rs.getD j []) := foldl_snoc feedB x rs [] j h
theorem feedR_flat (x : Nat) (rs : List (List UInt8)) : feedR x rs = feedB x rs.flatten := by
  induction rs generalizing x with
  | nil => rfl
  | cons r rs ih => simp only [feedR, List.foldl_cons, List.flatten_cons]; rw [show feedB x (r ++ rs.flatten) = feedB (feedB x r) rs.flatten from List.foldl_append]; exact ih _
/-- Byte k of a sum, the greatest first. -/
def beB (x k : Nat) : UInt8 := UInt8.ofNat (x / 2 ^ (24 - 8 * k))
def be4 (x : Nat) : List UInt8 := [beB x 0, beB x 1, beB x 2, beB x 3]
/-- The first k bytes of a stamp set in a sector. -/
def stampK (bs : List UInt8) (x k : Nat) : List UInt8 := (List.range k).foldl (fun l i => l.set (28 + i) (beB x i)) bs
/-- A sector, stamped. -/
def stamped (bs : List UInt8) (rs : List (List UInt8)) : List UInt8 := bs.take 28 ++ be4 (sumR (bs.take 28 :: rs))
/-- Is it a sector with a right stamp? -/
def rightB (bs : List UInt8) (rs : List (List UInt8)) : Bool := decide (bs.length = 32) && decide (bs.drop 28 = be4 (sumR (bs.take 28 :: rs)))
theorem stampK_succ (bs : List UInt8) (x k : Nat) : stampK bs x (k + 1) = (stampK bs x k).set (28 + k) (beB x k) := by
  simp [stampK, List.range_succ, List.foldl_append]
theorem stampK_len (bs : List UInt8) (x k : Nat) : (stampK bs x k).length = bs.length := by
  induction k with
  | zero => rfl
  | succ k ih => rw [stampK_succ]; simp [ih]
theorem stampK_four (bs : List UInt8) (x : Nat) (h : bs.length = 32) : stampK bs x 4 = bs.take 28 ++ be4 x := by
  apply List.ext_getElem?
  intro i
  simp only [stampK, List.range_succ, List.range_zero, List.nil_append, List.cons_append, List.foldl_cons, List.foldl_nil, be4, Nat.add_zero]
  simp only [List.getElem?_set, List.length_set, h, List.getElem?_append, List.length_take]
  have hm : min 28 bs.length = 28 := by omega
  rw [h] at hm
  rw [hm]
  by_cases h1 : i < 28
  · rw [if_pos h1, if_neg (by omega), if_neg (by omega), if_neg (by omega), if_neg (by omega), List.getElem?_take, if_pos h1]
  · rw [if_neg h1]
    by_cases h2 : i = 28
    · subst h2; simp
    · by_cases h3 : i = 29
      · subst h3; simp
      · by_cases h4 : i = 30
        · subst h4; simp
        · by_cases h5 : i = 31
          · subst h5; simp
          · rw [if_neg (by omega), if_neg (by omega), if_neg (by omega), if_neg (by omega), List.getElem?_eq_none (by omega), List.getElem?_eq_none (by simp; omega)]
theorem stamped_len (bs : List UInt8) (rs : List (List UInt8)) (h : bs.length = 32) : (stamped bs rs).length = 32 := by simp [stamped, be4, h]
theorem sumR_lt (rs : List (List UInt8)) : sumR rs < 4294967296 := xor_lt32 (feedR_lt rs (by decide)) (by decide)
theorem sumR_cons (a : List UInt8) (rs : List (List UInt8)) : sumR (a :: rs) = feedR (feedR 4294967295 [a]) rs ^^^ 4294967295 := rfl
theorem be4_get (x k : Nat) (h : k < 4) : (be4 x).getD k 0 = beB x k := by
  match k, h with
  | 0, _ | 1, _ | 2, _ | 3, _ => rfl
theorem rightB_no {bs : List UInt8} {rs : List (List UInt8)} (k : Nat) (hk : k < 4) (h : bs.getD (28 + k) 0 ≠ beB (sumR (bs.take 28 :: rs)) k) : rightB bs rs = false := by
  unfold rightB
  have : ¬ bs.drop 28 = be4 (sumR (bs.take 28 :: rs)) := fun e => h (by
    rw [← be4_get _ k hk, ← e]
    simp)
  simp [this]
theorem rightB_yes {bs : List UInt8} {rs : List (List UInt8)} (hl : bs.length = 32) (h : ∀ k, k < 4 → bs.getD (28 + k) 0 = beB (sumR (bs.take 28 :: rs)) k) : rightB bs rs = true := by
  unfold rightB
  have : bs.drop 28 = be4 (sumR (bs.take 28 :: rs)) := by
    apply List.ext_getElem
    · simp [hl, be4]
    · intro i h1 h2
      have hi : i < 4 := by simpa [be4] using h2
      have h3 := h i hi
      rw [← be4_get _ i hi] at h3
      have h4 : 28 + i < bs.length := by omega
      simpa [h4, h2] using h3
  simp [this, hl]
end Go.Proofs.YtfgiomidlfoonaaDoor
end
section
namespace Go.Proofs.YtfgiomidlfoonaaDoor

theorem xor_cancel {a b c : Nat} (h : a ^^^ b = a ^^^ c) : b = c := by
  have : a ^^^ (a ^^^ b) = a ^^^ (a ^^^ c) := by rw [h]
  simpa [← Nat.xor_assoc] using this
theorem xor_cancel' {a b c : Nat} (h : b ^^^ a = c ^^^ a) : b = c := xor_cancel (a := a) (by rw [Nat.xor_comm a b, Nat.xor_comm a c]; exact h)
theorem xor_div (a b i : Nat) : (a ^^^ b) / 2 ^ i = a / 2 ^ i ^^^ b / 2 ^ i := by
  rw [← Nat.shiftRight_eq_div_pow, ← Nat.shiftRight_eq_div_pow, ← Nat.shiftRight_eq_div_pow, Nat.shiftRight_xor_distrib]
theorem half_top {x : Nat} (h : x < 4294967296) : half x / 2 ^ 28 = x % 16 := by
  unfold half
  rw [xor_div]
  have h1 : x / 16 / 2 ^ 28 = 0 := by omega
  rw [h1, Nat.zero_xor]
  exact (show ∀ i, i < 16 → nibs.getD i 0 / 2 ^ 28 = i by decide) (x % 16) (by omega)
theorem half_inj {x y : Nat} (hx : x < 4294967296) (hy : y < 4294967296) (h : half x = half y) : x = y := by
  have h1 : x % 16 = y % 16 := by rw [← half_top hx, ← half_top hy, h]
  have h2 : x / 16 = y / 16 := by
    unfold half at h
    rw [h1] at h
    exact xor_cancel' h
  omega
theorem c_lt (c : UInt8) : c.toNat < 4294967296 := by have := c.toNat_lt; omega
theorem stepB_inj {x y : Nat} (c d : UInt8) (hx : x < 4294967296) (hy : y < 4294967296) (h : stepB x c = stepB y d) : x ^^^ c.toNat = y ^^^ d.toNat :=
  half_inj (xor_lt32 hx (c_lt c)) (xor_lt32 hy (c_lt d)) (half_inj (half_lt (xor_lt32 hx (c_lt c))) (half_lt (xor_lt32 hy (c_lt d))) h)
theorem feedB_inj {x y : Nat} (bs : List UInt8) (hx : x < 4294967296) (hy : y < 4294967296) (h : feedB x bs = feedB y bs) : x = y := by
  induction bs generalizing x y with
  | nil => exact h
  | cons c r ih => exact xor_cancel' (stepB_inj c c hx hy (ih (stepB_lt c hx) (stepB_lt c hy) h))
theorem feedB_app (x : Nat) (a b : List UInt8) : feedB x (a ++ b) = feedB (feedB x a) b := List.foldl_append
theorem feedB_one {x : Nat} (a b : List UInt8) (c d : UInt8) (hx : x < 4294967296) (h : feedB x (a ++ c :: b) = feedB x (a ++ d :: b)) : c = d := by
  rw [feedB_app, feedB_app] at h
  have hl := feedB_lt a hx
  have h2 := stepB_inj c d hl hl (feedB_inj b (stepB_lt c hl) (stepB_lt d hl) h)
  exact UInt8.toNat_inj.1 (xor_cancel h2)
/-- One byte turned: another sum. -/
theorem feedB_set {x : Nat} (bs : List UInt8) (i : Nat) (hi : i < bs.length) (d : UInt8) (hx : x < 4294967296) (h : feedB x (bs.set i d) = feedB x bs) : d = bs.getD i 0 := by
  have e1 : bs = bs.take i ++ bs.getD i 0 :: bs.drop (i + 1) := by
    rw [show bs.getD i 0 = bs[i] by simp [hi]]
    simp
  have e2 : bs.set i d = bs.take i ++ d :: bs.drop (i + 1) := List.set_eq_take_append_cons_drop.trans (by rw [if_pos hi])
  rw [e2] at h
  rw [show feedB x bs = feedB x (bs.take i ++ bs.getD i 0 :: bs.drop (i + 1)) by rw [← e1]] at h
  exact feedB_one _ _ _ _ hx h
theorem sumR_flat (rs : List (List UInt8)) : sumR rs = feedB 4294967295 rs.flatten ^^^ 4294967295 := by unfold sumR; rw [feedR_flat]
theorem sumR_eq {rs qs : List (List UInt8)} (h : rs.flatten = qs.flatten) : sumR rs = sumR qs := by rw [sumR_flat, sumR_flat, h]
theorem sumR_ne {rs qs : List (List UInt8)} (i : Nat) (hi : i < rs.flatten.length) (d : UInt8) (hq : qs.flatten = rs.flatten.set i d) (h : sumR qs = sumR rs) : d = rs.flatten.getD i 0 := by
  rw [sumR_flat, sumR_flat, hq] at h
  exact feedB_set _ i hi d (by decide) (xor_cancel' h)
theorem be4_inj {x y : Nat} (hx : x < 4294967296) (hy : y < 4294967296) (h : be4 x = be4 y) : x = y := by
  simp only [be4, List.cons.injEq, and_true] at h
  obtain ⟨h0, h1, h2, h3⟩ := h
  have f : ∀ k, beB x k = beB y k → x / 2 ^ (24 - 8 * k) % 256 = y / 2 ^ (24 - 8 * k) % 256 := fun k hk => by
    have := congrArg UInt8.toNat hk
    simpa [beB, UInt8.toNat_ofNat'] using this
  have g0 := f 0 h0
  have g1 := f 1 h1
  have g2 := f 2 h2
  have g3 := f 3 h3
  simp at g0 g1 g2 g3
  omega

/-- One digit taken out of a sum. -/
def bit1 (x : Nat) : Nat := if x % 2 = 1 then (x / 2) ^^^ 2197175160 else x / 2
theorem xor_mod2 (a b : Nat) : (a ^^^ b) % 2 = (a + b) % 2 := by
  have h := @Nat.xor_mod_two_eq_one a b
  rcases Nat.mod_two_eq_zero_or_one (a ^^^ b) with hc | hc <;> rcases Nat.mod_two_eq_zero_or_one a with ha | ha <;> rcases Nat.mod_two_eq_zero_or_one b with hb | hb <;> rw [hc, ha, hb] at h <;> first | omega | (exfalso; revert h; decide)
theorem bit1_xor (a b : Nat) : bit1 (a ^^^ b) = bit1 a ^^^ bit1 b := by
  unfold bit1
  have h1 := xor_mod2 a b
  have h2 : (a ^^^ b) / 2 = a / 2 ^^^ b / 2 := by simpa using xor_div a b 1
  rw [h2]
  rcases Nat.mod_two_eq_zero_or_one a with ha | ha <;> rcases Nat.mod_two_eq_zero_or_one b with hb | hb
  · rw [if_neg (by omega), if_neg (by omega), if_neg (by omega)]
  · rw [if_pos (by omega), if_neg (by omega), if_pos (by omega), Nat.xor_assoc]
  · rw [if_pos (by omega), if_pos (by omega), if_neg (by omega), Nat.xor_assoc, Nat.xor_comm (b / 2), ← Nat.xor_assoc]
  · rw [if_neg (by omega), if_pos (by omega), if_pos (by omega)]
    rw [show (a / 2 ^^^ 2197175160) ^^^ (b / 2 ^^^ 2197175160) = (a / 2 ^^^ b / 2) ^^^ (2197175160 ^^^ 2197175160) by ac_rfl]
    simp
theorem split16 (x : Nat) : x = 16 * (x / 16) ^^^ x % 16 := by
  have h := Nat.two_pow_add_eq_or_of_lt (i := 4) (b := x % 16) (by omega) (x / 16)
  have h3 : 2 ^ 4 * (x / 16) ^^^ x % 16 = 2 ^ 4 * (x / 16) ||| x % 16 := by
    apply Nat.eq_of_testBit_eq
    intro j
    rw [Nat.testBit_xor, Nat.testBit_or]
    by_cases hj : j < 4
    · have : (2 ^ 4 * (x / 16)).testBit j = false := by rw [Nat.testBit_two_pow_mul]; simp [Nat.not_le.2 hj]
      simp [this]
    · have : (x % 16).testBit j = false := Nat.testBit_lt_two_pow (Nat.lt_of_lt_of_le (by omega) (Nat.pow_le_pow_right (by decide) (Nat.le_of_not_lt hj)))
      simp [this]
  have h4 : x = 2 ^ 4 * (x / 16) + x % 16 := by omega
  rw [h, ← h3] at h4
  exact h4
theorem bit1_even (q : Nat) : bit1 (2 * q) = q := by unfold bit1; rw [if_neg (by omega)]; omega
theorem half_bits (x : Nat) : half x = bit1 (bit1 (bit1 (bit1 x))) := by
  have hr := (show ∀ i, i < 16 → bit1 (bit1 (bit1 (bit1 i))) = nibs.getD i 0 by decide) (x % 16) (by omega)
  rw [show bit1 (bit1 (bit1 (bit1 x))) = bit1 (bit1 (bit1 (bit1 (16 * (x / 16) ^^^ x % 16)))) by rw [← split16 x]]
  rw [bit1_xor, bit1_xor, bit1_xor, bit1_xor, hr]
  rw [show 16 * (x / 16) = 2 * (2 * (2 * (2 * (x / 16)))) by omega, bit1_even, bit1_even, bit1_even, bit1_even]
  rfl
/-- k digits taken out. -/
def bitN : Nat → Nat → Nat
  | 0, x => x
  | k + 1, x => bit1 (bitN k x)
theorem stepB_bits (x : Nat) (c : UInt8) : stepB x c = bitN 8 (x ^^^ c.toNat) := by
  unfold stepB
  rw [half_bits, half_bits]
  rfl
theorem bit1_lt {x : Nat} (h : x < 4294967296) : bit1 x < 4294967296 := by
  unfold bit1
  split
  · exact xor_lt32 (by omega) (by decide)
  · omega
theorem bitN_lt {x : Nat} (k : Nat) (h : x < 4294967296) : bitN k x < 4294967296 := by
  induction k with
  | zero => exact h
  | succ k ih => exact bit1_lt ih
theorem stamped_take (bs : List UInt8) (rs : List (List UInt8)) (h : bs.length = 32) : (stamped bs rs).take 28 = bs.take 28 := by
  unfold stamped
  rw [List.take_append_of_le_length (by simp; omega), List.take_take, Nat.min_self]
theorem restamped (bs : List UInt8) (rs qs : List (List UInt8)) (h : bs.length = 32) : stamped (stamped bs rs) qs = stamped bs qs := by
  rw [show stamped (stamped bs rs) qs = (stamped bs rs).take 28 ++ be4 (sumR ((stamped bs rs).take 28 :: qs)) from rfl, stamped_take bs rs h]
  rfl
theorem xor_zero {a c : UInt8} (h : a ^^^ c = a) : c = 0 := by
  have : a ^^^ (a ^^^ c) = a ^^^ a := by rw [h]
  simpa [← UInt8.xor_assoc] using this
/-- Another part makes another stamp. -/
theorem seal_other (bs q : List UInt8) (i : Nat) (c : UInt8) (h : bs.length = 32) (hi : i < q.length) :
    decide (stamped (stamped bs [q]) [q.set i (q.getD i 0 ^^^ c)] = stamped bs [q]) = ((c.toNat : Int) == 0) := by
  rw [restamped bs _ _ h]
  by_cases hc : c = 0
  · subst hc
    have : q.set i (q.getD i 0 ^^^ 0) = q := by
      rw [show q.getD i 0 ^^^ 0 = q[i] by simp [hi]]
      exact List.set_getElem_self hi
    rw [this]
    simp
  · have hne : ¬ stamped bs [q.set i (q.getD i 0 ^^^ c)] = stamped bs [q] := fun e => by
      have e2 := List.append_cancel_left e
      have e3 := be4_inj (sumR_lt _) (sumR_lt _) e2
      have hl : (bs.take 28).length = 28 := by simp [h]
      have e4 := sumR_ne (rs := [bs.take 28, q]) (qs := [bs.take 28, q.set i (q.getD i 0 ^^^ c)]) (28 + i) (by simp [h]; omega) (q.getD i 0 ^^^ c) (by
        simp only [List.flatten_cons, List.flatten_nil, List.append_nil]
        rw [List.set_append_right _ _ (by omega), hl]
        simp) e3
      have e5 : [bs.take 28, q].flatten.getD (28 + i) 0 = q.getD i 0 := by
        simp only [List.flatten_cons, List.flatten_nil, List.append_nil]
        rw [List.getD_eq_getElem?_getD, List.getElem?_append_right (by omega), hl, List.getD_eq_getElem?_getD]
        simp
      rw [e5] at e4
      exact hc (xor_zero e4)
    have : ¬ c.toNat = 0 := fun e => hc (UInt8.toNat_inj.1 (by simpa using e))
    rw [decide_eq_false hne]
    symm
    rw [beq_eq_false_iff_ne]
    omega
theorem byte_eq0 (c : UInt8) : ((c.toNat : Int) == 0) = decide (c = 0) := by
  by_cases hc : c = 0
  · subst hc; rfl
  · have : ¬ c.toNat = 0 := fun e => hc (UInt8.toNat_inj.1 (by simpa using e))
    rw [decide_eq_false hc, beq_eq_false_iff_ne]
    omega
theorem right_iff (bs : List UInt8) (rs : List (List UInt8)) : rightB bs rs = true ↔ bs.length = 32 ∧ bs.drop 28 = be4 (sumR (bs.take 28 :: rs)) := by simp [rightB]
theorem right_stamped (bs : List UInt8) (rs : List (List UInt8)) (h : bs.length = 32) : rightB (stamped bs rs) rs = true := by
  rw [right_iff, stamped_take bs rs h]
  refine ⟨stamped_len bs rs h, ?_⟩
  unfold stamped
  rw [List.drop_append_of_le_length (by simp; omega)]
  simp
theorem right_parts {bs : List UInt8} {rs qs : List (List UInt8)} (h : rightB bs rs = true) (he : rs.flatten = qs.flatten) : rightB bs qs = true := by
  rw [right_iff] at h ⊢
  exact ⟨h.1, by rw [h.2]; exact congrArg be4 (sumR_eq (by simp [he]))⟩
/-- One byte of a stamped sector turned: no longer right. -/
theorem right_set {bs : List UInt8} {rs : List (List UInt8)} (h : rightB bs rs = true) (i : Nat) (hi : i < 32) (c : UInt8) : rightB (bs.set i (bs.getD i 0 ^^^ c)) rs = ((c.toNat : Int) == 0) := by
  rw [byte_eq0]
  have hr := (right_iff bs rs).1 h
  by_cases hc : c = 0
  · subst hc
    rw [decide_eq_true rfl, show bs.getD i 0 ^^^ 0 = bs[i]'(by omega) by simp [hr.1, hi], List.set_getElem_self]
    exact h
  · rw [decide_eq_false hc, ← Bool.not_eq_true]
    intro h2
    have h3 := (right_iff _ _).1 h2
    obtain ⟨hl, hd⟩ := hr
    have hd2 := h3.2
    by_cases hi2 : i < 28
    · rw [List.drop_set_of_lt (by omega), hd, List.take_set] at hd2
      have e := be4_inj (sumR_lt _) (sumR_lt _) hd2
      have e4 := sumR_ne (rs := bs.take 28 :: rs) (qs := (bs.take 28).set i (bs.getD i 0 ^^^ c) :: rs) i (by simp; omega) (bs.getD i 0 ^^^ c) (by
        simp only [List.flatten_cons]
        rw [List.set_append_left _ _ (by simp; omega)]) e.symm
      have e5 : (bs.take 28 :: rs).flatten.getD i 0 = bs.getD i 0 := by
        simp only [List.flatten_cons]
        rw [List.getD_eq_getElem?_getD, List.getElem?_append_left (by simp; omega), List.getElem?_take, if_pos hi2, List.getD_eq_getElem?_getD]
      rw [e5] at e4
      exact hc (xor_zero e4)
    · have ht : (bs.set i (bs.getD i 0 ^^^ c)).take 28 = bs.take 28 := by rw [List.take_set_of_le (by omega)]
      rw [ht, ← hd] at hd2
      have e := congrArg (fun l => l[i - 28]?) hd2
      simp only [List.getElem?_drop] at e
      rw [show 28 + (i - 28) = i by omega, List.getElem?_set_self (by omega)] at e
      have e6 : bs.getD i 0 = bs[i]'(by omega) := by simp [hl, hi]
      rw [List.getElem?_eq_getElem (by omega)] at e
      injection e with e
      rw [← e6] at e
      exact hc (xor_zero e)
/-- One byte of a part turned: no longer right. -/
theorem right_part {bs q : List UInt8} (h : rightB bs [q] = true) (i : Nat) (hi : i < q.length) (c : UInt8) : rightB bs [q.set i (q.getD i 0 ^^^ c)] = ((c.toNat : Int) == 0) := by
  rw [byte_eq0]
  have hr := (right_iff bs [q]).1 h
  by_cases hc : c = 0
  · subst hc
    rw [decide_eq_true rfl, show q.getD i 0 ^^^ 0 = q[i] by simp [hi], List.set_getElem_self]
    exact h
  · rw [decide_eq_false hc, ← Bool.not_eq_true]
    intro h2
    have h3 := ((right_iff _ _).1 h2).2
    rw [hr.2] at h3
    have hl : (bs.take 28).length = 28 := by simp [hr.1]
    have e := be4_inj (sumR_lt _) (sumR_lt _) h3
    have e4 := sumR_ne (rs := [bs.take 28, q]) (qs := [bs.take 28, q.set i (q.getD i 0 ^^^ c)]) (28 + i) (by simp [hr.1]; omega) (q.getD i 0 ^^^ c) (by
      simp only [List.flatten_cons, List.flatten_nil, List.append_nil]
      rw [List.set_append_right _ _ (by omega), hl]
      simp) e.symm
    have e5 : [bs.take 28, q].flatten.getD (28 + i) 0 = q.getD i 0 := by
      simp only [List.flatten_cons, List.flatten_nil, List.append_nil]
      rw [List.getD_eq_getElem?_getD, List.getElem?_append_right (by omega), hl, List.getD_eq_getElem?_getD]
      simp
    rw [e5] at e4
    exact hc (xor_zero e4)
end Go.Proofs.YtfgiomidlfoonaaDoor
end
