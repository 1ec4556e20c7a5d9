/- Texts put together: Mem, OpsKit, DskMath, Own, Chg, DskMem, Dsk. -/
import Derived.WalkKit
import Derived.Lib.Hide
import Derived.Lib.SlBytesConst
import Derived.Deep.OwnRows
import Derived.Deep.DeepCutAuto
import Derived.Deep.RegionHeld3
import Derived.Deep.QuietTactic
import Derived.BigQuiet
import Derived.Handy
import Derived.Deep.Light
import Derived.Lib.ItoaWalk
import Derived.Test.YtoomdgidpplpfaaDoorProg
import Derived.Maps.AppendAt
import Derived.Laws.AppendOwnNone
import Derived.Deep.AppendLies
import Derived.Laws.CopyOwn
import Derived.Deep.MidRow
section
namespace Go.Proofs.YtoomdgidpplpfaaDoor
open Go.RowKit

theorem hp_drew (w : World) (g : Nat) : w.drew.heap[g]? = w.heap[g]? := rfl
theorem hp_new (w : World) (o : Obj) (g : Nat) (h : g = w.heap.size) : (w.alloc o).heap[g]? = some o := by subst h; exact heap_alloc_new _ _
theorem hp_old (w : World) (o : Obj) (g : Nat) (h : g < w.heap.size) : (w.alloc o).heap[g]? = w.heap[g]? := heap_alloc_old w o h
theorem belowN (B : Nat) (w : World) (n : Nat) : Below B w (w.drewN n) := ⟨rfl, rfl, rfl, Nat.le_refl _, fun _ _ => rfl⟩
theorem below1 (w : World) (o : Obj) : Below w.heap.size w (w.alloc o) := (Below.refl _ _).alloc (Nat.le_refl _) o
theorem below2 (w : World) (o o' : Obj) : Below w.heap.size w ((w.alloc o).alloc o') := (below1 w o).alloc (by simp) o'
theorem below3 (w : World) (o o' o'' : Obj) : Below w.heap.size w (((w.alloc o).alloc o').alloc o'') := (below2 w o o').alloc (by simp; omega) o''
theorem below4 (w : World) (o o' o'' o3 : Obj) : Below w.heap.size w ((((w.alloc o).alloc o').alloc o'').alloc o3) := (below3 w o o' o'').alloc (by simp; omega) o3
/-- A byte as a value. -/
def bv (b : UInt8) : Value := .int .u8 (b.toNat : Int)

/-- The slice's address and length read as these bytes; its cells lie below block B. -/
def RdB (w : World) (B : Nat) (A : Option Addr) (bs : List UInt8) : Prop :=
  bs.length ≤ 140737488355328 ∧ (0 < bs.length → ∃ b off, A = some ⟨b, off, none⟩ ∧ b < B ∧ ∀ k, k < bs.length → w.cell? ⟨b, off + k, none⟩ = some (.int .u8 ((bs.getD k 0).toNat : Int)))

/-- The slice of slices reads as these rows. -/
def RdR (w : World) (B : Nat) (A : Option Addr) (rs : List (List UInt8)) : Prop :=
  rs.length ≤ 140737488355328 ∧ (0 < rs.length → ∃ b off, A = some ⟨b, off, none⟩ ∧ b < B ∧ ∀ k, k < rs.length → ∃ A' c, w.cell? ⟨b, off + k, none⟩ = some (.slice A' (rs.getD k []).length c) ∧ RdB w B A' (rs.getD k []))

theorem RdB.keep {w w' : World} {B B' : Nat} {A : Option Addr} {bs : List UInt8} (h : RdB w B A bs) (hB : B ≤ B') (hk : ∀ p : Addr, p.block < B → w'.cell? p = w.cell? p) : RdB w' B' A bs :=
  ⟨h.1, fun hn => by
    obtain ⟨b, off, e, hb, hc⟩ := h.2 hn
    exact ⟨b, off, e, by omega, fun k hk' => (hk ⟨b, off + k, none⟩ hb).trans (hc k hk')⟩⟩
theorem RdR.keep {w w' : World} {B B' : Nat} {A : Option Addr} {rs : List (List UInt8)} (h : RdR w B A rs) (hB : B ≤ B') (hk : ∀ p : Addr, p.block < B → w'.cell? p = w.cell? p) : RdR w' B' A rs :=
  ⟨h.1, fun hn => by
    obtain ⟨b, off, e, hb, hc⟩ := h.2 hn
    refine ⟨b, off, e, by omega, fun k hk' => ?_⟩
    obtain ⟨A', c, h1, h2⟩ := hc k hk'
    exact ⟨A', c, (hk ⟨b, off + k, none⟩ hb).trans h1, h2.keep hB hk⟩⟩
theorem Below.agree {B : Nat} {w w' : World} (h : Below B w w') : ∀ p : Addr, p.block < B → w'.cell? p = w.cell? p := fun _ hp => h.cell hp
theorem RdB.below {w w' : World} {B B' : Nat} {A : Option Addr} {bs : List UInt8} (h : RdB w B A bs) (hb : Below B' w w') (hB : B ≤ B') : RdB w' B A bs := h.keep (Nat.le_refl _) fun p hp => hb.cell (by omega)
theorem RdR.below {w w' : World} {B B' : Nat} {A : Option Addr} {rs : List (List UInt8)} (h : RdR w B A rs) (hb : Below B' w w') (hB : B ≤ B') : RdR w' B A rs := h.keep (Nat.le_refl _) fun p hp => hb.cell (by omega)
theorem RdB.more {w : World} {B B' : Nat} {A : Option Addr} {bs : List UInt8} (h : RdB w B A bs) (hB : B ≤ B') : RdB w B' A bs := h.keep hB fun _ _ => rfl
theorem RdR.more {w : World} {B B' : Nat} {A : Option Addr} {rs : List (List UInt8)} (h : RdR w B A rs) (hB : B ≤ B') : RdR w B' A rs := h.keep hB fun _ _ => rfl
theorem RdB.nil (w : World) (B : Nat) (A : Option Addr) : RdB w B A [] := ⟨by simp, fun h => by simp at h⟩
/-- A new block that holds slices: a row of rows. -/
theorem rdr_cells {w : World} {g : Nat} {cs : Array Value} {t : TypeId} {f : Nat × Nat} {rs : List (List UInt8)} {B : Nat} (hg : w.heap[g]? = some (.cells cs t f)) (hB : g < B) (hl : rs.length ≤ 140737488355328)
    (h : ∀ k, k < rs.length → ∃ A c, cs[k]? = some (.slice A (rs.getD k []).length c) ∧ RdB w B A (rs.getD k [])) : RdR w B (some ⟨g, 0, none⟩) rs :=
  ⟨hl, fun _ => ⟨g, 0, rfl, hB, fun k hk => by
    obtain ⟨A, c, h1, h2⟩ := h k hk
    exact ⟨A, c, by rw [Nat.zero_add, cell_of_row w g k cs t f hg]; exact h1, h2⟩⟩⟩
/-- A new block of bytes, read whole. -/
theorem rdb_block {w : World} {g : Nat} {cs : Array Value} {t : TypeId} {f : Nat × Nat} {bs : List UInt8} {B : Nat} (hg : w.heap[g]? = some (.cells cs t f)) (hB : g < B) (hl : bs.length ≤ 140737488355328)
    (h : ∀ k, k < bs.length → cs[k]? = some (.int .u8 ((bs.getD k 0).toNat : Int))) : RdB w B (some ⟨g, 0, none⟩) bs :=
  ⟨hl, fun _ => ⟨g, 0, rfl, hB, fun k hk => by rw [Nat.zero_add, cell_of_row w g k cs t f hg]; exact h k hk⟩⟩
theorem rdr_one {w : World} {A : Option Addr} {bs : List UInt8} {c : Nat} {t : TypeId} {B : Nat} (h : RdB w B A bs) (hB : B ≤ w.heap.size) : RdR (w.alloc (.cells #[.slice A bs.length c] t)) (w.heap.size + 1) (some ⟨w.heap.size, 0, none⟩) [bs] :=
  rdr_cells (heap_alloc_new w _) (by omega) (by simp) fun k hk => by
    obtain rfl : k = 0 := by simp at hk; omega
    exact ⟨A, c, rfl, (h.keep (w' := w.alloc _) (B' := w.heap.size + 1) (by omega) fun p hp => World.cell?_alloc_lt w _ p (by omega))⟩
theorem rdr_two {w : World} {A A' : Option Addr} {bs bs' : List UInt8} {c c' : Nat} {t : TypeId} {B : Nat} (h : RdB w B A bs) (h' : RdB w B A' bs') (hB : B ≤ w.heap.size) :
    RdR (w.alloc (.cells #[.slice A bs.length c, .slice A' bs'.length c'] t)) (w.heap.size + 1) (some ⟨w.heap.size, 0, none⟩) [bs, bs'] :=
  rdr_cells (heap_alloc_new w _) (by omega) (by simp) fun k hk => by
    obtain rfl | rfl : k = 0 ∨ k = 1 := by simp at hk; omega
    · exact ⟨A, c, rfl, h.keep (by omega) fun p hp => World.cell?_alloc_lt w _ p (by omega)⟩
    · exact ⟨A', c', rfl, h'.keep (by omega) fun p hp => World.cell?_alloc_lt w _ p (by omega)⟩
theorem rdr_block1 {w : World} {g : Nat} {A : Option Addr} {n c : Nat} {bs : List UInt8} {t : TypeId} {f : Nat × Nat} {B : Nat} (hg : w.heap[g]? = some (.cells #[.slice A n c] t f)) (hn : n = bs.length) (h : RdB w B A bs) (hB : B ≤ w.heap.size) : RdR w w.heap.size (some ⟨g, 0, none⟩) [bs] := by
  subst hn
  exact rdr_cells hg (Array.getElem?_eq_some_iff.1 hg).1 (by simp) fun k hk => by
    obtain rfl : k = 0 := by simp at hk; omega
    exact ⟨A, c, rfl, h.more hB⟩
theorem rdr_block2 {w : World} {g : Nat} {A A' : Option Addr} {n n' c c' : Nat} {bs bs' : List UInt8} {t : TypeId} {f : Nat × Nat} {B : Nat} (hg : w.heap[g]? = some (.cells #[.slice A n c, .slice A' n' c'] t f)) (hn : n = bs.length) (hn' : n' = bs'.length)
    (h : RdB w B A bs) (h' : RdB w B A' bs') (hB : B ≤ w.heap.size) : RdR w w.heap.size (some ⟨g, 0, none⟩) [bs, bs'] := by
  subst hn hn'
  exact rdr_cells hg (Array.getElem?_eq_some_iff.1 hg).1 (by simp) fun k hk => by
    obtain rfl | rfl : k = 0 ∨ k = 1 := by simp at hk; omega
    · exact ⟨A, c, rfl, h.more hB⟩
    · exact ⟨A', c', rfl, h'.more hB⟩
theorem rdr_block3 {w : World} {g : Nat} {A A' A'' : Option Addr} {n n' n'' c c' c'' : Nat} {bs bs' bs'' : List UInt8} {t : TypeId} {f : Nat × Nat} {B : Nat} (hg : w.heap[g]? = some (.cells #[.slice A n c, .slice A' n' c', .slice A'' n'' c''] t f)) (hn : n = bs.length) (hn' : n' = bs'.length) (hn'' : n'' = bs''.length)
    (h : RdB w B A bs) (h' : RdB w B A' bs') (h'' : RdB w B A'' bs'') (hB : B ≤ w.heap.size) : RdR w w.heap.size (some ⟨g, 0, none⟩) [bs, bs', bs''] := by
  subst hn hn' hn''
  exact rdr_cells hg (Array.getElem?_eq_some_iff.1 hg).1 (by simp) fun k hk => by
    match k, hk with
    | 0, _ => exact ⟨A, c, rfl, h.more hB⟩
    | 1, _ => exact ⟨A', c', rfl, h'.more hB⟩
    | 2, _ => exact ⟨A'', c'', rfl, h''.more hB⟩
theorem rdr_four {w : World} {g : Nat} {A A' : Option Addr} {n n' c c' : Nat} {bs bs' : List UInt8} {t : TypeId} {f : Nat × Nat} {B : Nat} (hg : w.heap[g]? = some (.cells #[.slice none 0 0, .slice A n c, .slice none 0 0, .slice A' n' c'] t f)) (hn : n = bs.length) (hn' : n' = bs'.length)
    (h : RdB w B A bs) (h' : RdB w B A' bs') (hB : B ≤ w.heap.size) : RdR w w.heap.size (some ⟨g, 0, none⟩) [[], bs, [], bs'] := by
  subst hn hn'
  exact rdr_cells hg (Array.getElem?_eq_some_iff.1 hg).1 (by simp) fun k hk => by
    match k, hk with
    | 0, _ => exact ⟨none, 0, rfl, RdB.nil _ _ _⟩
    | 1, _ => exact ⟨A, c, rfl, h.more hB⟩
    | 2, _ => exact ⟨none, 0, rfl, RdB.nil _ _ _⟩
    | 3, _ => exact ⟨A', c', rfl, h'.more hB⟩
/-- A slice cut: s[:k], s[k:]. -/
theorem RdB.take {w : World} {B : Nat} {A : Option Addr} {bs : List UInt8} (h : RdB w B A bs) (k : Nat) : RdB w B A (bs.take k) :=
  ⟨by have := h.1; simp; omega, fun hn => by
    have hn' : 0 < bs.length := by simp at hn; omega
    obtain ⟨b, off, e, hb, hc⟩ := h.2 hn'
    refine ⟨b, off, e, hb, fun j hj => ?_⟩
    have hj' : j < k ∧ j < bs.length := by simp at hj; omega
    rw [hc j hj'.2]
    simp [hj'.1]⟩
theorem RdB.drop {w : World} {B : Nat} {A : Option Addr} {bs : List UInt8} (h : RdB w B A bs) (k cap : Nat) (hc : bs.length ≤ cap) : RdB w B (if cap = k then A else A.map (·.add k)) (bs.drop k) :=
  ⟨by have := h.1; simp; omega, fun hn => by
    have hn' : k < bs.length := by simp at hn; omega
    obtain ⟨b, off, rfl, hb, hc⟩ := h.2 (by omega)
    rw [if_neg (by omega)]
    refine ⟨b, off + k, ?_, hb, fun j hj => ?_⟩
    · unfold Addr.add; by_cases hk0 : k = 0 <;> simp [hk0]
    · have hj' : k + j < bs.length := by simp at hj; omega
      rw [Nat.add_assoc, hc (k + j) hj']
      simp⟩
/-- n zero bytes as cells. -/
def zcells (n : Nat) : Array Value := madeCells #[.int .u8 0] n
theorem zcells_get (n k : Nat) (h : k < n) : (zcells n)[k]? = some (.int .u8 0) := by
  unfold zcells
  rw [← Array.getElem?_toList, toList_madeCells_one, List.getElem?_replicate, if_pos h]
theorem zcells_size (n : Nat) : (zcells n).size = n := size_madeCells _ _
end Go.Proofs.YtoomdgidpplpfaaDoor
end
section
namespace Go.Proofs.YtoomdgidpplpfaaDoor
open Go.RowKit

theorem conv_const (w : World) (B : Nat) (C : Array Value) (n c : Nat) (hB : B = w.heap.size) :
    (convert 41 41 (.slice (some ⟨B, 0, none⟩) n c)).run Tryd.prog (w.alloc (.cells C 5)) = .ok (.slice (some ⟨B, 0, none⟩) n c) (w.alloc (.cells C 5 (C.size, C.size + 1))) := by
  subst hB; exact Lib.run_convert_bytes_const (P := Tryd.prog) w 41 5 C n c Tryd.underlying41 Tryd.underlying5
theorem info_u8 : (Tryd.prog.info? 5).map (fun i => (i.zero, i.size, i.bytes)) = some (some (.int .u8 0), 1, 1) := by kernel_rfl
theorem make_bytes (n : Nat) (hn : n ≤ 140737488355328) (w : World) :
    (Instr.makeSlice 41 (.int .i64 (n : Int)) (.int .i64 (n : Int))).run Tryd.prog w = .ok (.slice (some ⟨w.heap.size, 0, none⟩) n n) (w.alloc (.cells (zcells n) 5)) :=
  run_make_row' _ _ _ 1 Tryd.underlying41 info_u8 rfl _ _ n (by omega) (by omega) w
end Go.Proofs.YtoomdgidpplpfaaDoor
end
section
namespace Go.Proofs.YtoomdgidpplpfaaDoor

/-- Sector k of all bytes. -/
def secAt (L : List UInt8) (k : Nat) : List UInt8 := (L.drop (k * 32)).take 32
/-- All bytes with sector k set. -/
def putAt (L : List UInt8) (k : Nat) (x : List UInt8) : List UInt8 := L.take (k * 32) ++ x ++ L.drop (k * 32 + 32)
theorem putAt_get {L x : List UInt8} {k : Nat} (hL : k * 32 + 32 ≤ L.length) (hx : x.length = 32) (i : Nat) : (putAt L k x)[i]? = if i < k * 32 then L[i]? else if i < k * 32 + 32 then x[i - k * 32]? else L[i]? := by
  have h1 : (L.take (k * 32)).length = k * 32 := by rw [List.length_take]; omega
  unfold putAt
  by_cases c : i < k * 32
  · rw [if_pos c, List.append_assoc, List.getElem?_append_left (by omega), List.getElem?_take, if_pos c]
  · rw [if_neg c]
    by_cases c2 : i < k * 32 + 32
    · rw [if_pos c2, List.append_assoc, List.getElem?_append_right (by omega), h1, List.getElem?_append_left (by omega)]
    · rw [if_neg c2, List.getElem?_append_right (by rw [List.length_append]; omega), List.length_append, h1, hx, List.getElem?_drop]
      congr 1
      omega
theorem putAt_len {L x : List UInt8} {k n : Nat} (hL : L.length = n) (hk : k * 32 + 32 ≤ n) (hx : x.length = 32) : (putAt L k x).length = n := by
  unfold putAt; simp; omega
theorem secAt_len {L : List UInt8} {k : Nat} (hL : k * 32 + 32 ≤ L.length) : (secAt L k).length = 32 := by unfold secAt; simp; omega
theorem secAt_get (L : List UInt8) (k i : Nat) : (secAt L k)[i]? = if i < 32 then L[k * 32 + i]? else none := by
  unfold secAt
  rw [List.getElem?_take]
  split
  · rw [List.getElem?_drop]
  · rfl
theorem sec_put_same {L x : List UInt8} {k : Nat} (hl : L.length = 1664) (hk : k < 52) (hx : x.length = 32) : secAt (putAt L k x) k = x := by
  have hL : k * 32 + 32 ≤ L.length := by omega
  apply List.ext_getElem?
  intro i
  rw [secAt_get]
  split
  · rw [putAt_get hL hx, if_neg (by omega), if_pos (by omega)]
    congr 1
    omega
  · rw [List.getElem?_eq_none (by omega)]
theorem sec_put_other {L x : List UInt8} {k j : Nat} (hl : L.length = 1664) (hk : k < 52) (hx : x.length = 32) (hne : j ≠ k) : secAt (putAt L k x) j = secAt L j := by
  have hL : k * 32 + 32 ≤ L.length := by omega
  apply List.ext_getElem?
  intro i
  rw [secAt_get, secAt_get]
  split
  · rw [putAt_get hL hx]
    by_cases c : j * 32 + i < k * 32
    · rw [if_pos c]
    · rw [if_neg c, if_neg (by omega)]
  · rfl
theorem put_sec {L : List UInt8} {k : Nat} : putAt L k (secAt L k) = L := by
  unfold putAt secAt
  rw [List.append_assoc, ← List.drop_drop, List.take_append_drop, List.take_append_drop]
theorem sec_ext {L M : List UInt8} (hL : L.length = 1664) (hM : M.length = 1664) (h : ∀ k, k < 52 → secAt L k = secAt M k) : L = M := by
  apply List.ext_getElem?
  intro i
  by_cases hi : i < 1664
  · have h1 := h (i / 32) (by omega)
    have h2 : (secAt L (i / 32))[i % 32]? = (secAt M (i / 32))[i % 32]? := by rw [h1]
    rw [secAt_get, secAt_get, if_pos (by omega), if_pos (by omega), show i / 32 * 32 + i % 32 = i by omega] at h2
    exact h2
  · rw [List.getElem?_eq_none (by omega), List.getElem?_eq_none (by omega)]

/-- All bytes with these writes done, in order. -/
def nowOf (S : List UInt8) (ps : List (Nat × List UInt8)) : List UInt8 := ps.foldl (fun L p => putAt L p.1 p.2) S
/-- What was written there last. -/
def lastOf : List (Nat × List UInt8) → Nat → Option (List UInt8)
  | [], _ => none
  | p :: ps, k => match lastOf ps k with | some x => some x | none => if p.1 = k then some p.2 else none
theorem lastOf_cons (p : Nat × List UInt8) (ps : List (Nat × List UInt8)) (k : Nat) : lastOf (p :: ps) k = match lastOf ps k with | some x => some x | none => if p.1 = k then some p.2 else none := rfl
def WOk (ps : List (Nat × List UInt8)) : Prop := ∀ p ∈ ps, p.1 < 52 ∧ p.2.length = 32
theorem WOk.nil : WOk [] := fun _ h => by cases h
theorem WOk.cons {p : Nat × List UInt8} {ps : List (Nat × List UInt8)} (h : WOk (p :: ps)) : WOk ps := fun q hq => h q (List.mem_cons_of_mem _ hq)
theorem WOk.snoc {ps : List (Nat × List UInt8)} (h : WOk ps) {k : Nat} {x : List UInt8} (hk : k < 52) (hx : x.length = 32) : WOk (ps ++ [(k, x)]) := fun q hq => by
  rcases List.mem_append.1 hq with h1 | h1
  · exact h q h1
  · obtain rfl := List.mem_singleton.1 h1; exact ⟨hk, hx⟩
theorem WOk.filter {ps : List (Nat × List UInt8)} (h : WOk ps) (f : Nat × List UInt8 → Bool) : WOk (ps.filter f) := fun q hq => h q (List.mem_filter.1 hq).1
theorem nowOf_len : ∀ {ps : List (Nat × List UInt8)} {S : List UInt8}, S.length = 1664 → WOk ps → (nowOf S ps).length = 1664
  | [], _, hS, _ => hS
  | p :: ps, S, hS, h => by
    have h1 := h p (List.mem_cons_self ..)
    show (nowOf (putAt S p.1 p.2) ps).length = 1664
    exact nowOf_len (putAt_len hS (by omega) h1.2) h.cons
theorem nowOf_snoc (S : List UInt8) (ps : List (Nat × List UInt8)) (k : Nat) (x : List UInt8) : nowOf S (ps ++ [(k, x)]) = putAt (nowOf S ps) k x := by
  unfold nowOf; rw [List.foldl_append]; rfl
theorem nowOf_append (S : List UInt8) (ps qs : List (Nat × List UInt8)) : nowOf S (ps ++ qs) = nowOf (nowOf S ps) qs := by
  unfold nowOf; rw [List.foldl_append]
theorem nowOf_sec : ∀ {ps : List (Nat × List UInt8)} {S : List UInt8}, S.length = 1664 → WOk ps → ∀ k, k < 52 → secAt (nowOf S ps) k = (lastOf ps k).getD (secAt S k)
  | [], _, _, _, _, _ => rfl
  | p :: ps, S, hS, h, k, hk => by
    have h1 := h p (List.mem_cons_self ..)
    show secAt (nowOf (putAt S p.1 p.2) ps) k = _
    rw [nowOf_sec (putAt_len hS (by omega) h1.2) h.cons k hk]
    rw [lastOf_cons]
    cases lastOf ps k with
    | some x => rfl
    | none =>
      by_cases e : p.1 = k
      · simp only [if_pos e, Option.getD]
        rw [← e]
        exact sec_put_same hS h1.1 h1.2
      · simp only [if_neg e, Option.getD]
        exact sec_put_other hS h1.1 h1.2 (fun h => e h.symm)
theorem lastOf_filter_same (ps : List (Nat × List UInt8)) (k : Nat) : lastOf (ps.filter fun p => decide (p.1 ≠ k)) k = none := by
  induction ps with
  | nil => rfl
  | cons p ps ih =>
    by_cases e : p.1 = k
    · rw [List.filter_cons_of_neg (by simp [e])]; exact ih
    · rw [List.filter_cons_of_pos (by simp [e])]
      rw [lastOf_cons, ih]
      simp [e]
theorem lastOf_filter_other (ps : List (Nat × List UInt8)) {k j : Nat} (hne : j ≠ k) : lastOf (ps.filter fun p => decide (p.1 ≠ k)) j = lastOf ps j := by
  induction ps with
  | nil => rfl
  | cons p ps ih =>
    by_cases e : p.1 = k
    · rw [List.filter_cons_of_neg (by simp [e]), ih]
      rw [lastOf_cons]
      cases lastOf ps j with
      | some x => rfl
      | none => simp only [if_neg (show ¬ p.1 = j by omega)]
    · rw [List.filter_cons_of_pos (by simp [e])]
      rw [lastOf_cons, lastOf_cons, ih]
theorem nowOf_damage {S x : List UInt8} {ps : List (Nat × List UInt8)} {k : Nat} (hS : S.length = 1664) (h : WOk ps) (hk : k < 52) (hx : x.length = 32) : nowOf (putAt S k x) (ps.filter fun p => decide (p.1 ≠ k)) = putAt (nowOf S ps) k x := by
  have hS' := putAt_len hS (show k * 32 + 32 ≤ 1664 by omega) hx
  have hN := nowOf_len hS h
  have hf := h.filter fun p => decide (p.1 ≠ k)
  refine sec_ext (nowOf_len hS' hf) (putAt_len hN (by omega) hx) fun j hj => ?_
  rw [nowOf_sec hS' hf j hj]
  by_cases e : j = k
  · subst e
    rw [lastOf_filter_same, sec_put_same hN hk hx]
    exact sec_put_same hS hk hx
  · rw [lastOf_filter_other ps e, sec_put_other hS hk hx e, sec_put_other hN hk hx e, nowOf_sec hS h j hj]

/-- Of the writes those that are kept. -/
def keptOf : List (Nat × List UInt8) → List Bool → List (Nat × List UInt8)
  | p :: ps, k :: ks => if k then p :: keptOf ps ks else keptOf ps ks
  | _, _ => []
theorem keptOf_nil (ps : List (Nat × List UInt8)) : keptOf ps [] = [] := by cases ps <;> rfl
theorem keptOf_zero (ks : List Bool) : keptOf [] ks = [] := rfl
theorem WOk.kept : ∀ {ps : List (Nat × List UInt8)} {ks : List Bool}, WOk ps → WOk (keptOf ps ks)
  | [], _, _ => WOk.nil
  | _ :: _, [], _ => WOk.nil
  | p :: ps, k :: ks, h => by
    unfold keptOf
    split
    · intro q hq
      rcases List.mem_cons.1 hq with rfl | hq
      · exact h _ (List.mem_cons_self ..)
      · exact WOk.kept h.cons q hq
    · exact WOk.kept h.cons
theorem keptOf_succ : ∀ {ps : List (Nat × List UInt8)} {ks : List Bool} {i : Nat}, i < ps.length → i < ks.length → keptOf (ps.take (i + 1)) ks = keptOf (ps.take i) ks ++ (if ks.getD i false = true then [ps.getD i (0, [])] else [])
  | p :: ps, k :: ks, 0, _, _ => by
    simp only [Nat.zero_add, List.take_succ_cons, List.take_zero, keptOf_zero, List.nil_append, List.getD_cons_zero]
    unfold keptOf
    rw [keptOf_zero]
  | p :: ps, k :: ks, i + 1, h1, h2 => by
    have ih := keptOf_succ (ps := ps) (ks := ks) (i := i) (by simpa using h1) (by simpa using h2)
    simp only [List.take_succ_cons, List.getD_cons_succ]
    rw [show keptOf (p :: ps.take (i + 1)) (k :: ks) = if k then p :: keptOf (ps.take (i + 1)) ks else keptOf (ps.take (i + 1)) ks from rfl,
      show keptOf (p :: ps.take i) (k :: ks) = if k then p :: keptOf (ps.take i) ks else keptOf (ps.take i) ks from rfl, ih]
    cases k <;> simp
theorem keptOf_min : ∀ (ps : List (Nat × List UInt8)) (ks : List Bool), keptOf (ps.take (min ks.length ps.length)) ks = keptOf ps ks
  | [], ks => by simp
  | p :: ps, [] => by simp [keptOf_nil]
  | p :: ps, k :: ks => by
    have ih := keptOf_min ps ks
    have hm : min (k :: ks).length (p :: ps).length = min ks.length ps.length + 1 := by simp only [List.length_cons]; omega
    rw [hm, List.take_succ_cons]
    show (if k then p :: keptOf (ps.take _) ks else keptOf (ps.take _) ks) = _
    rw [ih]
    rfl

/-- All bytes 0. -/
def zeroS : List UInt8 := List.replicate 1664 0
theorem zeroS_len : zeroS.length = 1664 := List.length_replicate ..
/-- A disk. -/
structure Dsk where
  S : List UInt8
  ps : List (Nat × List UInt8)
  f : Bool
namespace Dsk
def now (D : Dsk) : List UInt8 := nowOf D.S D.ps
def new : Dsk := ⟨zeroS, [], false⟩
def failed : Dsk := ⟨zeroS, [], true⟩
def write (D : Dsk) (k : Nat) (x : List UInt8) : Dsk := ⟨D.S, D.ps ++ [(k, x)], D.f⟩
def flush (D : Dsk) : Dsk := ⟨D.now, [], D.f⟩
def crash (D : Dsk) (keep : List Bool) : Dsk := ⟨nowOf D.S (keptOf D.ps keep), [], D.f⟩
def damage (D : Dsk) (k : Nat) (x : List UInt8) : Dsk := ⟨putAt D.S k x, D.ps.filter fun p => decide (p.1 ≠ k), D.f⟩
structure Ok (D : Dsk) : Prop where
  S : D.S.length = 1664
  ps : WOk D.ps
theorem Ok.now {D : Dsk} (h : D.Ok) : D.now.length = 1664 := nowOf_len h.S h.ps
theorem new_ok : Dsk.new.Ok := ⟨zeroS_len, WOk.nil⟩
theorem failed_ok : Dsk.failed.Ok := ⟨zeroS_len, WOk.nil⟩
theorem Ok.write {D : Dsk} (h : D.Ok) {k : Nat} {x : List UInt8} (hk : k < 52) (hx : x.length = 32) : (D.write k x).Ok := ⟨h.S, h.ps.snoc hk hx⟩
theorem Ok.flush {D : Dsk} (h : D.Ok) : D.flush.Ok := ⟨h.now, WOk.nil⟩
theorem Ok.crash {D : Dsk} (h : D.Ok) (keep : List Bool) : (D.crash keep).Ok := ⟨nowOf_len h.S h.ps.kept, WOk.nil⟩
theorem Ok.damage {D : Dsk} (h : D.Ok) {k : Nat} {x : List UInt8} (hk : k < 52) (hx : x.length = 32) : (D.damage k x).Ok := ⟨putAt_len h.S (by omega) hx, h.ps.filter _⟩
theorem write_now (D : Dsk) (k : Nat) (x : List UInt8) : (D.write k x).now = putAt D.now k x := nowOf_snoc _ _ _ _
theorem flush_now (D : Dsk) : D.flush.now = D.now := rfl
theorem crash_now (D : Dsk) (keep : List Bool) : (D.crash keep).now = (D.crash keep).S := rfl
theorem damage_now {D : Dsk} (h : D.Ok) {k : Nat} {x : List UInt8} (hk : k < 52) (hx : x.length = 32) : (D.damage k x).now = putAt D.now k x := nowOf_damage h.S h.ps hk hx
end Dsk
end Go.Proofs.YtoomdgidpplpfaaDoor
end
section
namespace Go.Proofs.YtoomdgidpplpfaaDoor
open Go.RowKit

theorem bv_one (b : UInt8) : (bv b).oneCell' = true := rfl
theorem map_bv_one {bs : List UInt8} : ∀ u ∈ bs.map bv, u.oneCell' = true := fun u hu => by
  obtain ⟨b, _, rfl⟩ := List.mem_map.1 hu
  rfl
/-- The slice value v owns these bytes, in a block from B on. -/
def OwB (e : TypeId) (w : World) (B : Nat) (v : Value) (bs : List UInt8) : Prop := w.ownsRow B e 1 v bs.length (bs.map bv) ∧ bs.length ≤ 140737488355328

section
variable {e : TypeId} {w w' : World} {B B' : Nat} {v : Value} {bs : List UInt8}
theorem OwB.nil (e : TypeId) (w : World) (B : Nat) : OwB e w B (.slice none 0 0) [] := ⟨World.ownsRow_nil _ _ _ _, by simp⟩
/-- What an own slice is: nil and empty, or a row of its own block. -/
theorem OwB.form (h : OwB e w B v bs) : (v = .slice none 0 0 ∧ bs = []) ∨ ∃ g cap cur, v = .slice (some ⟨g, 0, none⟩) bs.length cap ∧ B ≤ g ∧ w.heap[g]? = some (.cells cur e (0, 0)) ∧ bs.length ≤ cap ∧ cap ≤ maxLen ∧ cur.size = cap ∧
    (∀ k, k < bs.length → cur[k]? = some (.int .u8 ((bs.getD k 0).toNat : Int))) := by
  rcases h.1.2 with ⟨h1, h2⟩ | ⟨g, cap, cur, h1, h2, h3, h4, h5, h6, h7⟩
  · exact .inl ⟨h1, List.eq_nil_of_length_eq_zero h2⟩
  · refine .inr ⟨g, cap, cur, h1, h2, h3, h4, h5, by simpa using h6, fun k hk => ?_⟩
    have : (cur.toList.take (bs.length * 1))[k]? = (bs.map bv)[k]? := by rw [h7]
    rw [List.getElem?_take, if_pos (by omega), Array.getElem?_toList] at this
    rw [this]
    simp [hk, bv]
theorem OwB.rd (h : OwB e w B v bs) : ∃ A cap, v = .slice A bs.length cap ∧ bs.length ≤ cap ∧ RdB w w.heap.size A bs := by
  rcases h.form with ⟨rfl, rfl⟩ | ⟨g, cap, cur, rfl, _, hg, hc, _, _, hk⟩
  · exact ⟨none, 0, rfl, Nat.le_refl _, RdB.nil _ _ _⟩
  · exact ⟨_, cap, rfl, hc, h.2, fun _ => ⟨g, 0, rfl, (Array.getElem?_eq_some_iff.1 hg).1, fun k hk' => by rw [Nat.zero_add, cell_of_row w g k cur e (0, 0) hg]; exact hk k hk'⟩⟩
theorem OwB.rdS {A : Option Addr} {n c : Nat} (h : OwB e w B (.slice A n c) bs) : RdB w w.heap.size A bs ∧ n = bs.length ∧ n ≤ c := by
  obtain ⟨A', c', hv, hc, hr⟩ := h.rd
  injection hv with h1 h2 h3
  subst h1 h2 h3
  exact ⟨hr, rfl, hc⟩
theorem OwB.pos (h : OwB e w B v bs) (hp : 0 < bs.length) : ∃ g cap, v = .slice (some ⟨g, 0, none⟩) bs.length cap ∧ B ≤ g ∧ g < w.heap.size ∧ bs.length ≤ cap ∧ cap ≤ maxLen ∧ RdB w w.heap.size (some ⟨g, 0, none⟩) bs := by
  obtain ⟨A, c, hv, _, hr⟩ := h.rd
  rcases h.form with ⟨_, rfl⟩ | ⟨g, cap, cur, rfl, hB, hg, hc, hm, _, _⟩
  · simp at hp
  · injection hv with h1 _ _
    exact ⟨g, cap, rfl, hB, (Array.getElem?_eq_some_iff.1 hg).1, hc, hm, h1 ▸ hr⟩
/-- A new row of n zero bytes. -/
theorem own_make (e : TypeId) (w : World) (n : Nat) (hn : n ≤ 140737488355328) : OwB e (w.alloc (.cells (zcells n) e)) w.heap.size (.slice (some ⟨w.heap.size, 0, none⟩) n n) (List.replicate n 0) := by
  refine ⟨?_, by simpa using hn⟩
  have h := World.ownsRow_lit (base := w.heap.size) (e := e) (size := 1) w (zcells n) n (Nat.le_refl _) (by unfold maxLen; omega) (by rw [zcells_size]; omega)
  unfold zcells at h ⊢
  rw [toList_madeCells_one] at h
  simpa [bv] using h
theorem OwB.grown {row : Option Nat} (h : OwB e w B v bs) (hg : w.grownBy w' row) (hne : v.ownBlock = none ∨ v.ownBlock ≠ row) : OwB e w' B v bs := ⟨h.1.kept hg hne, h.2⟩
theorem OwB.growF {row : Option Nat} (h : OwB e w B v bs) (hg : w.grownBy w' row) (hr : ∀ j, row = some j → j < B) : OwB e w' B v bs := by
  refine h.grown hg ?_
  rcases hv : v.ownBlock with _ | k
  · exact .inl rfl
  · refine .inr fun e => ?_
    have h1 := hr k e.symm
    have h2 : B ≤ k := by
      rcases h.1.2 with ⟨rfl, _⟩ | ⟨g, cap, cur, rfl, h2, _⟩
      · simp [Value.ownBlock] at hv
      · simp [Value.ownBlock] at hv; omega
    omega
theorem grown_none {a b : World} (h : Below a.heap.size a b) : a.grownBy b none := ⟨h.os, h.tape, h.output, h.size, fun k hk _ => h.block k hk⟩
theorem OwB.below (h : OwB e w B v bs) (hb : Below w.heap.size w w') : OwB e w' B v bs := h.grown (grown_none hb) (by cases v.ownBlock <;> simp)
theorem OwB.lt (h : OwB e w B v bs) : ∀ k, v.ownBlock = some k → B ≤ k ∧ k < w.heap.size := h.1.lt
theorem OwB.le (h : OwB e w B v bs) (hB : B' ≤ B) : OwB e w B' v bs := by
  refine ⟨⟨h.1.1, ?_⟩, h.2⟩
  rcases h.1.2 with h1 | ⟨g, cap, cur, h1, h2, r⟩
  · exact .inl h1
  · exact .inr ⟨g, cap, cur, h1, by omega, r⟩
end

section
variable {e : TypeId} {w w' : World} {B g n cap : Nat} {bs : List UInt8}
theorem OwB.cell (h : OwB e w B (.slice (some ⟨g, 0, none⟩) n cap) bs) (hn : bs.length = n) (j : Nat) (hj : j < n) : w.cell? ⟨g, j, none⟩ = some (.int .u8 ((bs.getD j 0).toNat : Int)) ∧ w.frozen? ⟨g, j, none⟩ = false := by
  subst hn
  refine ⟨?_, h.1.frozenAt j⟩
  rw [h.1.cellAt j (by omega)]
  simp [hj, bv]
theorem OwB.set (h : OwB e w B (.slice (some ⟨g, 0, none⟩) n cap) bs) (hn : bs.length = n) (j : Nat) (b : UInt8) :
    OwB e (w.setCell ⟨g, j, none⟩ (.int .u8 (b.toNat : Int))) B (.slice (some ⟨g, 0, none⟩) n cap) (bs.set j b) ∧ w.grownBy (w.setCell ⟨g, j, none⟩ (.int .u8 (b.toNat : Int))) (some g) := by
  subst hn
  obtain ⟨h1, h2⟩ := h.1.stored j (.int .u8 (b.toNat : Int))
  refine ⟨⟨?_, by simpa using h.2⟩, h2⟩
  rw [List.map_set, List.length_set]
  exact h1
theorem OwB.takeS {g n cap : Nat} (h : OwB e w B (.slice (some ⟨g, 0, none⟩) n cap) bs) (hn : bs.length = n) (k : Nat) (hk : k ≤ n) : OwB e w B (.slice (some ⟨g, 0, none⟩) k cap) (bs.take k) := by
  subst hn
  have hl : (bs.take k).length = k := by rw [List.length_take]; omega
  rcases h.1.2 with ⟨h1, _⟩ | ⟨g', cap', cur, h1, h2, h3, h4, h5, h6, h7⟩
  · cases h1
  · injection h1 with h8 _ h9
    injection h8 with h8
    injection h8 with h8 _ _
    subst h8 h9
    refine ⟨⟨by simp, .inr ⟨g, cap, cur, by rw [hl], h2, h3, by omega, h5, h6, ?_⟩⟩, by have := h.2; omega⟩
    rw [hl, List.map_take, ← h7, List.take_take]
    congr 1
    omega
theorem grown_drewN {a b : World} {row : Option Nat} (h : a.grownBy b row) (n : Nat) : a.grownBy (b.drewN n) row := ⟨h.os, h.tape, h.output, h.size, h.block⟩
theorem grown_of_below {a b : World} (h : Below a.heap.size a b) (row : Option Nat) : a.grownBy b row := ⟨h.os, h.tape, h.output, h.size, fun k hk _ => h.block k hk⟩
end

section
variable {P : Program} (w : World)
/-- append(own, source...): the source nil, empty or full. -/
theorem run_append_B (base : Nat) (t ty e : TypeId) (ht : P.underlying t = some (.slice e)) (hinfo : (P.info? e).map (fun i => (i.zero, i.size, i.bytes)) = some (some (.int .u8 0), 1, 1))
    (v : Value) (xs : List UInt8) (hown : OwB e w base v xs) (B : Nat) (A : Option Addr) (c : Nat) (bs : List UInt8) (hr : RdB w B A bs) (hn : xs.length + bs.length ≤ 140737488355328) (hbase : base ≤ w.heap.size) :
    ∃ v' w', (Builtin.append_ #[t, t] ty #[v, .slice A bs.length c]).run P w = .ok v' w' ∧ OwB e w' base v' (xs ++ bs) ∧ w.grownBy w' v.ownBlock ∧ (v'.ownBlock = v.ownBlock ∨ v'.ownBlock = some w.heap.size) := by
  obtain ⟨i, hi, hzz⟩ := Option.map_eq_some_iff.1 hinfo
  simp only [Prod.mk.injEq] at hzz
  obtain ⟨hz, hs, hb⟩ := hzz
  rcases A with _ | ad
  · have hm : bs = [] := by
      rcases bs with _ | ⟨b, r⟩
      · rfl
      · obtain ⟨_, _, h, _⟩ := hr.2 (by simp)
        cases h
    subst hm
    refine ⟨v, w, ?_, by simpa using hown, World.grownBy.refl w _, .inl rfl⟩
    rcases hown.1.2 with ⟨rfl, _⟩ | ⟨g, cap, cur, rfl, _, _, hnc, _⟩
    · simp [Builtin.append_, run_underlying ht, sizeOf, typeInfo, hi, Builtin.lenOf, Builtin.firstCells]
    · simp [Builtin.append_, run_underlying ht, sizeOf, typeInfo, hi, Builtin.lenOf, Builtin.firstCells, hnc, storeCells]
  · have hcells : ∀ j u, (bs.map bv)[j]? = some u → w.cell? (ad.add j) = some u := by
      intro j u hu
      simp only [List.getElem?_map, Option.map_eq_some_iff] at hu
      obtain ⟨b, hb1, rfl⟩ := hu
      obtain ⟨hj, rfl⟩ := List.getElem?_eq_some_iff.1 hb1
      obtain ⟨b2, off, h, _, hc⟩ := hr.2 (by omega)
      injection h with h
      subst h
      have e1 : ((⟨b2, off, none⟩ : Addr).add j) = ⟨b2, off + j, none⟩ := by unfold Addr.add; by_cases hk0 : j = 0 <;> simp [hk0]
      rw [e1, hc j hj]
      simp [bv, hj]
    obtain ⟨v', w', hrun, h2, h3, _, h5⟩ := run_append_own_at (P := P) w base t ty e i _ 1 1 ht hi hz hs hb rfl (by omega) v xs.length (xs.map bv) hown.1 ad bs.length c (bs.map bv) (by simp) hcells map_bv_one (by unfold maxLen; omega) (by omega) hbase
    exact ⟨v', w', hrun, ⟨by simpa using h2, by simpa using hn⟩, h3, h5⟩
theorem wpList_append_B {ops : Array Oper} {rest : List Oper} {o : Oper} {a : Act} {Q : Exit → Act → World → Prop} (hw : Region.wanted o (yielded ops a.tmps) = true) (s x : Operand) (t : TypeId)
    (ho : o.op = .call { callee := .builtin .append, args := #[s, x], argTypes := #[t, t] })
    (base : Nat) (e : TypeId) (ht : P.underlying t = some (.slice e)) (hinfo : (P.info? e).map (fun i => (i.zero, i.size, i.bytes)) = some (some (.int .u8 0), 1, 1))
    (v : Value) (xs : List UInt8) (hs : a.eval s = v) (hown : OwB e w base v xs) (B : Nat) (A : Option Addr) (n c : Nat) (bs : List UInt8) (hx : a.eval x = .slice A n c) (hnl : n = bs.length) (hr : RdB w B A bs)
    (hn : xs.length + bs.length ≤ 140737488355328) (hbase : base ≤ w.heap.size)
    (h : ∀ v' w', OwB e w' base v' (xs ++ bs) → w.grownBy w' v.ownBlock → (v'.ownBlock = v.ownBlock ∨ v'.ownBlock = some w.heap.size) → wpList P ops Q rest (a.put o.dst v') w') : wpList P ops Q (o :: rest) a w := by
  subst hnl
  refine BigFrame.wpList_want hw fun K hK => ?_
  obtain ⟨v', w', hrun, h2, h3, h4⟩ := run_append_B (P := P) w base t o.type e ht hinfo v xs hown B A c bs hr hn hbase
  unfold Oper.wp execOp
  simp only [ho, resolve, invoke, builtin, Sem.run_bind, Sem.run_pure, Result.andThen_ok, List.map_toArray, List.map_cons, List.map_nil, hs, hx, hrun]
  exact hK _ _ (h v' w' h2 h3 h4)

/-- copy(own, source): what own reads then. -/
def copyB (ds bs : List UInt8) : List UInt8 := bs.take ds.length ++ ds.drop bs.length
theorem copyB_len (ds bs : List UInt8) : (copyB ds bs).length = ds.length := by simp [copyB]; omega
theorem wpList_copy_B {w : World} {ops : Array Oper} {rest : List Oper} {o : Oper} {a : Act} {Q : Exit → Act → World → Prop} (hgd : o.guard = none) (d s : Operand) (t : TypeId)
    (ho : o.op = .call { callee := .builtin .copy, args := #[d, s], argTypes := #[t, t] }) (e : TypeId) (hu : P.underlying t = some (.slice e)) (hsz : (P.info? e).map (·.size) = some 1)
    (g n cap B : Nat) (ds : List UInt8) (hd : a.eval d = .slice (some ⟨g, 0, none⟩) n cap) (hown : OwB e w B (.slice (some ⟨g, 0, none⟩) n cap) ds) (hdn : ds.length = n)
    (B' : Nat) (A : Option Addr) (m c : Nat) (bs : List UInt8) (hs : a.eval s = .slice A m c) (hm : m = bs.length) (hr : RdB w B' A bs)
    (h : ∀ w', OwB e w' B (.slice (some ⟨g, 0, none⟩) n cap) (copyB ds bs) → w.grownBy w' (some g) → ∀ r : Value, wpList P ops Q rest (a.put o.dst r) w') : wpList P ops Q (o :: rest) a w := by
  subst hm hdn
  by_cases h0 : Nat.min bs.length ds.length = 0
  · refine wpList_copy_nothing hgd d s t t ho e hu hsz _ _ _ _ _ _ hd hs h0 (h w ?_ (World.grownBy.refl w _) _)
    have : copyB ds bs = ds := by
      unfold copyB
      rcases bs with _ | ⟨b, r⟩
      · simp
      · rcases ds with _ | ⟨x, y⟩
        · simp
        · exfalso
          have h1 : Nat.min (r.length + 1) (y.length + 1) = 0 := h0
          rcases Nat.le_total (r.length + 1) (y.length + 1) with hle | hle
          · rw [show Nat.min (r.length + 1) (y.length + 1) = r.length + 1 from Nat.min_eq_left hle] at h1; omega
          · rw [show Nat.min (r.length + 1) (y.length + 1) = y.length + 1 from Nat.min_eq_right hle] at h1; omega
    rw [this]
    exact hown
  · rcases hown.1.2 with ⟨h1, _⟩ | ⟨g', cap', cur, h1, h2, h3, h4, h5, h6, h7⟩
    · cases h1
    · injection h1 with h1 _ hc
      injection h1 with h1
      injection h1 with h1 _ _
      subst h1 hc
      have hpos : 0 < bs.length := by
        rcases Nat.eq_zero_or_pos bs.length with h | h
        · rw [h] at h0; exact absurd (show Nat.min 0 ds.length = 0 from Nat.zero_min _) h0
        · exact h
      obtain ⟨b2, off, rfl, _, hc2⟩ := hr.2 hpos
      have hkl : ((bs.take ds.length).map bv).length = Nat.min bs.length ds.length := by
        rw [List.length_map, List.length_take, Nat.min_comm]
      have hks : ((bs.take ds.length).map bv).length ≤ ds.length := by simp; omega
      refine wpList_copy_own hgd d s t t ho e hu hsz g 0 ds.length cap ⟨b2, off, none⟩ bs.length c hd hs cur e h3 ((bs.take ds.length).map bv) hkl ?_ (by omega) map_bv_one
        (h _ ⟨⟨by simp, .inr ⟨g, cap, _, by rw [copyB_len], h2, setRow_heap w g cur _ e (0, 0) h3, by rw [copyB_len]; exact h4, h5, ?_, ?_⟩⟩, by rw [copyB_len]; exact hown.2⟩
          ⟨rfl, rfl, rfl, by simp, fun k _ hk => setRow_other w g k _ (fun e => hk (by rw [e]))⟩ _)
      · intro j v hj
        simp only [List.getElem?_map, Option.map_eq_some_iff] at hj
        obtain ⟨b, hb1, rfl⟩ := hj
        obtain ⟨hjl, rfl⟩ := List.getElem?_eq_some_iff.1 hb1
        have hjb : j < bs.length := by simp at hjl; omega
        have e1 : ((⟨b2, off, none⟩ : Addr).add j) = ⟨b2, off + j, none⟩ := by unfold Addr.add; by_cases hk0 : j = 0 <;> simp [hk0]
        rw [e1, hc2 j hjb]
        simp [bv, hjb]
      · simp only [List.size_toArray, List.length_append, List.length_take, List.length_drop, Array.length_toList]
        omega
      · rw [copyB_len, List.toList_toArray, Nat.mul_one, List.take_zero, List.nil_append, Nat.zero_add]
        rw [List.take_append, List.take_of_length_le hks, copyB, List.map_append]
        congr 1
        rw [Nat.mul_one] at h7
        rw [← List.drop_take, h7, List.map_drop]
        apply List.ext_getElem?
        intro j
        simp only [List.getElem?_drop, hkl]
        by_cases hle : bs.length ≤ ds.length
        · rw [show Nat.min bs.length ds.length = bs.length from Nat.min_eq_left hle]
        · rw [show Nat.min bs.length ds.length = ds.length from Nat.min_eq_right (by omega), List.getElem?_eq_none (by simp), List.getElem?_eq_none (by simp; omega)]

/-- A slice that holds these values, one cell each. -/
def RdV (w : World) (B : Nat) (A : Option Addr) (xs : List Value) : Prop :=
  0 < xs.length → ∃ b off, A = some ⟨b, off, none⟩ ∧ b < B ∧ ∀ k, k < xs.length → w.cell? ⟨b, off + k, none⟩ = xs[k]?
theorem RdV.below {w w' : World} {B B' : Nat} {A : Option Addr} {xs : List Value} (h : RdV w B A xs) (hb : Below B w w') (hB : B ≤ B') : RdV w' B' A xs := fun hn => by
  obtain ⟨b, off, e, hlt, hc⟩ := h hn
  exact ⟨b, off, e, by omega, fun k hk => (hb.cell (p := ⟨b, off + k, none⟩) hlt).trans (hc k hk)⟩
/-- Values that read as rows. -/
def RowsV (w : World) (B : Nat) (xs : List Value) (rs : List (List UInt8)) : Prop :=
  xs.length = rs.length ∧ ∀ k, k < rs.length → ∃ A c, xs[k]? = some (.slice A (rs.getD k []).length c) ∧ RdB w B A (rs.getD k [])
theorem RdR.vals {w : World} {B : Nat} {A : Option Addr} {rs : List (List UInt8)} (h : RdR w B A rs) : ∃ xs, RdV w B A xs ∧ RowsV w B xs rs ∧ ∀ u ∈ xs, u.oneCell' = true := by
  rcases Nat.eq_zero_or_pos rs.length with h0 | h0
  · refine ⟨[], fun h => by simp at h, ⟨by simp [h0], fun k hk => by omega⟩, fun u hu => by simp at hu⟩
  · obtain ⟨b, off, rfl, hb, hc⟩ := h.2 h0
    have hx : ∀ k, k < rs.length → ((List.range rs.length).map fun k => (w.cell? ⟨b, off + k, none⟩).getD undef)[k]? = w.cell? ⟨b, off + k, none⟩ := fun k hk => by
      obtain ⟨A', c', h1, _⟩ := hc k hk
      simp [hk, h1]
    refine ⟨(List.range rs.length).map fun k => (w.cell? ⟨b, off + k, none⟩).getD undef, fun _ => ⟨b, off, rfl, hb, fun k hk => (hx k (by simpa using hk)).symm⟩, ⟨by simp, fun k hk => ?_⟩, fun u hu => ?_⟩
    · obtain ⟨A', c', h1, h2⟩ := hc k hk
      exact ⟨A', c', (hx k hk).trans h1, h2⟩
    · simp only [List.mem_map, List.mem_range] at hu
      obtain ⟨k, hk, rfl⟩ := hu
      obtain ⟨A', c', h1, _⟩ := hc k hk
      rw [h1]
      rfl
theorem wpList_append_V {w : World} {ops : Array Oper} {rest : List Oper} {o : Oper} {a : Act} {Q : Exit → Act → World → Prop} (hw : Region.wanted o (yielded ops a.tmps) = true) (s x : Operand) (t : TypeId)
    (ho : o.op = .call { callee := .builtin .append, args := #[s, x], argTypes := #[t, t] })
    (base : Nat) (e : TypeId) (z : Value) (bytes : Nat) (ht : P.underlying t = some (.slice e)) (hinfo : (P.info? e).map (fun i => (i.zero, i.size, i.bytes)) = some (some z, 1, bytes)) (hz1 : z.cells.size = 1)
    (v : Value) (n : Nat) (xs : List Value) (hs : a.eval s = v) (hown : w.ownsRow base e 1 v n xs) (B : Nat) (A : Option Addr) (m c : Nat) (news : List Value) (hx : a.eval x = .slice A m c) (hm : m = news.length)
    (hr : RdV w B A news) (h1 : ∀ u ∈ news, u.oneCell' = true) (h63 : n + m ≤ maxLen) (hbytes : (n + m) * bytes ≤ 140737488355328) (hbase : base ≤ w.heap.size)
    (h : ∀ v' w', w'.ownsRow base e 1 v' (n + m) (xs ++ news) → w.grownBy w' v.ownBlock → (v'.ownBlock = v.ownBlock ∨ v'.ownBlock = some w.heap.size) → wpList P ops Q rest (a.put o.dst v') w') : wpList P ops Q (o :: rest) a w := by
  subst hm
  refine BigFrame.wpList_want hw fun K hK => ?_
  obtain ⟨i, hi, hzz⟩ := Option.map_eq_some_iff.1 hinfo
  simp only [Prod.mk.injEq] at hzz
  obtain ⟨hz, hsz, hb⟩ := hzz
  have hrun : ∃ v' w', (Builtin.append_ #[t, t] o.type #[v, .slice A news.length c]).run P w = .ok v' w' ∧ w'.ownsRow base e 1 v' (n + news.length) (xs ++ news) ∧ w.grownBy w' v.ownBlock ∧ (v'.ownBlock = v.ownBlock ∨ v'.ownBlock = some w.heap.size) := by
    rcases A with _ | ad
    · have hm : news = [] := by
        rcases news with _ | ⟨b, r⟩
        · rfl
        · obtain ⟨_, _, h, _⟩ := hr (by simp)
          cases h
      subst hm
      refine ⟨v, w, ?_, by simpa using hown, World.grownBy.refl w _, .inl rfl⟩
      rcases hown.2 with ⟨rfl, _⟩ | ⟨g, cap, cur, rfl, _, _, hnc, _⟩
      · simp [Builtin.append_, run_underlying ht, sizeOf, typeInfo, hi, Builtin.lenOf, Builtin.firstCells]
      · simp [Builtin.append_, run_underlying ht, sizeOf, typeInfo, hi, Builtin.lenOf, Builtin.firstCells, hnc, storeCells]
    · have hcells : ∀ j u, news[j]? = some u → w.cell? (ad.add j) = some u := by
        intro j u hu
        obtain ⟨hj, _⟩ := List.getElem?_eq_some_iff.1 hu
        obtain ⟨b2, off, h, _, hc⟩ := hr (by omega)
        injection h with h
        subst h
        have e1 : ((⟨b2, off, none⟩ : Addr).add j) = ⟨b2, off + j, none⟩ := by unfold Addr.add; by_cases hk0 : j = 0 <;> simp [hk0]
        rw [e1, hc j hj, hu]
      obtain ⟨v', w', hrun, h2, h3, _, h5⟩ := run_append_own_at (P := P) w base t o.type e i _ 1 bytes ht hi hz hsz hb hz1 (by omega) v n xs hown ad news.length c news (by simp) hcells h1 h63 hbytes hbase
      exact ⟨v', w', hrun, h2, h3, h5⟩
  obtain ⟨v', w', hrun, h2, h3, h4⟩ := hrun
  unfold Oper.wp execOp
  simp only [ho, resolve, invoke, builtin, Sem.run_bind, Sem.run_pure, Result.andThen_ok, List.map_toArray, List.map_cons, List.map_nil, hs, hx, hrun]
  exact hK _ _ (h v' w' h2 h3 h4)
/-- An own row of slices reads as rows. -/
theorem rdr_own {w : World} {B base : Nat} {e : TypeId} {v : Value} {n : Nat} {xs : List Value} {rs : List (List UInt8)} (h : w.ownsRow base e 1 v n xs) (hB : w.heap.size ≤ B) (hl : rs.length ≤ 140737488355328) (hx : RowsV w B xs rs) :
    ∃ A cap, v = .slice A rs.length cap ∧ RdR w B A rs := by
  have hn : n = rs.length := by have := h.1; have := hx.1; omega
  subst hn
  rcases h.2 with ⟨rfl, h0⟩ | ⟨g, cap, cur, rfl, _, hg, _, _, _, htk⟩
  · exact ⟨none, 0, by rw [h0], hl, fun h => by omega⟩
  · refine ⟨_, cap, rfl, rdr_cells hg (by have := (Array.getElem?_eq_some_iff.1 hg).1; omega) hl fun k hk => ?_⟩
    obtain ⟨A, c, h1, h2⟩ := hx.2 k hk
    refine ⟨A, c, ?_, h2⟩
    rw [← htk, List.getElem?_take, if_pos (by omega), Array.getElem?_toList] at h1
    exact h1
theorem rows_one {w : World} {B : Nat} {A : Option Addr} {c : Nat} {bs : List UInt8} {xs : List Value} {rs : List (List UInt8)} (h : RdB w B A bs) (hx : RowsV w B xs rs) : RowsV w B ([.slice A bs.length c] ++ xs) (bs :: rs) :=
  ⟨by simp [hx.1], fun k hk => by
    cases k with
    | zero => exact ⟨A, c, rfl, h⟩
    | succ k => exact hx.2 k (by simpa using hk)⟩
theorem RowsV.below {w w' : World} {B B' : Nat} {xs : List Value} {rs : List (List UInt8)} (hx : RowsV w B xs rs) (hb : Below B w w') (hB : B ≤ B') : RowsV w' B' xs rs :=
  ⟨hx.1, fun k hk => by
    obtain ⟨A, c, h1, h2⟩ := hx.2 k hk
    exact ⟨A, c, h1, (h2.below hb (Nat.le_refl _)).more hB⟩⟩
/-- append([][]byte{x}, rows...). -/
theorem wpList_append_rows1 {W : World} {ops : Array Oper} {rest : List Oper} {o : Oper} {a : Act} {Q : Exit → Act → World → Prop} (hw : Region.wanted o (yielded ops a.tmps) = true) (s x : Operand) (t : TypeId)
    (ho : o.op = .call { callee := .builtin .append, args := #[s, x], argTypes := #[t, t] }) (e : TypeId) (ht : P.underlying t = some (.slice e)) (hinfo : (P.info? e).map (fun i => (i.zero, i.size, i.bytes)) = some (some (.slice none 0 0), 1, 24))
    (A1 : Option Addr) (n1 c1 : Nat) (b1 : List UInt8) (hn1 : b1.length = n1) (hs : a.eval s = .slice (some ⟨W.heap.size, 0, none⟩) 1 1) (A : Option Addr) (n c : Nat) (rs : List (List UInt8)) (hx : a.eval x = .slice A n c)
    (hn : rs.length = n) (hn2 : n ≤ 1000000) (h1 : RdB W W.heap.size A1 b1) (hr : RdR W W.heap.size A rs)
    (h : ∀ A2 cap2 w2, RdR w2 w2.heap.size A2 (b1 :: rs) → Below W.heap.size W w2 → wpList P ops Q rest (a.put o.dst (.slice A2 (1 + n) cap2)) w2) : wpList P ops Q (o :: rest) a (W.alloc (.cells #[.slice A1 n1 c1] e)) := by
  subst hn1 hn
  obtain ⟨xs, hxv, hxr, hx1⟩ := hr.vals
  refine wpList_append_V hw s x t ho W.heap.size e (.slice none 0 0) 24 ht hinfo rfl _ 1 _ hs (World.ownsRow_lit W #[.slice A1 b1.length c1] 1 (Nat.le_refl _) (by decide) rfl) W.heap.size A rs.length c xs hx
    hxr.1.symm (hxv.below (below1 W _) (Nat.le_refl _)) hx1 (by unfold maxLen; omega) (by omega) (by simp) ?_
  intro v2 w2 hown2 hg2 hat2
  have hb2 : Below W.heap.size W w2 := (below1 W _).grown hg2 (by simp) (by intro k hk; simp [Value.ownBlock] at hk; omega)
  obtain ⟨A2, cap2, rfl, hrr⟩ := rdr_own (rs := b1 :: rs) hown2 (Nat.le_refl _) (by simp; omega) (rows_one (c := c1) ((h1.below hb2 (Nat.le_refl _)).more hb2.size) (hxr.below hb2 hb2.size))
  have := h A2 cap2 w2 hrr hb2
  rwa [Nat.add_comm] at this
end
end Go.Proofs.YtoomdgidpplpfaaDoor
end
section
namespace Go.Proofs.YtoomdgidpplpfaaDoor
open Go.RowKit

structure Chg (F : Nat → Prop) (w w' : World) : Prop where
  os : w'.os = w.os
  tape : w'.tape = w.tape
  output : w'.output = w.output
  size : w.heap.size ≤ w'.heap.size
  block : ∀ k, k < w.heap.size → ¬ F k → w'.heap[k]? = w.heap[k]?
section
variable {F G : Nat → Prop} {a b c : World}
theorem Chg.refl (F : Nat → Prop) (w : World) : Chg F w w := ⟨rfl, rfl, rfl, Nat.le_refl _, fun _ _ _ => rfl⟩
theorem Chg.trans (h : Chg F a b) (k : Chg G b c) (hs : ∀ i, i < a.heap.size → G i → F i) : Chg F a c :=
  ⟨k.os.trans h.os, k.tape.trans h.tape, k.output.trans h.output, Nat.le_trans h.size k.size, fun i hi hn => (k.block i (Nat.lt_of_lt_of_le hi h.size) fun hg => hn (hs i hi hg)).trans (h.block i hi hn)⟩
theorem Chg.mono (h : Chg F a b) (hs : ∀ i, i < a.heap.size → F i → G i) : Chg G a b := ⟨h.os, h.tape, h.output, h.size, fun i hi hn => h.block i hi fun hf => hn (hs i hi hf)⟩
theorem chg_below (F : Nat → Prop) (h : Below a.heap.size a b) : Chg F a b := ⟨h.os, h.tape, h.output, h.size, fun i hi _ => h.block i hi⟩
theorem chg_grown {row : Option Nat} (h : a.grownBy b row) : Chg (fun k => row = some k) a b := ⟨h.os, h.tape, h.output, h.size, fun i hi hn => h.block i hi fun e => hn e.symm⟩
theorem Chg.below {B : Nat} (h : Chg F a b) (hF : ∀ k, F k → B ≤ k) (hB : B ≤ a.heap.size) : Below B a b := ⟨h.os, h.tape, h.output, h.size, fun i hi => h.block i (by omega) fun hf => by have := hF i hf; omega⟩
theorem Chg.below' {B : Nat} (h : Chg F a b) (hF : ∀ k, k < B → ¬ F k) (hB : B ≤ a.heap.size) : Below B a b := ⟨h.os, h.tape, h.output, h.size, fun i hi => h.block i (by omega) (hF i hi)⟩
theorem Chg.drewN (h : Chg F a b) (n : Nat) : Chg F a (b.drewN n) := ⟨h.os, h.tape, h.output, h.size, h.block⟩
theorem Chg.ofDrew (h : Chg F a.drew b) : Chg F a b := ⟨h.os, h.tape, h.output, h.size, h.block⟩
theorem Chg.alloc (h : Chg F a b) (o : Obj) : Chg F a (b.alloc o) := h.trans (chg_below F (below1 b o)) fun _ _ h => h
theorem Chg.ofBelow (h : Chg F a b) {B : Nat} (k : Below B b c) (hB : a.heap.size ≤ B) : Chg F a c :=
  ⟨k.os.trans h.os, k.tape.trans h.tape, k.output.trans h.output, Nat.le_trans h.size k.size, fun i hi hn => (k.block i (by omega)).trans (h.block i hi hn)⟩
end

/-- An own row hangs on its own block alone. -/
theorem own_heap {w w' : World} {B : Nat} {e : TypeId} {size : Nat} {v : Value} {n : Nat} {xs : List Value} (h : w.ownsRow B e size v n xs) (hk : ∀ k, v.ownBlock = some k → w'.heap[k]? = w.heap[k]?) : w'.ownsRow B e size v n xs := by
  refine ⟨h.1, ?_⟩
  rcases h.2 with h1 | ⟨g, cap, cur, rfl, h2, h3, r⟩
  · exact .inl h1
  · exact .inr ⟨g, cap, cur, rfl, h2, (hk g rfl).trans h3, r⟩
theorem own_chg {F : Nat → Prop} {w w' : World} {B : Nat} {e : TypeId} {size : Nat} {v : Value} {n : Nat} {xs : List Value} (h : w.ownsRow B e size v n xs) (hc : Chg F w w') (hn : ∀ k, v.ownBlock = some k → ¬ F k) : w'.ownsRow B e size v n xs :=
  own_heap h fun k hk => hc.block k (h.lt k hk).2 (hn k hk)
theorem OwB.chg {F : Nat → Prop} {e : TypeId} {w w' : World} {B : Nat} {v : Value} {bs : List UInt8} (h : OwB e w B v bs) (hc : Chg F w w') (hn : ∀ k, v.ownBlock = some k → ¬ F k) : OwB e w' B v bs := ⟨own_chg h.1 hc hn, h.2⟩

/-- A row of cells with some set. -/
def spl (l : List Value) (o : Nat) (vs : List Value) : List Value := l.take o ++ vs ++ l.drop (o + vs.length)
theorem spl_mid {A X C vs : List Value} {o : Nat} (ho : A.length = o) (hx : X.length = vs.length) : spl (A ++ X ++ C) o vs = A ++ vs ++ C := by
  unfold spl
  subst ho
  have e1 : (A ++ X ++ C).take A.length = A := by rw [List.append_assoc, List.take_left]
  have e2 : (A ++ X ++ C).drop (A.length + vs.length) = C := by rw [← hx, ← List.length_append, List.drop_left]
  rw [e1, e2]
theorem spl_len {l vs : List Value} {o : Nat} (h : o + vs.length ≤ l.length) : (spl l o vs).length = l.length := by
  unfold spl; simp; omega

section
variable {P : Program}
theorem run_storeVar_blk (w : World) (b o : Nat) (ty : TypeId) (v : Value) (cur : List Value) (t : TypeId) (hb : w.heap[b]? = some (.cells cur.toArray t (0, 0))) (hi : (P.info? ty).map (·.size) = some v.cells.size)
    (ho : o + v.cells.size ≤ cur.length) (h1 : ∀ u ∈ v.cells.toList, u.oneCell' = true) : (storeVar ty ⟨b, o, none⟩ v).run P w = .ok () (w.setRow b (spl cur o v.cells.toList).toArray) := by
  have h := run_storeCells_at P b o t v.cells.toList 0 cur.toArray w hb (by simpa using ho) h1
  cases hq : P.info? ty with
  | none => simp [hq] at hi
  | some i =>
    have hs : v.cells.size = i.size := by simp [hq] at hi; omega
    simp only [Nat.add_zero] at h
    simp [storeVar, sizeOf, typeInfo, hq, hs, h, spl]
theorem wpList_store_blk {ops : Array Oper} {rest : List Oper} {op : Oper} {a : Act} {w : World} {Q : Exit → Act → World → Prop} (hgd : op.guard = none) (ty : TypeId) (x y : Operand) (ho : op.op = .store ty x y)
    (b o : Nat) (v : Value) (hx : a.eval x = .pointer (some ⟨b, o, none⟩)) (hy : a.eval y = v) (cur : List Value) (t : TypeId) (hb : w.heap[b]? = some (.cells cur.toArray t (0, 0)))
    (vs : List Value) (hvs : v.cells = vs.toArray) (n : Nat) (hn : vs.length = n) (hi : (P.info? ty).map (·.size) = some n) (hl : o + n ≤ cur.length) (h1 : ∀ u ∈ vs, u.oneCell' = true)
    (new : List Value) (hnew : spl cur o vs = new)
    (h : ∀ w', w'.heap[b]? = some (.cells new.toArray t (0, 0)) → w.grownBy w' (some b) → wpList P ops Q rest (a.put op.dst undef) w') : wpList P ops Q (op :: rest) a w := by
  subst hn hnew
  refine wpList_plain hgd fun K hK => ?_
  have hr := run_storeVar_blk (P := P) w b o ty v cur t hb (by rw [hi, hvs]; rfl) (by rw [hvs]; exact hl) (by rw [hvs]; exact h1)
  unfold Oper.wp execOp
  simp only [ho, hx, hy, Instr.storeAt, Instr.sureAddr, Sem.run_bind, Sem.run_pure, Result.andThen_ok, hr]
  refine hK _ _ (h _ ?_ ?_)
  · rw [hvs]; exact setRow_heap w b _ _ t (0, 0) hb
  · exact ⟨rfl, rfl, rfl, by simp, fun k _ hk => setRow_other w b k _ (fun e => hk (by rw [e]))⟩
theorem wpList_build_run {ops : Array Oper} {rest : List Oper} {op : Oper} {a : Act} {w : World} {Q : Exit → Act → World → Prop} (hgd : op.guard = none) (t : TypeId) (parts : Array (Nat × Operand)) (ho : op.op = .build t parts)
    (ps : Array (Nat × Value)) (hps : parts.map (fun (i, x) => (i, a.eval x)) = ps) (v : Value) (hr : (Instr.build t ps).run P w = .ok v w)
    (h : wpList P ops Q rest (a.put op.dst v) w) : wpList P ops Q (op :: rest) a w := by
  subst hps
  refine wpList_plain hgd fun K hK => ?_
  unfold Oper.wp execOp
  simp only [ho, Sem.run_bind, Sem.run_pure, Result.andThen_ok, hr]
  exact hK _ _ h
end
end Go.Proofs.YtoomdgidpplpfaaDoor
end
section
namespace Go.Proofs.YtoomdgidpplpfaaDoor
open Go.RowKit

def dcells (S N : List UInt8) (pv : Value) (f : Bool) : List Value := S.map bv ++ N.map bv ++ ([pv, Value.bool f] : List Value)
def wcell (p : Nat × List UInt8) : List Value := Value.int .i64 (p.1 : Int) :: p.2.map bv
def wcells (ps : List (Nat × List UInt8)) : List Value := ps.flatMap wcell
/-- The disk D lies at block b; its pending writes are the own row pv. -/
structure DskAt (w : World) (B b : Nat) (pv : Value) (D : Dsk) : Prop where
  blk : w.heap[b]? = some (.cells (dcells D.S D.now pv D.f).toArray 89 (0, 0))
  own : w.ownsRow B 100 33 pv D.ps.length (wcells D.ps)
  le : B ≤ b
  ne : pv.ownBlock ≠ some b
  ok : D.Ok
/-- The blocks of a disk. -/
def DF (b : Nat) (pv : Value) (k : Nat) : Prop := k = b ∨ pv.ownBlock = some k
/-- Its pending writes lie where they lay, or in new memory. -/
def NewOr (w : World) (pv pv' : Value) : Prop := ∀ k, pv'.ownBlock = some k → pv.ownBlock = some k ∨ w.heap.size ≤ k
section
variable {w w' : World} {B b : Nat} {pv : Value} {D : Dsk}
theorem DskAt.lt (h : DskAt w B b pv D) : b < w.heap.size := (Array.getElem?_eq_some_iff.1 h.blk).1
theorem DskAt.plt (h : DskAt w B b pv D) : ∀ k, pv.ownBlock = some k → B ≤ k ∧ k < w.heap.size := h.own.lt
theorem DskAt.heap (h : DskAt w B b pv D) (hb : w'.heap[b]? = w.heap[b]?) (hp : ∀ k, pv.ownBlock = some k → w'.heap[k]? = w.heap[k]?) : DskAt w' B b pv D :=
  ⟨hb.trans h.blk, own_heap h.own hp, h.le, h.ne, h.ok⟩
theorem DskAt.chg {F : Nat → Prop} (h : DskAt w B b pv D) (hc : Chg F w w') (hb : ¬ F b) (hp : ∀ k, pv.ownBlock = some k → ¬ F k) : DskAt w' B b pv D :=
  h.heap (hc.block b h.lt hb) fun k hk => hc.block k (h.plt k hk).2 (hp k hk)
theorem DskAt.below (h : DskAt w B b pv D) (hc : Below w.heap.size w w') : DskAt w' B b pv D :=
  h.heap (hc.block b h.lt) fun k hk => hc.block k (h.plt k hk).2
theorem DskAt.mono {B' : Nat} (h : DskAt w B b pv D) (hB : B' ≤ B) : DskAt w B' b pv D :=
  ⟨h.blk, by
    refine ⟨h.own.1, ?_⟩
    rcases h.own.2 with h1 | ⟨g, cap, cur, h1, h2, r⟩
    · exact .inl h1
    · exact .inr ⟨g, cap, cur, h1, by omega, r⟩, by have := h.le; omega, h.ne, h.ok⟩
theorem DskAt.drewN (h : DskAt w B b pv D) (n : Nat) : DskAt (w.drewN n) B b pv D := ⟨h.blk, h.own, h.le, h.ne, h.ok⟩
theorem DF.le (h : DskAt w B b pv D) {k : Nat} (hk : DF b pv k) : B ≤ k := by
  rcases hk with rfl | hk
  · exact h.le
  · exact (h.plt k hk).1
theorem DF.new {pv' : Value} (hn : NewOr w pv pv') {k : Nat} (hk : DF b pv' k) (hlt : k < w.heap.size) : DF b pv k := by
  rcases hk with h | h
  · exact .inl h
  · rcases hn k h with h1 | h1
    · exact .inr h1
    · omega
theorem NewOr.refl (w : World) (pv : Value) : NewOr w pv pv := fun _ h => .inl h
theorem NewOr.none (w : World) (pv : Value) : NewOr w pv (.slice none 0 0) := fun _ h => by simp [Value.ownBlock] at h

theorem dcells_len {S N : List UInt8} (hS : S.length = 1664) (hN : N.length = 1664) (pv : Value) (f : Bool) : (dcells S N pv f).length = 3330 := by
  unfold dcells; simp [hS, hN]
theorem wcell_len {p : Nat × List UInt8} (h : p.2.length = 32) : (wcell p).length = 33 := by unfold wcell; simp [h]
theorem wcells_snoc (ps : List (Nat × List UInt8)) (p : Nat × List UInt8) : wcells (ps ++ [p]) = wcells ps ++ wcell p := by unfold wcells; simp
theorem dcells_pv {S N : List UInt8} (hS : S.length = 1664) (hN : N.length = 1664) (pv : Value) (f : Bool) : (dcells S N pv f)[3328]? = some pv := by
  unfold dcells
  rw [List.getElem?_append_right (by simp [hS, hN])]
  simp [hS, hN]
theorem dcells_f {S N : List UInt8} (hS : S.length = 1664) (hN : N.length = 1664) (pv : Value) (f : Bool) : (dcells S N pv f)[3329]? = some (.bool f) := by
  unfold dcells
  rw [List.getElem?_append_right (by simp [hS, hN])]
  simp [hS, hN]
theorem dcells_S {S N : List UInt8} (pv : Value) (f : Bool) {i : Nat} (hi : i < S.length) : (dcells S N pv f)[i]? = S[i]?.map bv := by
  unfold dcells
  rw [List.append_assoc, List.getElem?_append_left (by simpa using hi), List.getElem?_map]
theorem dcells_N {S N : List UInt8} (hS : S.length = 1664) (pv : Value) (f : Bool) {i : Nat} (hi : i < N.length) : (dcells S N pv f)[1664 + i]? = N[i]?.map bv := by
  unfold dcells
  rw [List.append_assoc, List.getElem?_append_right (by simp [hS]), List.getElem?_append_left (by simp [hS]; omega)]
  simp [hS]
section
variable {S N : List UInt8} {f : Bool} {t : TypeId}
theorem cell_dpv (hb : w.heap[b]? = some (.cells (dcells S N pv f).toArray t (0, 0))) (hS : S.length = 1664) (hN : N.length = 1664) : w.cell? ⟨b, 3328, none⟩ = some pv := by
  rw [cell_of_row w b _ _ t (0, 0) hb, List.getElem?_toArray]; exact dcells_pv hS hN pv f
theorem cell_df (hb : w.heap[b]? = some (.cells (dcells S N pv f).toArray t (0, 0))) (hS : S.length = 1664) (hN : N.length = 1664) : w.cell? ⟨b, 3329, none⟩ = some (.bool f) := by
  rw [cell_of_row w b _ _ t (0, 0) hb, List.getElem?_toArray]; exact dcells_f hS hN pv f
theorem range_S (hb : w.heap[b]? = some (.cells (dcells S N pv f).toArray t (0, 0))) : w.rangeAt b 0 (S.map bv) := fun j v hj => by
  have hl : j < S.length := by have := (List.getElem?_eq_some_iff.1 hj).1; simpa using this
  rw [cell_of_row w b _ _ t (0, 0) hb, List.getElem?_toArray, Nat.zero_add, dcells_S pv f hl, ← hj, List.getElem?_map]
theorem range_N (hb : w.heap[b]? = some (.cells (dcells S N pv f).toArray t (0, 0))) (hS : S.length = 1664) : w.rangeAt b 1664 (N.map bv) := fun j v hj => by
  have hl : j < N.length := by have := (List.getElem?_eq_some_iff.1 hj).1; simpa using this
  rw [cell_of_row w b _ _ t (0, 0) hb, List.getElem?_toArray, dcells_N hS pv f hl, ← hj, List.getElem?_map]
theorem range_sec {L : List UInt8} {o k : Nat} (h : w.rangeAt b o (L.map bv)) : w.rangeAt b (o + k * 32) ((secAt L k).map bv) := fun j v hj => by
  rw [List.getElem?_map, secAt_get] at hj
  split at hj
  · rw [Nat.add_assoc]
    exact h (k * 32 + j) v (by rw [List.getElem?_map]; exact hj)
  · cases hj
theorem spl_S {S' : List UInt8} (hl : S'.length = S.length) : spl (dcells S N pv f) 0 (S'.map bv) = dcells S' N pv f := by
  unfold dcells
  rw [List.append_assoc, List.append_assoc]
  exact spl_mid (A := []) (X := S.map bv) (C := N.map bv ++ [pv, Value.bool f]) (vs := S'.map bv) (o := 0) rfl (by simp [hl])
theorem spl_N {N' : List UInt8} (hS : S.length = 1664) (hl : N'.length = N.length) : spl (dcells S N pv f) 1664 (N'.map bv) = dcells S N' pv f := by
  unfold dcells
  rw [spl_mid (by simp [hS]) (by simp [hl])]
theorem spl_pv {pv' : Value} (hS : S.length = 1664) (hN : N.length = 1664) : spl (dcells S N pv f) 3328 [pv'] = dcells S N pv' f := by
  unfold dcells
  rw [show (S.map bv ++ N.map bv ++ [pv, Value.bool f]) = S.map bv ++ N.map bv ++ [pv] ++ [Value.bool f] by simp]
  exact (spl_mid (A := S.map bv ++ N.map bv) (X := [pv]) (C := [Value.bool f]) (vs := [pv']) (o := 3328) (by simp [hS, hN]) rfl).trans (by simp)
theorem map_put {L x : List UInt8} {k : Nat} : (putAt L k x).map bv = (L.take (k * 32)).map bv ++ x.map bv ++ (L.drop (k * 32 + 32)).map bv := by unfold putAt; simp
theorem map_sec {L : List UInt8} {k : Nat} : L.map bv = (L.take (k * 32)).map bv ++ (secAt L k).map bv ++ (L.drop (k * 32 + 32)).map bv := by
  rw [← map_put, put_sec]
theorem spl_Ssec {x : List UInt8} {k : Nat} (hS : S.length = 1664) (hk : k < 52) (hx : x.length = 32) : spl (dcells S N pv f) (k * 32) (x.map bv) = dcells (putAt S k x) N pv f := by
  have hs : (secAt S k).length = 32 := secAt_len (by omega)
  unfold dcells
  rw [map_put, map_sec (L := S) (k := k)]
  generalize hT : (S.drop (k * 32 + 32)).map bv = T
  rw [List.append_assoc (_ ++ _) T, List.append_assoc (_ ++ _) (T ++ _), List.append_assoc (_ ++ _) T, List.append_assoc (_ ++ _) (T ++ _)]
  exact spl_mid (by rw [List.length_map, List.length_take]; omega) (by simp [hs, hx])
theorem spl_Nsec {x : List UInt8} {k : Nat} (hS : S.length = 1664) (hN : N.length = 1664) (hk : k < 52) (hx : x.length = 32) : spl (dcells S N pv f) (1664 + k * 32) (x.map bv) = dcells S (putAt N k x) pv f := by
  have hs : (secAt N k).length = 32 := secAt_len (by omega)
  unfold dcells
  rw [map_put, map_sec (L := N) (k := k)]
  generalize hT : (N.drop (k * 32 + 32)).map bv = T
  generalize hT2 : (N.take (k * 32)).map bv = T2
  have e : ∀ X : List Value, S.map bv ++ (T2 ++ X ++ T) ++ [pv, Value.bool f] = (S.map bv ++ T2) ++ X ++ (T ++ [pv, Value.bool f]) := fun X => by simp
  rw [e, e]
  exact spl_mid (by rw [List.length_append, List.length_map, ← hT2, List.length_map, List.length_take]; omega) (by simp [hs, hx])
end
end
theorem info_dsk : (Tryd.prog.info? 89).map (fun i => (i.zero, i.size)) = some (some (.agg (dcells (List.replicate 1664 0) (List.replicate 1664 0) (.slice none 0 0) false).toArray), 3330) := by kernel_rfl
theorem size_arr : (Tryd.prog.info? 86).map (·.size) = some 1664 := by kernel_rfl
theorem size_sec : (Tryd.prog.info? 85).map (·.size) = some 32 := by kernel_rfl
theorem size_pend : (Tryd.prog.info? 87).map (·.size) = some 1 := by kernel_rfl
theorem size_dsk : (Tryd.prog.info? 89).map (·.size) = some 3330 := by kernel_rfl
theorem build_new (w : World) : (Instr.build 89 #[]).run Tryd.prog w = .ok (.agg (dcells (List.replicate 1664 0) (List.replicate 1664 0) (.slice none 0 0) false).toArray) w := by kernel_rfl
theorem build_failed (w : World) : (Instr.build 89 #[(3, .bool true)]).run Tryd.prog w = .ok (.agg (dcells (List.replicate 1664 0) (List.replicate 1664 0) (.slice none 0 0) true).toArray) w := by kernel_rfl
end Go.Proofs.YtoomdgidpplpfaaDoor
end
section
namespace Go.Proofs.YtoomdgidpplpfaaDoor
open Go.RowKit

theorem new_at (w : World) : DskAt (w.alloc (.cells (dcells (List.replicate 1664 0) (List.replicate 1664 0) (.slice none 0 0) false).toArray 89)) w.heap.size w.heap.size (.slice none 0 0) Dsk.new :=
  ⟨heap_alloc_new _ _, World.ownsRow_nil _ _ _ _, Nat.le_refl _, by simp [Value.ownBlock], Dsk.new_ok⟩
theorem dsk_new_any (w : World) : Calls Tryd.prog 27 #[] w fun e w' => e = .returned (.pointer (some ⟨w.heap.size, 0, none⟩)) ∧ DskAt w' w.heap.size w.heap.size (.slice none 0 0) Dsk.new ∧ Below w.heap.size w w' := by
  have H := Lib.hid (new_at w)
  have hbuild := build_new
  generalize hC : dcells (List.replicate 1664 0) (List.replicate 1664 0) (.slice none 0 0) false = C at H hbuild
  clear hC
  go_enter Tryd.func27, Tryd.ntmps27
  go_wp2_with ((refine wpList_build_run rfl 89 #[] (by rfl) #[] (by simp) (.agg C.toArray) (hbuild _) ?_))
  go_ret
  exact ⟨rfl, H.out, below1 _ _⟩
section
variable (B b : Nat) (pv : Value) (D : Dsk) (w : World) (h : DskAt w B b pv D)
include h
theorem dsk_failed_any : Calls Tryd.prog 43 #[.pointer (some ⟨b, 0, none⟩)] w fun e w' => e = .returned (.bool D.f) ∧ w' = w := by
  have hc := cell_df h.blk h.ok.S h.ok.now
  clear h
  go_enter Tryd.func43, Tryd.ntmps43
  go_wp2
  go_ret
  exact ⟨rfl, rfl⟩
theorem dsk_pending_any : Calls Tryd.prog 40 #[.pointer (some ⟨b, 0, none⟩)] w fun e w' => e = .returned (.int .i64 (D.ps.length : Int)) ∧ w' = w := by
  have hc := cell_dpv h.blk h.ok.S h.ok.now
  have hv : ∃ A c, pv = .slice A D.ps.length c := by
    rcases h.own.2 with ⟨h1, h2⟩ | ⟨g, cap, cur, h1, _⟩
    · exact ⟨none, 0, by rw [h2]; exact h1⟩
    · exact ⟨_, _, h1⟩
  obtain ⟨A, c, rfl⟩ := hv
  clear h
  go_enter Tryd.func40, Tryd.ntmps40
  go_wp2
  go_ret
  exact ⟨rfl, rfl⟩
/-- The error of a call on sector k. -/
def reachE (f : Bool) (k : Int) : Int := if f = true then 5 else if k < 0 ∨ 52 ≤ k then 4 else 0
theorem dsk_reach_any (k : Int) (hk : -9223372036854775808 ≤ k ∧ k ≤ 9223372036854775807) : Calls Tryd.prog 57 #[.pointer (some ⟨b, 0, none⟩), .int .i64 k] w fun e w' => e = .returned (.int .i64 (reachE D.f k)) ∧ w' = w := by
  have hc := cell_df h.blk h.ok.S h.ok.now
  have HE : Hid (reachE D.f k = if D.f = true then 5 else if k < 0 ∨ 52 ≤ k then 4 else 0) := rfl
  clear h
  generalize D.f = f at hc HE ⊢
  generalize reachE f k = E at HE ⊢
  cases f
  · by_cases h1 : k < 0
    · have HE2 := Lib.hid (show E = 4 by rw [HE.out, if_neg (by simp), if_pos (.inl h1)])
      clear HE
      go_enter Tryd.func57, Tryd.ntmps57
      go_wp2
      go_ret
      exact ⟨by rw [HE2.out]; rfl, rfl⟩
    · by_cases h2 : 52 ≤ k
      · have HE2 := Lib.hid (show E = 4 by rw [HE.out, if_neg (by simp), if_pos (.inr h2)])
        clear HE
        go_enter Tryd.func57, Tryd.ntmps57
        go_wp2
        go_ret
        exact ⟨by rw [HE2.out]; rfl, rfl⟩
      · have HE2 := Lib.hid (show E = 0 by rw [HE.out, if_neg (by simp), if_neg (by omega)])
        clear HE
        go_enter Tryd.func57, Tryd.ntmps57
        go_wp2
        go_ret
        exact ⟨by rw [HE2.out]; rfl, rfl⟩
  · have HE2 := Lib.hid (show E = 5 by rw [HE.out, if_pos rfl])
    clear HE
    go_enter Tryd.func57, Tryd.ntmps57
    go_wp2
    go_ret
    exact ⟨by rw [HE2.out]; rfl, rfl⟩
/-- The error of a call that sets sector k to n bytes. -/
def takeE (f : Bool) (k : Int) (n : Nat) : Int := if reachE f k ≠ 0 then reachE f k else if n ≠ 32 then 1 else 0
theorem dsk_take_any (k : Int) (A : Option Addr) (n c : Nat) (hk : -9223372036854775808 ≤ k ∧ k ≤ 9223372036854775807) (hn : n ≤ 140737488355328) :
    Calls Tryd.prog 54 #[.pointer (some ⟨b, 0, none⟩), .int .i64 k, .slice A n c] w fun e w' => e = .returned (.int .i64 (takeE D.f k n)) ∧ w' = w := by
  have C := Lib.hid (dsk_reach_any B b pv D w h k hk)
  have HE : Hid (takeE D.f k n = if reachE D.f k ≠ 0 then reachE D.f k else if n ≠ 32 then 1 else 0) := rfl
  clear h
  generalize takeE D.f k n = E at HE ⊢
  generalize reachE D.f k = R at HE C
  by_cases h1 : R = 0
  · subst h1
    by_cases h2 : n = 32
    · have HE2 := Lib.hid (show E = 0 by rw [HE.out, if_neg (by simp), if_neg (by simp [h2])])
      have e2 : ((n : Int) != 32) = false := by subst h2; rfl
      clear HE h2
      go_enter Tryd.func54, Tryd.ntmps54
      go_wp2_with fail
      refine C.out.mono ?_
      rintro e w' ⟨rfl, rfl⟩
      go_wp2
      go_ret
      exact ⟨by rw [HE2.out]; rfl, rfl⟩
    · have HE2 := Lib.hid (show E = 1 by rw [HE.out, if_neg (by simp), if_pos h2])
      have e2 : ((n : Int) != 32) = true := by rw [bne_iff_ne]; omega
      clear HE h2
      go_enter Tryd.func54, Tryd.ntmps54
      go_wp2_with fail
      refine C.out.mono ?_
      rintro e w' ⟨rfl, rfl⟩
      go_wp2
      go_ret
      exact ⟨by rw [HE2.out]; rfl, rfl⟩
  · have HE2 := Lib.hid (show E = R by rw [HE.out, if_pos h1])
    have e2 : (R != 0) = true := by rw [bne_iff_ne]; exact h1
    clear HE h1
    go_enter Tryd.func54, Tryd.ntmps54
    go_wp2_with fail
    refine C.out.mono ?_
    rintro e w' ⟨rfl, rfl⟩
    go_wp2
    go_ret
    exact ⟨by rw [HE2.out]; rfl, rfl⟩
end
end Go.Proofs.YtoomdgidpplpfaaDoor
end
