/- Texts put together: Mem, OpsKit, DskMath, Own, Take, Bools, Within0, GfMath, Gf, SyndMath, Law, CrcMath, CrcFind, Feed, Sub. -/
import Derived.WalkKit
import Derived.Lib.Hide
import Derived.Lib.SlBytesConst
import Derived.Deep.OwnRows
import Derived.Deep.DeepCutAuto
import Derived.Deep.RegionHeld3
import Derived.Deep.QuietTactic
import Derived.BigQuiet
import Derived.Handy
import Derived.Deep.Light
import Derived.Lib.ItoaWalk
import Derived.Test.YtjnemopocmhfkaaDoorProg
import Derived.Maps.AppendAt
import Derived.Laws.AppendOwnNone
import Derived.Deep.AppendLies
import Derived.Laws.CopyOwn
import Derived.StillTail
import Derived.OrdersHeld
import Derived.Deep.MidRow
import Derived.Laws.BitsAllLaws
import Derived.Deep.DeepFit
import Derived.ProofKit
import Derived.OpenShut
import Derived.Carry
import Derived.SizedLaws
import GoSem.ClaimSeven
import Derived.Deep.DeepHandedRow
import Derived.Lib.LaidTab
import Derived.Deep.LoopGhost
import Derived.Deep.CutBlock
section
namespace Go.Proofs.YtjnemopocmhfkaaDoor
open Go.RowKit

theorem hp_new (w : World) (o : Obj) (g : Nat) (h : g = w.heap.size) : (w.alloc o).heap[g]? = some o := by subst h; exact heap_alloc_new _ _
theorem hp_old (w : World) (o : Obj) (g : Nat) (h : g < w.heap.size) : (w.alloc o).heap[g]? = w.heap[g]? := heap_alloc_old w o h
theorem belowN (B : Nat) (w : World) (n : Nat) : Below B w (w.drewN n) := ⟨rfl, rfl, rfl, Nat.le_refl _, fun _ _ => rfl⟩
theorem below1 (w : World) (o : Obj) : Below w.heap.size w (w.alloc o) := (Below.refl _ _).alloc (Nat.le_refl _) o
theorem below2 (w : World) (o o' : Obj) : Below w.heap.size w ((w.alloc o).alloc o') := (below1 w o).alloc (by simp) o'
/-- A byte as a value. -/
def bv (b : UInt8) : Value := .int .u8 (b.toNat : Int)

/-- The slice's address and length read as these bytes; its cells lie below block B. -/
def RdB (w : World) (B : Nat) (A : Option Addr) (bs : List UInt8) : Prop :=
  bs.length ≤ 140737488355328 ∧ (0 < bs.length → ∃ b off, A = some ⟨b, off, none⟩ ∧ b < B ∧ ∀ k, k < bs.length → w.cell? ⟨b, off + k, none⟩ = some (.int .u8 ((bs.getD k 0).toNat : Int)))

/-- The slice of slices reads as these rows. -/
def RdR (w : World) (B : Nat) (A : Option Addr) (rs : List (List UInt8)) : Prop :=
  rs.length ≤ 140737488355328 ∧ (0 < rs.length → ∃ b off, A = some ⟨b, off, none⟩ ∧ b < B ∧ ∀ k, k < rs.length → ∃ A' c, w.cell? ⟨b, off + k, none⟩ = some (.slice A' (rs.getD k []).length c) ∧ RdB w B A' (rs.getD k []))

theorem RdB.keep {w w' : World} {B B' : Nat} {A : Option Addr} {bs : List UInt8} (h : RdB w B A bs) (hB : B ≤ B') (hk : ∀ p : Addr, p.block < B → w'.cell? p = w.cell? p) : RdB w' B' A bs :=
  ⟨h.1, fun hn => by
    obtain ⟨b, off, e, hb, hc⟩ := h.2 hn
    exact ⟨b, off, e, by omega, fun k hk' => (hk ⟨b, off + k, none⟩ hb).trans (hc k hk')⟩⟩
theorem RdR.keep {w w' : World} {B B' : Nat} {A : Option Addr} {rs : List (List UInt8)} (h : RdR w B A rs) (hB : B ≤ B') (hk : ∀ p : Addr, p.block < B → w'.cell? p = w.cell? p) : RdR w' B' A rs :=
  ⟨h.1, fun hn => by
    obtain ⟨b, off, e, hb, hc⟩ := h.2 hn
    refine ⟨b, off, e, by omega, fun k hk' => ?_⟩
    obtain ⟨A', c, h1, h2⟩ := hc k hk'
    exact ⟨A', c, (hk ⟨b, off + k, none⟩ hb).trans h1, h2.keep hB hk⟩⟩
theorem RdB.below {w w' : World} {B B' : Nat} {A : Option Addr} {bs : List UInt8} (h : RdB w B A bs) (hb : Below B' w w') (hB : B ≤ B') : RdB w' B A bs := h.keep (Nat.le_refl _) fun p hp => hb.cell (by omega)
theorem RdR.below {w w' : World} {B B' : Nat} {A : Option Addr} {rs : List (List UInt8)} (h : RdR w B A rs) (hb : Below B' w w') (hB : B ≤ B') : RdR w' B A rs := h.keep (Nat.le_refl _) fun p hp => hb.cell (by omega)
theorem RdB.more {w : World} {B B' : Nat} {A : Option Addr} {bs : List UInt8} (h : RdB w B A bs) (hB : B ≤ B') : RdB w B' A bs := h.keep hB fun _ _ => rfl
theorem RdR.more {w : World} {B B' : Nat} {A : Option Addr} {rs : List (List UInt8)} (h : RdR w B A rs) (hB : B ≤ B') : RdR w B' A rs := h.keep hB fun _ _ => rfl
theorem RdB.nil (w : World) (B : Nat) (A : Option Addr) : RdB w B A [] := ⟨by simp, fun h => by simp at h⟩
/-- A new block that holds slices: a row of rows. -/
theorem rdr_cells {w : World} {g : Nat} {cs : Array Value} {t : TypeId} {f : Nat × Nat} {rs : List (List UInt8)} {B : Nat} (hg : w.heap[g]? = some (.cells cs t f)) (hB : g < B) (hl : rs.length ≤ 140737488355328)
    (h : ∀ k, k < rs.length → ∃ A c, cs[k]? = some (.slice A (rs.getD k []).length c) ∧ RdB w B A (rs.getD k [])) : RdR w B (some ⟨g, 0, none⟩) rs :=
  ⟨hl, fun _ => ⟨g, 0, rfl, hB, fun k hk => by
    obtain ⟨A, c, h1, h2⟩ := h k hk
    exact ⟨A, c, by rw [Nat.zero_add, cell_of_row w g k cs t f hg]; exact h1, h2⟩⟩⟩
/-- A new block of bytes, read whole. -/
theorem rdb_block {w : World} {g : Nat} {cs : Array Value} {t : TypeId} {f : Nat × Nat} {bs : List UInt8} {B : Nat} (hg : w.heap[g]? = some (.cells cs t f)) (hB : g < B) (hl : bs.length ≤ 140737488355328)
    (h : ∀ k, k < bs.length → cs[k]? = some (.int .u8 ((bs.getD k 0).toNat : Int))) : RdB w B (some ⟨g, 0, none⟩) bs :=
  ⟨hl, fun _ => ⟨g, 0, rfl, hB, fun k hk => by rw [Nat.zero_add, cell_of_row w g k cs t f hg]; exact h k hk⟩⟩
/-- A slice cut: s[:k], s[k:]. -/
theorem RdB.take {w : World} {B : Nat} {A : Option Addr} {bs : List UInt8} (h : RdB w B A bs) (k : Nat) : RdB w B A (bs.take k) :=
  ⟨by have := h.1; simp; omega, fun hn => by
    have hn' : 0 < bs.length := by simp at hn; omega
    obtain ⟨b, off, e, hb, hc⟩ := h.2 hn'
    refine ⟨b, off, e, hb, fun j hj => ?_⟩
    have hj' : j < k ∧ j < bs.length := by simp at hj; omega
    rw [hc j hj'.2]
    simp [hj'.1]⟩
/-- n zero bytes as cells. -/
def zcells (n : Nat) : Array Value := madeCells #[.int .u8 0] n
theorem zcells_size (n : Nat) : (zcells n).size = n := size_madeCells _ _
end Go.Proofs.YtjnemopocmhfkaaDoor
end
section
namespace Go.Proofs.YtjnemopocmhfkaaDoor
open Go.RowKit

theorem conv_const (w : World) (B : Nat) (C : Array Value) (n c : Nat) (hB : B = w.heap.size) :
    (convert 48 48 (.slice (some ⟨B, 0, none⟩) n c)).run Tryd.prog (w.alloc (.cells C 5)) = .ok (.slice (some ⟨B, 0, none⟩) n c) (w.alloc (.cells C 5 (C.size, C.size + 1))) := by
  subst hB; exact Lib.run_convert_bytes_const (P := Tryd.prog) w 48 5 C n c Tryd.underlying48 Tryd.underlying5
theorem info_u8 : (Tryd.prog.info? 5).map (fun i => (i.zero, i.size, i.bytes)) = some (some (.int .u8 0), 1, 1) := by kernel_rfl
theorem make_bytes (n : Nat) (hn : n ≤ 140737488355328) (w : World) :
    (Instr.makeSlice 48 (.int .i64 (n : Int)) (.int .i64 (n : Int))).run Tryd.prog w = .ok (.slice (some ⟨w.heap.size, 0, none⟩) n n) (w.alloc (.cells (zcells n) 5)) :=
  run_make_row' _ _ _ 1 Tryd.underlying48 info_u8 rfl _ _ n (by omega) (by omega) w
end Go.Proofs.YtjnemopocmhfkaaDoor
end
section
namespace Go.Proofs.YtjnemopocmhfkaaDoor

/-- Sector k of all bytes. -/
def secAt (L : List UInt8) (k : Nat) : List UInt8 := (L.drop (k * 32)).take 32
/-- All bytes with sector k set. -/
def putAt (L : List UInt8) (k : Nat) (x : List UInt8) : List UInt8 := L.take (k * 32) ++ x ++ L.drop (k * 32 + 32)
theorem putAt_get {L x : List UInt8} {k : Nat} (hL : k * 32 + 32 ≤ L.length) (hx : x.length = 32) (i : Nat) : (putAt L k x)[i]? = if i < k * 32 then L[i]? else if i < k * 32 + 32 then x[i - k * 32]? else L[i]? := by
  have h1 : (L.take (k * 32)).length = k * 32 := by rw [List.length_take]; omega
  unfold putAt
  by_cases c : i < k * 32
  · rw [if_pos c, List.append_assoc, List.getElem?_append_left (by omega), List.getElem?_take, if_pos c]
  · rw [if_neg c]
    by_cases c2 : i < k * 32 + 32
    · rw [if_pos c2, List.append_assoc, List.getElem?_append_right (by omega), h1, List.getElem?_append_left (by omega)]
    · rw [if_neg c2, List.getElem?_append_right (by rw [List.length_append]; omega), List.length_append, h1, hx, List.getElem?_drop]
      congr 1
      omega
theorem putAt_len {L x : List UInt8} {k n : Nat} (hL : L.length = n) (hk : k * 32 + 32 ≤ n) (hx : x.length = 32) : (putAt L k x).length = n := by
  unfold putAt; simp; omega
theorem secAt_len {L : List UInt8} {k : Nat} (hL : k * 32 + 32 ≤ L.length) : (secAt L k).length = 32 := by unfold secAt; simp; omega
theorem secAt_get (L : List UInt8) (k i : Nat) : (secAt L k)[i]? = if i < 32 then L[k * 32 + i]? else none := by
  unfold secAt
  rw [List.getElem?_take]
  split
  · rw [List.getElem?_drop]
  · rfl
theorem sec_put_same {L x : List UInt8} {k : Nat} (hl : L.length = 1664) (hk : k < 52) (hx : x.length = 32) : secAt (putAt L k x) k = x := by
  have hL : k * 32 + 32 ≤ L.length := by omega
  apply List.ext_getElem?
  intro i
  rw [secAt_get]
  split
  · rw [putAt_get hL hx, if_neg (by omega), if_pos (by omega)]
    congr 1
    omega
  · rw [List.getElem?_eq_none (by omega)]
theorem sec_put_other {L x : List UInt8} {k j : Nat} (hl : L.length = 1664) (hk : k < 52) (hx : x.length = 32) (hne : j ≠ k) : secAt (putAt L k x) j = secAt L j := by
  have hL : k * 32 + 32 ≤ L.length := by omega
  apply List.ext_getElem?
  intro i
  rw [secAt_get, secAt_get]
  split
  · rw [putAt_get hL hx]
    by_cases c : j * 32 + i < k * 32
    · rw [if_pos c]
    · rw [if_neg c, if_neg (by omega)]
  · rfl
theorem put_sec {L : List UInt8} {k : Nat} : putAt L k (secAt L k) = L := by
  unfold putAt secAt
  rw [List.append_assoc, ← List.drop_drop, List.take_append_drop, List.take_append_drop]
/-- All bytes with these writes done, in order. -/
def nowOf (S : List UInt8) (ps : List (Nat × List UInt8)) : List UInt8 := ps.foldl (fun L p => putAt L p.1 p.2) S
def WOk (ps : List (Nat × List UInt8)) : Prop := ∀ p ∈ ps, p.1 < 52 ∧ p.2.length = 32
theorem WOk.nil : WOk [] := fun _ h => by cases h
theorem WOk.cons {p : Nat × List UInt8} {ps : List (Nat × List UInt8)} (h : WOk (p :: ps)) : WOk ps := fun q hq => h q (List.mem_cons_of_mem _ hq)
theorem WOk.snoc {ps : List (Nat × List UInt8)} (h : WOk ps) {k : Nat} {x : List UInt8} (hk : k < 52) (hx : x.length = 32) : WOk (ps ++ [(k, x)]) := fun q hq => by
  rcases List.mem_append.1 hq with h1 | h1
  · exact h q h1
  · obtain rfl := List.mem_singleton.1 h1; exact ⟨hk, hx⟩
theorem nowOf_len : ∀ {ps : List (Nat × List UInt8)} {S : List UInt8}, S.length = 1664 → WOk ps → (nowOf S ps).length = 1664
  | [], _, hS, _ => hS
  | p :: ps, S, hS, h => by
    have h1 := h p (List.mem_cons_self ..)
    show (nowOf (putAt S p.1 p.2) ps).length = 1664
    exact nowOf_len (putAt_len hS (by omega) h1.2) h.cons
theorem nowOf_snoc (S : List UInt8) (ps : List (Nat × List UInt8)) (k : Nat) (x : List UInt8) : nowOf S (ps ++ [(k, x)]) = putAt (nowOf S ps) k x := by
  unfold nowOf; rw [List.foldl_append]; rfl
/-- All bytes 0. -/
def zeroS : List UInt8 := List.replicate 1664 0
theorem zeroS_len : zeroS.length = 1664 := List.length_replicate ..
/-- A disk. -/
structure Dsk where
  S : List UInt8
  ps : List (Nat × List UInt8)
  f : Bool
namespace Dsk
def now (D : Dsk) : List UInt8 := nowOf D.S D.ps
def new : Dsk := ⟨zeroS, [], false⟩
def write (D : Dsk) (k : Nat) (x : List UInt8) : Dsk := ⟨D.S, D.ps ++ [(k, x)], D.f⟩
def flush (D : Dsk) : Dsk := ⟨D.now, [], D.f⟩
structure Ok (D : Dsk) : Prop where
  S : D.S.length = 1664
  ps : WOk D.ps
theorem Ok.now {D : Dsk} (h : D.Ok) : D.now.length = 1664 := nowOf_len h.S h.ps
theorem new_ok : Dsk.new.Ok := ⟨zeroS_len, WOk.nil⟩
theorem Ok.write {D : Dsk} (h : D.Ok) {k : Nat} {x : List UInt8} (hk : k < 52) (hx : x.length = 32) : (D.write k x).Ok := ⟨h.S, h.ps.snoc hk hx⟩
theorem Ok.flush {D : Dsk} (h : D.Ok) : D.flush.Ok := ⟨h.now, WOk.nil⟩
theorem write_now (D : Dsk) (k : Nat) (x : List UInt8) : (D.write k x).now = putAt D.now k x := nowOf_snoc _ _ _ _
theorem flush_now (D : Dsk) : D.flush.now = D.now := rfl
end Dsk
end Go.Proofs.YtjnemopocmhfkaaDoor
end
section
namespace Go.Proofs.YtjnemopocmhfkaaDoor
open Go.RowKit

theorem map_bv_one {bs : List UInt8} : ∀ u ∈ bs.map bv, u.oneCell' = true := fun u hu => by
  obtain ⟨b, _, rfl⟩ := List.mem_map.1 hu
  rfl
/-- The slice value v owns these bytes, in a block from B on. -/
def OwB (e : TypeId) (w : World) (B : Nat) (v : Value) (bs : List UInt8) : Prop := w.ownsRow B e 1 v bs.length (bs.map bv) ∧ bs.length ≤ 140737488355328

section
variable {e : TypeId} {w w' : World} {B B' : Nat} {v : Value} {bs : List UInt8}
theorem OwB.nil (e : TypeId) (w : World) (B : Nat) : OwB e w B (.slice none 0 0) [] := ⟨World.ownsRow_nil _ _ _ _, by simp⟩
/-- What an own slice is: nil and empty, or a row of its own block. -/
theorem OwB.form (h : OwB e w B v bs) : (v = .slice none 0 0 ∧ bs = []) ∨ ∃ g cap cur, v = .slice (some ⟨g, 0, none⟩) bs.length cap ∧ B ≤ g ∧ w.heap[g]? = some (.cells cur e (0, 0)) ∧ bs.length ≤ cap ∧ cap ≤ maxLen ∧ cur.size = cap ∧
    (∀ k, k < bs.length → cur[k]? = some (.int .u8 ((bs.getD k 0).toNat : Int))) := by
  rcases h.1.2 with ⟨h1, h2⟩ | ⟨g, cap, cur, h1, h2, h3, h4, h5, h6, h7⟩
  · exact .inl ⟨h1, List.eq_nil_of_length_eq_zero h2⟩
  · refine .inr ⟨g, cap, cur, h1, h2, h3, h4, h5, by simpa using h6, fun k hk => ?_⟩
    have : (cur.toList.take (bs.length * 1))[k]? = (bs.map bv)[k]? := by rw [h7]
    rw [List.getElem?_take, if_pos (by omega), Array.getElem?_toList] at this
    rw [this]
    simp [hk, bv]
theorem OwB.rd (h : OwB e w B v bs) : ∃ A cap, v = .slice A bs.length cap ∧ bs.length ≤ cap ∧ RdB w w.heap.size A bs := by
  rcases h.form with ⟨rfl, rfl⟩ | ⟨g, cap, cur, rfl, _, hg, hc, _, _, hk⟩
  · exact ⟨none, 0, rfl, Nat.le_refl _, RdB.nil _ _ _⟩
  · exact ⟨_, cap, rfl, hc, h.2, fun _ => ⟨g, 0, rfl, (Array.getElem?_eq_some_iff.1 hg).1, fun k hk' => by rw [Nat.zero_add, cell_of_row w g k cur e (0, 0) hg]; exact hk k hk'⟩⟩
theorem OwB.rdS {A : Option Addr} {n c : Nat} (h : OwB e w B (.slice A n c) bs) : RdB w w.heap.size A bs ∧ n = bs.length ∧ n ≤ c := by
  obtain ⟨A', c', hv, hc, hr⟩ := h.rd
  injection hv with h1 h2 h3
  subst h1 h2 h3
  exact ⟨hr, rfl, hc⟩
theorem OwB.pos (h : OwB e w B v bs) (hp : 0 < bs.length) : ∃ g cap, v = .slice (some ⟨g, 0, none⟩) bs.length cap ∧ B ≤ g ∧ g < w.heap.size ∧ bs.length ≤ cap ∧ cap ≤ maxLen ∧ RdB w w.heap.size (some ⟨g, 0, none⟩) bs := by
  obtain ⟨A, c, hv, _, hr⟩ := h.rd
  rcases h.form with ⟨_, rfl⟩ | ⟨g, cap, cur, rfl, hB, hg, hc, hm, _, _⟩
  · simp at hp
  · injection hv with h1 _ _
    exact ⟨g, cap, rfl, hB, (Array.getElem?_eq_some_iff.1 hg).1, hc, hm, h1 ▸ hr⟩
/-- A new row of n zero bytes. -/
theorem own_make (e : TypeId) (w : World) (n : Nat) (hn : n ≤ 140737488355328) : OwB e (w.alloc (.cells (zcells n) e)) w.heap.size (.slice (some ⟨w.heap.size, 0, none⟩) n n) (List.replicate n 0) := by
  refine ⟨?_, by simpa using hn⟩
  have h := World.ownsRow_lit (base := w.heap.size) (e := e) (size := 1) w (zcells n) n (Nat.le_refl _) (by unfold maxLen; omega) (by rw [zcells_size]; omega)
  unfold zcells at h ⊢
  rw [toList_madeCells_one] at h
  simpa [bv] using h
theorem OwB.grown {row : Option Nat} (h : OwB e w B v bs) (hg : w.grownBy w' row) (hne : v.ownBlock = none ∨ v.ownBlock ≠ row) : OwB e w' B v bs := ⟨h.1.kept hg hne, h.2⟩
theorem grown_none {a b : World} (h : Below a.heap.size a b) : a.grownBy b none := ⟨h.os, h.tape, h.output, h.size, fun k hk _ => h.block k hk⟩
theorem OwB.below (h : OwB e w B v bs) (hb : Below w.heap.size w w') : OwB e w' B v bs := h.grown (grown_none hb) (by cases v.ownBlock <;> simp)
theorem OwB.lt (h : OwB e w B v bs) : ∀ k, v.ownBlock = some k → B ≤ k ∧ k < w.heap.size := h.1.lt
theorem OwB.le (h : OwB e w B v bs) (hB : B' ≤ B) : OwB e w B' v bs := by
  refine ⟨⟨h.1.1, ?_⟩, h.2⟩
  rcases h.1.2 with h1 | ⟨g, cap, cur, h1, h2, r⟩
  · exact .inl h1
  · exact .inr ⟨g, cap, cur, h1, by omega, r⟩
end

section
variable {e : TypeId} {w w' : World} {B g n cap : Nat} {bs : List UInt8}
theorem OwB.cell (h : OwB e w B (.slice (some ⟨g, 0, none⟩) n cap) bs) (hn : bs.length = n) (j : Nat) (hj : j < n) : w.cell? ⟨g, j, none⟩ = some (.int .u8 ((bs.getD j 0).toNat : Int)) ∧ w.frozen? ⟨g, j, none⟩ = false := by
  subst hn
  refine ⟨?_, h.1.frozenAt j⟩
  rw [h.1.cellAt j (by omega)]
  simp [hj, bv]
theorem OwB.set (h : OwB e w B (.slice (some ⟨g, 0, none⟩) n cap) bs) (hn : bs.length = n) (j : Nat) (b : UInt8) :
    OwB e (w.setCell ⟨g, j, none⟩ (.int .u8 (b.toNat : Int))) B (.slice (some ⟨g, 0, none⟩) n cap) (bs.set j b) ∧ w.grownBy (w.setCell ⟨g, j, none⟩ (.int .u8 (b.toNat : Int))) (some g) := by
  subst hn
  obtain ⟨h1, h2⟩ := h.1.stored j (.int .u8 (b.toNat : Int))
  refine ⟨⟨?_, by simpa using h.2⟩, h2⟩
  rw [List.map_set, List.length_set]
  exact h1
theorem grown_of_below {a b : World} (h : Below a.heap.size a b) (row : Option Nat) : a.grownBy b row := ⟨h.os, h.tape, h.output, h.size, fun k hk _ => h.block k hk⟩
end

section
variable {P : Program} (w : World)
/-- append(own, source...): the source nil, empty or full. -/
theorem run_append_B (base : Nat) (t ty e : TypeId) (ht : P.underlying t = some (.slice e)) (hinfo : (P.info? e).map (fun i => (i.zero, i.size, i.bytes)) = some (some (.int .u8 0), 1, 1))
    (v : Value) (xs : List UInt8) (hown : OwB e w base v xs) (B : Nat) (A : Option Addr) (c : Nat) (bs : List UInt8) (hr : RdB w B A bs) (hn : xs.length + bs.length ≤ 140737488355328) (hbase : base ≤ w.heap.size) :
    ∃ v' w', (Builtin.append_ #[t, t] ty #[v, .slice A bs.length c]).run P w = .ok v' w' ∧ OwB e w' base v' (xs ++ bs) ∧ w.grownBy w' v.ownBlock ∧ (v'.ownBlock = v.ownBlock ∨ v'.ownBlock = some w.heap.size) := by
  obtain ⟨i, hi, hzz⟩ := Option.map_eq_some_iff.1 hinfo
  simp only [Prod.mk.injEq] at hzz
  obtain ⟨hz, hs, hb⟩ := hzz
  rcases A with _ | ad
  · have hm : bs = [] := by
      rcases bs with _ | ⟨b, r⟩
      · rfl
      · obtain ⟨_, _, h, _⟩ := hr.2 (by simp)
        cases h
    subst hm
    refine ⟨v, w, ?_, by simpa using hown, World.grownBy.refl w _, .inl rfl⟩
    rcases hown.1.2 with ⟨rfl, _⟩ | ⟨g, cap, cur, rfl, _, _, hnc, _⟩
    · simp [Builtin.append_, run_underlying ht, sizeOf, typeInfo, hi, Builtin.lenOf, Builtin.firstCells]
    · simp [Builtin.append_, run_underlying ht, sizeOf, typeInfo, hi, Builtin.lenOf, Builtin.firstCells, hnc, storeCells]
  · have hcells : ∀ j u, (bs.map bv)[j]? = some u → w.cell? (ad.add j) = some u := by
      intro j u hu
      simp only [List.getElem?_map, Option.map_eq_some_iff] at hu
      obtain ⟨b, hb1, rfl⟩ := hu
      obtain ⟨hj, rfl⟩ := List.getElem?_eq_some_iff.1 hb1
      obtain ⟨b2, off, h, _, hc⟩ := hr.2 (by omega)
      injection h with h
      subst h
      have e1 : ((⟨b2, off, none⟩ : Addr).add j) = ⟨b2, off + j, none⟩ := by unfold Addr.add; by_cases hk0 : j = 0 <;> simp [hk0]
      rw [e1, hc j hj]
      simp [bv, hj]
    obtain ⟨v', w', hrun, h2, h3, _, h5⟩ := run_append_own_at (P := P) w base t ty e i _ 1 1 ht hi hz hs hb rfl (by omega) v xs.length (xs.map bv) hown.1 ad bs.length c (bs.map bv) (by simp) hcells map_bv_one (by unfold maxLen; omega) (by omega) hbase
    exact ⟨v', w', hrun, ⟨by simpa using h2, by simpa using hn⟩, h3, h5⟩
theorem wpList_append_B {ops : Array Oper} {rest : List Oper} {o : Oper} {a : Act} {Q : Exit → Act → World → Prop} (hw : Region.wanted o (yielded ops a.tmps) = true) (s x : Operand) (t : TypeId)
    (ho : o.op = .call { callee := .builtin .append, args := #[s, x], argTypes := #[t, t] })
    (base : Nat) (e : TypeId) (ht : P.underlying t = some (.slice e)) (hinfo : (P.info? e).map (fun i => (i.zero, i.size, i.bytes)) = some (some (.int .u8 0), 1, 1))
    (v : Value) (xs : List UInt8) (hs : a.eval s = v) (hown : OwB e w base v xs) (B : Nat) (A : Option Addr) (n c : Nat) (bs : List UInt8) (hx : a.eval x = .slice A n c) (hnl : n = bs.length) (hr : RdB w B A bs)
    (hn : xs.length + bs.length ≤ 140737488355328) (hbase : base ≤ w.heap.size)
    (h : ∀ v' w', OwB e w' base v' (xs ++ bs) → w.grownBy w' v.ownBlock → (v'.ownBlock = v.ownBlock ∨ v'.ownBlock = some w.heap.size) → wpList P ops Q rest (a.put o.dst v') w') : wpList P ops Q (o :: rest) a w := by
  subst hnl
  refine BigFrame.wpList_want hw fun K hK => ?_
  obtain ⟨v', w', hrun, h2, h3, h4⟩ := run_append_B (P := P) w base t o.type e ht hinfo v xs hown B A c bs hr hn hbase
  unfold Oper.wp execOp
  simp only [ho, resolve, invoke, builtin, Sem.run_bind, Sem.run_pure, Result.andThen_ok, List.map_toArray, List.map_cons, List.map_nil, hs, hx, hrun]
  exact hK _ _ (h v' w' h2 h3 h4)

/-- A slice that holds these values, one cell each. -/
def RdV (w : World) (B : Nat) (A : Option Addr) (xs : List Value) : Prop :=
  0 < xs.length → ∃ b off, A = some ⟨b, off, none⟩ ∧ b < B ∧ ∀ k, k < xs.length → w.cell? ⟨b, off + k, none⟩ = xs[k]?
theorem RdV.below {w w' : World} {B B' : Nat} {A : Option Addr} {xs : List Value} (h : RdV w B A xs) (hb : Below B w w') (hB : B ≤ B') : RdV w' B' A xs := fun hn => by
  obtain ⟨b, off, e, hlt, hc⟩ := h hn
  exact ⟨b, off, e, by omega, fun k hk => (hb.cell (p := ⟨b, off + k, none⟩) hlt).trans (hc k hk)⟩
/-- Values that read as rows. -/
def RowsV (w : World) (B : Nat) (xs : List Value) (rs : List (List UInt8)) : Prop :=
  xs.length = rs.length ∧ ∀ k, k < rs.length → ∃ A c, xs[k]? = some (.slice A (rs.getD k []).length c) ∧ RdB w B A (rs.getD k [])
theorem RdR.vals {w : World} {B : Nat} {A : Option Addr} {rs : List (List UInt8)} (h : RdR w B A rs) : ∃ xs, RdV w B A xs ∧ RowsV w B xs rs ∧ ∀ u ∈ xs, u.oneCell' = true := by
  rcases Nat.eq_zero_or_pos rs.length with h0 | h0
  · refine ⟨[], fun h => by simp at h, ⟨by simp [h0], fun k hk => by omega⟩, fun u hu => by simp at hu⟩
  · obtain ⟨b, off, rfl, hb, hc⟩ := h.2 h0
    have hx : ∀ k, k < rs.length → ((List.range rs.length).map fun k => (w.cell? ⟨b, off + k, none⟩).getD undef)[k]? = w.cell? ⟨b, off + k, none⟩ := fun k hk => by
      obtain ⟨A', c', h1, _⟩ := hc k hk
      simp [hk, h1]
    refine ⟨(List.range rs.length).map fun k => (w.cell? ⟨b, off + k, none⟩).getD undef, fun _ => ⟨b, off, rfl, hb, fun k hk => (hx k (by simpa using hk)).symm⟩, ⟨by simp, fun k hk => ?_⟩, fun u hu => ?_⟩
    · obtain ⟨A', c', h1, h2⟩ := hc k hk
      exact ⟨A', c', (hx k hk).trans h1, h2⟩
    · simp only [List.mem_map, List.mem_range] at hu
      obtain ⟨k, hk, rfl⟩ := hu
      obtain ⟨A', c', h1, _⟩ := hc k hk
      rw [h1]
      rfl
theorem wpList_append_V {w : World} {ops : Array Oper} {rest : List Oper} {o : Oper} {a : Act} {Q : Exit → Act → World → Prop} (hw : Region.wanted o (yielded ops a.tmps) = true) (s x : Operand) (t : TypeId)
    (ho : o.op = .call { callee := .builtin .append, args := #[s, x], argTypes := #[t, t] })
    (base : Nat) (e : TypeId) (z : Value) (bytes : Nat) (ht : P.underlying t = some (.slice e)) (hinfo : (P.info? e).map (fun i => (i.zero, i.size, i.bytes)) = some (some z, 1, bytes)) (hz1 : z.cells.size = 1)
    (v : Value) (n : Nat) (xs : List Value) (hs : a.eval s = v) (hown : w.ownsRow base e 1 v n xs) (B : Nat) (A : Option Addr) (m c : Nat) (news : List Value) (hx : a.eval x = .slice A m c) (hm : m = news.length)
    (hr : RdV w B A news) (h1 : ∀ u ∈ news, u.oneCell' = true) (h63 : n + m ≤ maxLen) (hbytes : (n + m) * bytes ≤ 140737488355328) (hbase : base ≤ w.heap.size)
    (h : ∀ v' w', w'.ownsRow base e 1 v' (n + m) (xs ++ news) → w.grownBy w' v.ownBlock → (v'.ownBlock = v.ownBlock ∨ v'.ownBlock = some w.heap.size) → wpList P ops Q rest (a.put o.dst v') w') : wpList P ops Q (o :: rest) a w := by
  subst hm
  refine BigFrame.wpList_want hw fun K hK => ?_
  obtain ⟨i, hi, hzz⟩ := Option.map_eq_some_iff.1 hinfo
  simp only [Prod.mk.injEq] at hzz
  obtain ⟨hz, hsz, hb⟩ := hzz
  have hrun : ∃ v' w', (Builtin.append_ #[t, t] o.type #[v, .slice A news.length c]).run P w = .ok v' w' ∧ w'.ownsRow base e 1 v' (n + news.length) (xs ++ news) ∧ w.grownBy w' v.ownBlock ∧ (v'.ownBlock = v.ownBlock ∨ v'.ownBlock = some w.heap.size) := by
    rcases A with _ | ad
    · have hm : news = [] := by
        rcases news with _ | ⟨b, r⟩
        · rfl
        · obtain ⟨_, _, h, _⟩ := hr (by simp)
          cases h
      subst hm
      refine ⟨v, w, ?_, by simpa using hown, World.grownBy.refl w _, .inl rfl⟩
      rcases hown.2 with ⟨rfl, _⟩ | ⟨g, cap, cur, rfl, _, _, hnc, _⟩
      · simp [Builtin.append_, run_underlying ht, sizeOf, typeInfo, hi, Builtin.lenOf, Builtin.firstCells]
      · simp [Builtin.append_, run_underlying ht, sizeOf, typeInfo, hi, Builtin.lenOf, Builtin.firstCells, hnc, storeCells]
    · have hcells : ∀ j u, news[j]? = some u → w.cell? (ad.add j) = some u := by
        intro j u hu
        obtain ⟨hj, _⟩ := List.getElem?_eq_some_iff.1 hu
        obtain ⟨b2, off, h, _, hc⟩ := hr (by omega)
        injection h with h
        subst h
        have e1 : ((⟨b2, off, none⟩ : Addr).add j) = ⟨b2, off + j, none⟩ := by unfold Addr.add; by_cases hk0 : j = 0 <;> simp [hk0]
        rw [e1, hc j hj, hu]
      obtain ⟨v', w', hrun, h2, h3, _, h5⟩ := run_append_own_at (P := P) w base t o.type e i _ 1 bytes ht hi hz hsz hb hz1 (by omega) v n xs hown ad news.length c news (by simp) hcells h1 h63 hbytes hbase
      exact ⟨v', w', hrun, h2, h3, h5⟩
  obtain ⟨v', w', hrun, h2, h3, h4⟩ := hrun
  unfold Oper.wp execOp
  simp only [ho, resolve, invoke, builtin, Sem.run_bind, Sem.run_pure, Result.andThen_ok, List.map_toArray, List.map_cons, List.map_nil, hs, hx, hrun]
  exact hK _ _ (h v' w' h2 h3 h4)
/-- An own row of slices reads as rows. -/
theorem rdr_own {w : World} {B base : Nat} {e : TypeId} {v : Value} {n : Nat} {xs : List Value} {rs : List (List UInt8)} (h : w.ownsRow base e 1 v n xs) (hB : w.heap.size ≤ B) (hl : rs.length ≤ 140737488355328) (hx : RowsV w B xs rs) :
    ∃ A cap, v = .slice A rs.length cap ∧ RdR w B A rs := by
  have hn : n = rs.length := by have := h.1; have := hx.1; omega
  subst hn
  rcases h.2 with ⟨rfl, h0⟩ | ⟨g, cap, cur, rfl, _, hg, _, _, _, htk⟩
  · exact ⟨none, 0, by rw [h0], hl, fun h => by omega⟩
  · refine ⟨_, cap, rfl, rdr_cells hg (by have := (Array.getElem?_eq_some_iff.1 hg).1; omega) hl fun k hk => ?_⟩
    obtain ⟨A, c, h1, h2⟩ := hx.2 k hk
    refine ⟨A, c, ?_, h2⟩
    rw [← htk, List.getElem?_take, if_pos (by omega), Array.getElem?_toList] at h1
    exact h1
theorem rows_one {w : World} {B : Nat} {A : Option Addr} {c : Nat} {bs : List UInt8} {xs : List Value} {rs : List (List UInt8)} (h : RdB w B A bs) (hx : RowsV w B xs rs) : RowsV w B ([.slice A bs.length c] ++ xs) (bs :: rs) :=
  ⟨by simp [hx.1], fun k hk => by
    cases k with
    | zero => exact ⟨A, c, rfl, h⟩
    | succ k => exact hx.2 k (by simpa using hk)⟩
theorem RowsV.below {w w' : World} {B B' : Nat} {xs : List Value} {rs : List (List UInt8)} (hx : RowsV w B xs rs) (hb : Below B w w') (hB : B ≤ B') : RowsV w' B' xs rs :=
  ⟨hx.1, fun k hk => by
    obtain ⟨A, c, h1, h2⟩ := hx.2 k hk
    exact ⟨A, c, h1, (h2.below hb (Nat.le_refl _)).more hB⟩⟩
/-- append([][]byte{x}, rows...). -/
theorem wpList_append_rows1 {W : World} {ops : Array Oper} {rest : List Oper} {o : Oper} {a : Act} {Q : Exit → Act → World → Prop} (hw : Region.wanted o (yielded ops a.tmps) = true) (s x : Operand) (t : TypeId)
    (ho : o.op = .call { callee := .builtin .append, args := #[s, x], argTypes := #[t, t] }) (e : TypeId) (ht : P.underlying t = some (.slice e)) (hinfo : (P.info? e).map (fun i => (i.zero, i.size, i.bytes)) = some (some (.slice none 0 0), 1, 24))
    (A1 : Option Addr) (n1 c1 : Nat) (b1 : List UInt8) (hn1 : b1.length = n1) (hs : a.eval s = .slice (some ⟨W.heap.size, 0, none⟩) 1 1) (A : Option Addr) (n c : Nat) (rs : List (List UInt8)) (hx : a.eval x = .slice A n c)
    (hn : rs.length = n) (hn2 : n ≤ 1000000) (h1 : RdB W W.heap.size A1 b1) (hr : RdR W W.heap.size A rs)
    (h : ∀ A2 cap2 w2, RdR w2 w2.heap.size A2 (b1 :: rs) → Below W.heap.size W w2 → wpList P ops Q rest (a.put o.dst (.slice A2 (1 + n) cap2)) w2) : wpList P ops Q (o :: rest) a (W.alloc (.cells #[.slice A1 n1 c1] e)) := by
  subst hn1 hn
  obtain ⟨xs, hxv, hxr, hx1⟩ := hr.vals
  refine wpList_append_V hw s x t ho W.heap.size e (.slice none 0 0) 24 ht hinfo rfl _ 1 _ hs (World.ownsRow_lit W #[.slice A1 b1.length c1] 1 (Nat.le_refl _) (by decide) rfl) W.heap.size A rs.length c xs hx
    hxr.1.symm (hxv.below (below1 W _) (Nat.le_refl _)) hx1 (by unfold maxLen; omega) (by omega) (by simp) ?_
  intro v2 w2 hown2 hg2 hat2
  have hb2 : Below W.heap.size W w2 := (below1 W _).grown hg2 (by simp) (by intro k hk; simp [Value.ownBlock] at hk; omega)
  obtain ⟨A2, cap2, rfl, hrr⟩ := rdr_own (rs := b1 :: rs) hown2 (Nat.le_refl _) (by simp; omega) (rows_one (c := c1) ((h1.below hb2 (Nat.le_refl _)).more hb2.size) (hxr.below hb2 hb2.size))
  have := h A2 cap2 w2 hrr hb2
  rwa [Nat.add_comm] at this
end
end Go.Proofs.YtjnemopocmhfkaaDoor
end
section
namespace Go.Proofs.YtjnemopocmhfkaaDoor
open Go.RowKit

section
variable {P : Program} {ops : Array Oper} {Q : Exit → Act → World → Prop} {md : Region.Mode} {S : World → Prop} {n : Nat}
/-- Whatever order is picked, S holds behind each operation but those from n on. -/
def anyE (P : Program) (md : Region.Mode) (ops : Array Oper) (Q : Exit → Act → World → Prop) (S : World → Prop) (n : Nat) : Nat → Array Bool → Act → World → Prop
  | 0, listed, a, w => Region.ready md ops listed = [] ∧ Q .normal a w
  | f + 1, listed, a, w => (Region.ready md ops listed = [] → Q .normal a w) ∧
    ∀ i ∈ Region.ready md ops listed, wpOp P ops Q i (fun a' w' => (i < n → S w') ∧ anyE P md ops Q S n f (listed.setIfInBounds i true) a' w') a w
theorem any_of_E : ∀ (f : Nat) (listed : Array Bool) (a : Act) (w : World), anyE P md ops Q S n f listed a w → wpAny P md ops Q f listed a w
  | 0, _, _, _, h => h
  | f + 1, _, _, _, h => ⟨h.1, fun i hi => wpOp_mono (fun a' w' h' => any_of_E f _ a' w' h'.2) (h.2 i hi)⟩
theorem anyE_first {i : Nat} {oi : Oper} {v : Value} (hi : ops[i]? = some oi) (hsel : ∀ (j : Nat) (o : Oper) cs b, ops[j]? = some o → o.op ≠ .select cs b) (hQ : ∀ c a w, Q (.panic c) (a.put oi.dst v) w → Q (.panic c) a w)
    (hs : Region.sinkB md ops n = true) (hc : Region.chainB md ops n = true) (hn : n < ops.size) (hin : i < n) :
    ∀ (f : Nat) (listed : Array Bool) (a : Act) (w : World), HeadInv md ops n listed →
      (∀ j oj, ops[j]? = some oj → j ≠ i → listed.getD j true = false → (∀ e ∈ oj.after, Region.binds md e = true → e.on ≠ i) → oi.apart ops oj = true) →
      i ∈ Region.ready md ops listed → YieldsIf P ops S oi v a → S w →
      anyE P md ops Q S n f (listed.setIfInBounds i true) (a.put oi.dst v) w → anyE P md ops Q S n (f + 1) listed a w := by
  intro f
  induction f with
  | zero =>
    intro listed a w _ _ hr hy hS H
    refine ⟨fun h => (by rw [h] at hr; cases hr), fun j hj => ?_⟩
    by_cases hji : j = i
    · subst hji; exact hy.wpOp hi hS ⟨fun _ => hS, H⟩
    · have h1 := ready_mono (i := i) hj hji
      rw [H.1] at h1
      cases h1
  | succ f ih =>
    intro listed a w inv hfree hr hy hS H
    have hun := (mem_ready.1 hr).1
    refine ⟨fun h => (by rw [h] at hr; cases hr), fun j hj => ?_⟩
    have hjn : j < n := Nat.lt_of_not_le fun h => tail_waits hs hc hn inv _ i rfl hin hun j h hj
    by_cases hji : j = i
    · subst hji; exact hy.wpOp hi hS ⟨fun _ => hS, H⟩
    · obtain ⟨hjun, oj, hoj, hall⟩ := mem_ready.1 hj
      have hnot : ∀ e ∈ oj.after, Region.binds md e = true → e.on ≠ i := fun e he hb heq => by
        have h1 := hall e he hb
        rw [heq, getD_both hun] at h1
        cases h1
      have hap := hfree j oj hoj hji hjun hnot
      have h2 := wpOp_putIf hoj hap (fun cs b => hsel i oi cs b hi) (fun cs b => hsel j oj cs b hoj) hQ hy (H.2 j (ready_mono hj hji))
      refine wpOp_mono (fun a' w' h3 => ⟨h3.2.1, ?_⟩) h2
      refine ih (listed.setIfInBounds j true) a' w' (inv.set hj hjn) (fun k ok hk hki hku hno => hfree k ok hk hki ?_ hno) (ready_mono hr (Ne.symm hji)) h3.1 (h3.2.1 hjn) ?_
      · by_cases hjk : j = k
        · subst hjk; exact hjun
        · rw [getD_set_ne true hjk] at hku; exact hku
      · rw [Array.setIfInBounds_comm _ _ hji]
        exact h3.2.2
/-- These operations, one by one, each of which yields wherever S holds. -/
def takesE (P : Program) (ops : Array Oper) (S : World → Prop) (K : Act → Prop) : List Oper → Act → Prop
  | [], a => K a
  | o :: rest, a => ∃ v, YieldsIf P ops S o v a ∧ takesE P ops S K rest (a.put o.dst v)
/-- One operation. -/
def opE (P : Program) (ops : Array Oper) (Q : Exit → Act → World → Prop) (o : Oper) (K : Act → World → Prop) (a : Act) (w : World) : Prop :=
  if Region.wanted o (yielded ops a.tmps) then o.wp P a w K Q ∨ (o.asks P a w ∧ LetsOut Q) else K (a.put o.dst undef) w
/-- The rest, one by one; S holds behind each but the last. -/
def listE (P : Program) (ops : Array Oper) (Q : Exit → Act → World → Prop) (S : World → Prop) : List Oper → Act → World → Prop
  | [], a, w => Q .normal a w
  | o :: rest, a, w => opE P ops Q o (fun a' w' => (rest ≠ [] → S w') ∧ listE P ops Q S rest a' w') a w
theorem wpOp_of_opE {i : Nat} {o : Oper} {K : Act → World → Prop} {a : Act} {w : World} (hi : ops[i]? = some o) (h : opE P ops Q o K a w) : wpOp P ops Q i K a w := by
  unfold opE at h
  unfold wpOp
  simp only [hi]
  split at h
  · rename_i hw; simp only [hw, if_true]; exact h
  · rename_i hw; simp only [hw]; exact h
theorem anyE_of_list : ∀ (l : List Oper) (k : Nat) (listed : Array Bool) (a : Act) (w : World), (∀ j, l[j]? = ops[k + j]?) → (l = [] ∨ k + l.length = n + 1) →
    Region.seqB md ops l.length k listed = true → listE P ops Q S l a w → anyE P md ops Q S n l.length listed a w
  | [], k, listed, a, w, _, _, hB, h => ⟨by simpa [Region.seqB] using hB, h⟩
  | o :: l, k, listed, a, w, hl, hk, hB, h => by
    have h0 : ops[k]? = some o := by simpa using (hl 0).symm
    have hk' : k + (l.length + 1) = n + 1 := by
      rcases hk with h | h
      · cases h
      · simpa using h
    simp only [List.length_cons, Region.seqB, Bool.and_eq_true, decide_eq_true_eq] at hB
    refine ⟨fun h1 => (by rw [hB.1] at h1; cases h1), fun i hi => ?_⟩
    rw [hB.1] at hi
    obtain rfl : i = k := by simpa using hi
    refine wpOp_mono (fun a' w' h' => ⟨fun hin => h'.1 (by intro e; subst e; simp at hk'; omega), ?_⟩) (wpOp_of_opE h0 h)
    refine anyE_of_list l (i + 1) _ a' w' (fun j => by have := hl (j + 1); simpa [Nat.add_assoc, Nat.add_comm 1 j] using this) ?_ hB.2 h'.2
    by_cases he : l = []
    · exact .inl he
    · exact .inr (by omega)
theorem anyE_of_takes {g k0 : Nat} (hsel : ∀ (j : Nat) (o : Oper) cs b, ops[j]? = some o → o.op ≠ .select cs b) (hQ : ∀ c a d v w, Q (.panic c) (Act.put a d v) w → Q (.panic c) a w)
    (hs : Region.sinkB md ops n = true) (hc : Region.chainB md ops n = true) (hn : n < ops.size) (hkn : k0 ≤ n) {w : World} (hS : S w) {K : Act → Prop}
    (hK : ∀ listed a, Region.seqB md ops g k0 listed = true → K a → anyE P md ops Q S n g listed a w) :
    ∀ (l : List Oper) (k : Nat) (listed : Array Bool) (a : Act), (∀ j, j < l.length → l[j]? = ops[k + j]?) → k + l.length = k0 → HeadInv md ops n listed → Region.lexHead md ops g l.length k listed = true →
    takesE P ops S K l a → anyE P md ops Q S n (l.length + g) listed a w
  | [], k, listed, a, _, hk, _, hB, h => by
    obtain rfl : k = k0 := by simpa using hk
    rw [List.length_nil, Nat.zero_add]
    exact hK listed a (by simpa [Region.lexHead] using hB) h
  | o :: l, k, listed, a, hl, hk, inv, hB, h => by
    have h0 : ops[k]? = some o := by simpa using (hl 0 (by simp)).symm
    simp only [List.length_cons, Region.lexHead, Bool.and_eq_true] at hB
    obtain ⟨⟨hr, hf⟩, hB'⟩ := hB
    have hkn' : k < n := by simp only [List.length_cons] at hk; omega
    have hr' : k ∈ Region.ready md ops listed := by simpa using hr
    obtain ⟨v, hy, hT⟩ := h
    have ih := anyE_of_takes hsel hQ hs hc hn hkn hS hK l (k + 1) (listed.setIfInBounds k true) (a.put o.dst v) (fun j hj => by have := hl (j + 1) (by simp; omega); simpa [Nat.add_assoc, Nat.add_comm 1 j] using this)
      (by simp only [List.length_cons] at hk; omega) (inv.set hr' hkn') hB' hT
    rw [List.length_cons, show l.length + 1 + g = (l.length + g) + 1 by omega]
    exact anyE_first h0 hsel (fun c a w h => hQ c a _ _ w h) hs hc hn hkn' _ listed a w inv (Region.free_spec h0 hf) hr' hy hS ih
def takeB (md : Region.Mode) (ops : Array Oper) (k : Nat) : Bool :=
  Region.noSelect ops && decide (k < ops.size) && Region.sinkB md ops (ops.size - 1) && Region.chainB md ops (ops.size - 1) && Region.lexHead md ops (ops.size - k) k 0 (Array.replicate ops.size false)
theorem region_take {id : Nat} {a : Act} {w : World} {l : List Oper} (k : Nat) (S : World → Prop) (hm : P.follows .mixedOrders = true) (hB : takeB .any l.toArray k = true) (hQ : ∀ c a d v w, Q (.panic c) (Act.put a d v) w → Q (.panic c) a w)
    (hS : S w.drew) (h : takesE P l.toArray S (fun a' => listE P l.toArray Q S (l.drop k) a' w.drew) (l.take k) a) : (Code.region id l.toArray true).wp P Q a w := by
  simp only [takeB, Bool.and_eq_true, decide_eq_true_eq] at hB
  obtain ⟨⟨⟨⟨hsel, hk⟩, hs⟩, hc⟩, hlex⟩ := hB
  have hk' : k < l.length := by simpa using hk
  have hsz : l.toArray.size = l.length := by simp
  have htl : (l.take k).length = k := by simp; omega
  have hdl : (l.drop k).length = l.toArray.size - k := by simp
  have inv0 : HeadInv .any l.toArray (l.toArray.size - 1) (Array.replicate l.toArray.size false) :=
    ⟨by simp, fun j oj _ hl => (by rw [getD_replicate_false] at hl; cases hl), fun t _ ht => getD_in (by simpa using ht) (getD_replicate_false _ _)⟩
  refine wp_region_any hm (any_of_E (S := S) (n := l.toArray.size - 1) _ _ _ _ ?_)
  have := anyE_of_takes (md := .any) (P := P) (Q := Q) (S := S) (n := l.toArray.size - 1) (g := l.toArray.size - k) (k0 := k) (Region.noSelect_spec hsel) hQ hs hc (by omega) (by omega) (w := w.drew) hS
    (K := fun a' => listE P l.toArray Q S (l.drop k) a' w.drew) (fun listed a' hseq hK => by
      have := anyE_of_list (md := .any) (P := P) (Q := Q) (S := S) (n := l.toArray.size - 1) (l.drop k) k listed a' w.drew (fun j => by simp [List.getElem?_drop]) (.inr (by rw [hdl]; omega)) (by rw [hdl]; exact hseq) hK
      rwa [hdl] at this) (l.take k) 0 _ a (fun j hj => by
      have hj' : j < k := by rw [htl] at hj; exact hj
      simp [hj']) (by simpa using htl) inv0 (by rw [htl]; exact hlex) h
  rw [htl, show k + (l.toArray.size - k) = l.toArray.size by omega] at this
  exact this
/-! The moves. -/
theorem take_of {o : Oper} {rest : List Oper} {K : Act → Prop} {a : Act} {v : Value} (hw : Region.wanted o (yielded ops a.tmps) = true) (hv : ∀ w, S w → (execOp a.eval o).run P w = .ok (.value v) w) (h : takesE P ops S K rest (a.put o.dst v)) : takesE P ops S K (o :: rest) a :=
  ⟨v, .inl ⟨hw, hv⟩, h⟩
theorem take_mid {op : Oper} {rest : List Oper} {K : Act → Prop} {a : Act} (hw : Region.wanted op (yielded ops a.tmps) = true) (ty : TypeId) (x : Operand) (ho : op.op = .load ty x) (b o : Nat) (hx : a.eval x = .pointer (some ⟨b, o, none⟩)) (cs : List Value) (d : TypeDesc)
    (hS : ∀ w, S w → w.rangeAt b o cs) (hu : P.underlying ty = some d) (hd : d.isRow = true) (hi : (P.info? ty).map (·.size) = some cs.length) (h : takesE P ops S K rest (a.put op.dst (.agg cs.toArray))) : takesE P ops S K (op :: rest) a :=
  ⟨_, yieldsIf_load_mid hw ty x ho b o hx cs d hS hu hd hi, h⟩
/-- The last operation. -/
theorem listE_last {o : Oper} {a : Act} {w : World} (h : wpList P ops Q [o] a w) : listE P ops Q S [o] a w := by
  unfold listE opE
  have h' : (if Region.wanted o (yielded ops a.tmps) then o.wp P a w (wpList P ops Q []) Q ∨ (o.asks P a w ∧ LetsOut Q) else wpList P ops Q [] (a.put o.dst undef) w) := h
  split at h'
  · rename_i hw; rw [if_pos hw]; exact h'.imp (Oper.wp_mono fun a w h => ⟨fun e => absurd rfl e, h⟩) id
  · rename_i hw; rw [if_neg hw]; exact ⟨fun e => absurd rfl e, h'⟩
/-- An operation ahead of the last. -/
theorem listE_step {o o2 : Oper} {rest : List Oper} {a : Act} {w : World} (h : ∀ K : Act → World → Prop, (∀ a' w', S w' → listE P ops Q S (o2 :: rest) a' w' → K a' w') → if Region.wanted o (yielded ops a.tmps) = true then o.wp P a w K Q else K (a.put o.dst undef) w) : listE P ops Q S (o :: o2 :: rest) a w := by
  have h' := h (fun a' w' => (o2 :: rest ≠ [] → S w') ∧ listE P ops Q S (o2 :: rest) a' w') fun a' w' h1 h2 => ⟨fun _ => h1, h2⟩
  rw [listE, opE]
  split at h'
  · rename_i hw; rw [if_pos hw]; exact .inl h'
  · rename_i hw; rw [if_neg hw]; exact h'
end
end Go.Proofs.YtjnemopocmhfkaaDoor
end
section
namespace Go.Proofs.YtjnemopocmhfkaaDoor
open Go.RowKit

/-- A slice that reads as yes and no. -/
def RdO (w : World) (B : Nat) (A : Option Addr) (ks : List Bool) : Prop :=
  ks.length ≤ 9223372036854775807 ∧ (0 < ks.length → ∃ b off, A = some ⟨b, off, none⟩ ∧ b < B ∧ ∀ k, k < ks.length → w.cell? ⟨b, off + k, none⟩ = some (.bool (ks.getD k false)))
theorem RdO.keep {w w' : World} {B B' : Nat} {A : Option Addr} {ks : List Bool} (h : RdO w B A ks) (hB : B ≤ B') (hk : ∀ p : Addr, p.block < B → w'.cell? p = w.cell? p) : RdO w' B' A ks :=
  ⟨h.1, fun hn => by
    obtain ⟨b, off, e, hb, hc⟩ := h.2 hn
    exact ⟨b, off, e, by omega, fun k hk' => (hk ⟨b, off + k, none⟩ hb).trans (hc k hk')⟩⟩
theorem RdO.below {w w' : World} {B B' : Nat} {A : Option Addr} {ks : List Bool} (h : RdO w B A ks) (hb : Below B' w w') (hB : B ≤ B') : RdO w' B A ks := h.keep (Nat.le_refl _) fun p hp => hb.cell (by omega)
/-- A slice that reads as these numbers. -/
def RdZ (w : World) (B : Nat) (A : Option Addr) (zs : List Int) : Prop :=
  zs.length ≤ 9223372036854775807 ∧ (∀ z ∈ zs, -9223372036854775808 ≤ z ∧ z ≤ 9223372036854775807) ∧ (0 < zs.length → ∃ b off, A = some ⟨b, off, none⟩ ∧ b < B ∧ ∀ k, k < zs.length → w.cell? ⟨b, off + k, none⟩ = some (.int .i64 (zs.getD k 0)))
theorem RdZ.nil (w : World) (B : Nat) (A : Option Addr) : RdZ w B A [] := ⟨by simp, fun z hz => by simp at hz, fun h => by simp at h⟩
theorem RdZ.keep {w w' : World} {B B' : Nat} {A : Option Addr} {zs : List Int} (h : RdZ w B A zs) (hB : B ≤ B') (hk : ∀ p : Addr, p.block < B → w'.cell? p = w.cell? p) : RdZ w' B' A zs :=
  ⟨h.1, h.2.1, fun hn => by
    obtain ⟨b, off, e, hb, hc⟩ := h.2.2 hn
    exact ⟨b, off, e, by omega, fun k hk' => (hk ⟨b, off + k, none⟩ hb).trans (hc k hk')⟩⟩
theorem RdZ.below {w w' : World} {B B' : Nat} {A : Option Addr} {zs : List Int} (h : RdZ w B A zs) (hb : Below B' w w') (hB : B ≤ B') : RdZ w' B A zs := h.keep (Nat.le_refl _) fun p hp => hb.cell (by omega)
theorem RdZ.bd {w : World} {B : Nat} {A : Option Addr} {zs : List Int} (h : RdZ w B A zs) (k : Nat) : -9223372036854775808 ≤ zs.getD k 0 ∧ zs.getD k 0 ≤ 9223372036854775807 := by
  by_cases hk : k < zs.length
  · exact h.2.1 _ (by simp [hk])
  · rw [List.getD_eq_getElem?_getD, List.getElem?_eq_none (by omega)]; simp
end Go.Proofs.YtjnemopocmhfkaaDoor
end
section
namespace Go.Proofs.YtjnemopocmhfkaaDoor
open Go.RowKit

def withinI (v n : Int) : Int := if n < 1 then 0 else v % n
theorem withinI_bd (v n : Int) (hn : 1 ≤ n) : 0 ≤ withinI v n ∧ withinI v n < n := by
  unfold withinI
  rw [if_neg (by omega)]
  exact ⟨Int.emod_nonneg _ (by omega), Int.emod_lt_of_pos _ (by omega)⟩
theorem tmod_within (v n : Int) (hn : 1 ≤ n) : withinI v n = if v.tmod n < 0 then v.tmod n + n else v.tmod n := by
  have h0 := Int.emod_nonneg v (show n ≠ 0 by omega)
  have h1 := Int.emod_lt_of_pos v (show 0 < n by omega)
  unfold withinI
  rw [if_neg (by omega), Int.tmod_eq_emod]
  split <;> split <;> omega
theorem within_any (v n : Int) (w : World) (hv : -9223372036854775808 ≤ v ∧ v ≤ 9223372036854775807) (hn : 1 ≤ n ∧ n ≤ 140737488355329) :
    Calls Tryd.prog 14 #[.int .i64 v, .int .i64 n] w fun e w' => e = .returned (.int .i64 (withinI v n)) ∧ w' = w := by
  obtain ⟨h1, h2⟩ := hn
  obtain ⟨h3, h4⟩ := hv
  have Ht := Lib.hid (tmod_within v n h1)
  have hlo : -n < v.tmod n := Int.lt_tmod_of_pos _ (by omega)
  have hhi : v.tmod n < n := Int.tmod_lt_of_pos _ (by omega)
  by_cases hneg : v.tmod n < 0
  · go_enter Tryd.func14, Tryd.ntmps14
    go_wp2
    go_ret
    exact ⟨by rw [Ht.out, if_pos hneg]; rfl, rfl⟩
  · go_enter Tryd.func14, Tryd.ntmps14
    go_wp2
    go_ret
    exact ⟨by rw [Ht.out, if_neg (by omega)]; rfl, rfl⟩
end Go.Proofs.YtjnemopocmhfkaaDoor
end
section
namespace Go.Proofs.YtjnemopocmhfkaaDoor

end Go.Proofs.YtjnemopocmhfkaaDoor
end
section
namespace Go.Proofs.YtjnemopocmhfkaaDoor
open Go.RowKit

end Go.Proofs.YtjnemopocmhfkaaDoor
end
section
namespace Go.Proofs.YtjnemopocmhfkaaDoor

end Go.Proofs.YtjnemopocmhfkaaDoor
end
section
namespace Go.Proofs.YtjnemopocmhfkaaDoor
open Go.ChangeShapes Go.WideShapes Go.ChangeAt Go.RowKit

section
variable {H : Type} {enc : TypeId × Value → H} {P : Program}

/-- All arguments read behind the call as they did, where nothing old has turned. -/
theorem args_again (hl : laidOutB P = true) {W W' : World} (hb : Below W.heap.size W W') :
    ∀ {ts : List TypeId} {vs : List Value} {ds : List (DataW H)} {p : List MemPlace}, (∀ t ∈ ts, P.readableRec t = true ∧ t < P.types.size) →
      DataW.TrodAll enc P W 0 (fun _ => true) true ts vs ds p → (∀ x ∈ p, x.block < W.heap.size) → DataW.TrodAll enc P W' 0 (fun b => decide (b < W.heap.size)) true ts vs ds p
  | [], _, _, _, _, h, _ => by
    obtain ⟨rfl, rfl, rfl⟩ := trodAll_nil h
    exact trodAll_mk0
  | t :: ts, _, _, _, hts, h, hlt => by
    obtain ⟨v, vs1, d, ds1, a, b, rfl, rfl, rfl, h1, h2⟩ := trodAll_cons h
    have ht := hts t (by simp)
    exact trodAll_cons_mk (Below.trod hl ht.1 ht.2 h1 hb fun x hx => hlt x (by simp [hx])) (args_again hl hb (fun t' ht' => hts t' (by simp [ht'])) h2 fun x hx => hlt x (by simp [hx]))

/-- A law's row behind the walk: true came back, and nothing old has turned. -/
theorem law_post {f : Func} {s : ChangeSpec} {W W' : World} {args : Array Value} {ds gs : List (DataW H)} {before : List MemPlace} {tb : TypeId} (hl : laidOutB P = true)
    (hts0 : (f.params.toList.all fun t => P.readableRec t && decide (t < P.types.size)) = true) (hv : s.vars = []) (hr : f.resultTypes = #[tb]) (htb : P.underlying tb = some .bool)
    (hfn : ∀ l : List (DataW H), l.length = f.params.size → (s.fn H l).results = [.lit (.bool true)] ∧ (s.fn H l).args = l ∧ (s.fn H l).vars = [])
    (hW : DataW.Whole enc P f.params.toList s.vars false W args.toList ds gs before) (hb : Below W.heap.size W W') :
    ∃ v, Ending.returned (.bool true) = .returned v ∧ s.post enc P f false true false false W args v W' := by
  have hts : ∀ t ∈ f.params.toList, P.readableRec t = true ∧ t < P.types.size := fun t ht => by simpa using List.all_eq_true.1 hts0 t ht
  have hW' := hW
  obtain ⟨p, q, hA, hV, rfl, hfz, hnd⟩ := hW
  rw [hv] at hV
  obtain ⟨rfl, rfl⟩ := trodVars_none hV
  have hlen : ds.length = f.params.size := by
    have : ∀ {ts : List TypeId} {vs : List Value} {ds : List (DataW H)} {p : List MemPlace}, DataW.TrodAll enc P W 0 (fun _ => true) true ts vs ds p → ds.length = ts.length := by
      intro ts
      induction ts with
      | nil => intro vs ds p h; obtain ⟨rfl, rfl, rfl⟩ := trodAll_nil h; rfl
      | cons t ts ih => intro vs ds p h; obtain ⟨v, vs1, d, ds1, a, b, rfl, rfl, rfl, h1, h2⟩ := trodAll_cons h; simp [ih h2]
    simpa using this hA
  obtain ⟨e1, e2, e3⟩ := hfn ds hlen
  have hlt : ∀ x ∈ p ++ [], x.block < W.heap.size := fun x hx => by simpa using hW'.lt x hx
  refine ⟨_, rfl, _, _, _, [], p, [], hW', ?_, ?_, ?_, hb.frame _, fun h => by cases h⟩
  · rw [List.append_nil, e1, hr]
    exact trodAll_mk1 (shut_bool htb _)
  · rw [List.append_nil, e2]
    exact args_again hl hb hts hA (by simpa using hlt)
  · rw [List.append_nil, e3, hv]
    rfl

/-- No parameter wants a stand-in: what a card asks. -/
theorem plain_of {name : String} {f0 : FuncId} {fn0 : Func} (h1 : P.funcNamed name = some f0) (h2 : P.funcs[f0]? = some fn0) (h3 : P.looks [] = false) (h4 : (fn0.params.toList.all fun t => !P.wantsStandIn t) = true) (f : FuncId) (fn : Func)
    (hf : P.funcNamed name = some f) (hfn : P.funcs[f]? = some fn) : false = P.looks [] ∧ ∀ (j : Nat) t, fn.params[j]? = some t → P.wantsStandIn t = false := by
  obtain rfl : f = f0 := Option.some.inj (hf.symm.trans h1)
  obtain rfl : fn = fn0 := Option.some.inj (hfn.symm.trans h2)
  refine ⟨h3.symm, fun j t ht => ?_⟩
  have := List.all_eq_true.1 h4 t (by simpa using Array.mem_of_getElem? ht)
  simpa using this

end
end Go.Proofs.YtjnemopocmhfkaaDoor
end
section
namespace Go.Proofs.YtjnemopocmhfkaaDoor

def nibs : List Nat := [0, 274646895, 549293790, 820201905, 1098587580, 1361435347, 1640403810, 1905808397, 2197175160, 2460548119, 2722870694, 2987750089, 3280807620, 3553878443, 3811616794, 4084100981]
/-- Four digits taken out of a sum, by the table. -/
def half (x : Nat) : Nat := (x / 16) ^^^ nibs.getD (x % 16) 0
def stepB (x : Nat) (c : UInt8) : Nat := half (half (x ^^^ c.toNat))
def feedB (x : Nat) (bs : List UInt8) : Nat := bs.foldl stepB x
def feedR (x : Nat) (rs : List (List UInt8)) : Nat := rs.foldl feedB x
def sumR (rs : List (List UInt8)) : Nat := feedR 4294967295 rs ^^^ 4294967295

theorem nibs_lt (i : Nat) : nibs.getD i 0 < 4294967296 := by
  by_cases h : i < 16
  · exact (show ∀ i, i < 16 → nibs.getD i 0 < 4294967296 by decide) i h
  · rw [List.getD_eq_getElem?_getD, List.getElem?_eq_none (by simp [nibs]; omega)]; decide
theorem xor_lt32 {a b : Nat} (ha : a < 4294967296) (hb : b < 4294967296) : a ^^^ b < 4294967296 := Nat.xor_lt_two_pow (n := 32) ha hb
theorem half_lt {x : Nat} (h : x < 4294967296) : half x < 4294967296 := xor_lt32 (by omega) (nibs_lt _)
theorem stepB_lt {x : Nat} (c : UInt8) (h : x < 4294967296) : stepB x c < 4294967296 := half_lt (half_lt (xor_lt32 h (by have := c.toNat_lt; omega)))
theorem feedB_lt {x : Nat} (bs : List UInt8) (h : x < 4294967296) : feedB x bs < 4294967296 := by
  unfold feedB
  induction bs generalizing x with
  | nil => exact h
  | cons c r ih => exact ih (stepB_lt c h)
theorem feedR_lt {x : Nat} (rs : List (List UInt8)) (h : x < 4294967296) : feedR x rs < 4294967296 := by
  unfold feedR
  induction rs generalizing x with
  | nil => exact h
  | cons c r ih => exact ih (feedB_lt c h)
theorem foldl_snoc {α β : Type} (f : β → α → β) (x : β) (l : List α) (d : α) (j : Nat) (h : j < l.length) : (l.take (j + 1)).foldl f x = f ((l.take j).foldl f x) (l.getD j d) := by
  rw [List.take_succ_eq_append_getElem h, List.foldl_append]
  simp [h]
theorem feedB_snoc (x : Nat) (bs : List UInt8) (j : Nat) (h : j < bs.length) : feedB x (bs.take (j + 1)) = stepB (feedB x (bs.take j)) (bs.getD j 0) := foldl_snoc stepB x bs 0 j h
theorem feedR_snoc (x : Nat) (rs : List (List UInt8)) (j : Nat) (h : j < rs.length) : feedR x (rs.take (j + 1)) = feedB (feedR x (rs.take j)) (rs.getD j []) := foldl_snoc feedB x rs [] j h
/-- Byte k of a sum, the greatest first. -/
def beB (x k : Nat) : UInt8 := UInt8.ofNat (x / 2 ^ (24 - 8 * k))
def be4 (x : Nat) : List UInt8 := [beB x 0, beB x 1, beB x 2, beB x 3]
/-- The first k bytes of a stamp set in a sector. -/
def stampK (bs : List UInt8) (x k : Nat) : List UInt8 := (List.range k).foldl (fun l i => l.set (28 + i) (beB x i)) bs
/-- A sector, stamped. -/
def stamped (bs : List UInt8) (rs : List (List UInt8)) : List UInt8 := bs.take 28 ++ be4 (sumR (bs.take 28 :: rs))
theorem stampK_succ (bs : List UInt8) (x k : Nat) : stampK bs x (k + 1) = (stampK bs x k).set (28 + k) (beB x k) := by
  simp [stampK, List.range_succ, List.foldl_append]
theorem stampK_len (bs : List UInt8) (x k : Nat) : (stampK bs x k).length = bs.length := by
  induction k with
  | zero => rfl
  | succ k ih => rw [stampK_succ]; simp [ih]
theorem stampK_four (bs : List UInt8) (x : Nat) (h : bs.length = 32) : stampK bs x 4 = bs.take 28 ++ be4 x := by
  apply List.ext_getElem?
  intro i
  simp only [stampK, List.range_succ, List.range_zero, List.nil_append, List.cons_append, List.foldl_cons, List.foldl_nil, be4, Nat.add_zero]
  simp only [List.getElem?_set, List.length_set, h, List.getElem?_append, List.length_take]
  have hm : min 28 bs.length = 28 := by omega
  rw [h] at hm
  rw [hm]
  by_cases h1 : i < 28
  · rw [if_pos h1, if_neg (by omega), if_neg (by omega), if_neg (by omega), if_neg (by omega), List.getElem?_take, if_pos h1]
  · rw [if_neg h1]
    by_cases h2 : i = 28
    · subst h2; simp
    · by_cases h3 : i = 29
      · subst h3; simp
      · by_cases h4 : i = 30
        · subst h4; simp
        · by_cases h5 : i = 31
          · subst h5; simp
          · rw [if_neg (by omega), if_neg (by omega), if_neg (by omega), if_neg (by omega), List.getElem?_eq_none (by omega), List.getElem?_eq_none (by simp; omega)]
theorem stamped_len (bs : List UInt8) (rs : List (List UInt8)) (h : bs.length = 32) : (stamped bs rs).length = 32 := by simp [stamped, be4, h]
theorem sumR_lt (rs : List (List UInt8)) : sumR rs < 4294967296 := xor_lt32 (feedR_lt rs (by decide)) (by decide)
end Go.Proofs.YtjnemopocmhfkaaDoor
end
section
namespace Go.Proofs.YtjnemopocmhfkaaDoor

theorem xor_div (a b i : Nat) : (a ^^^ b) / 2 ^ i = a / 2 ^ i ^^^ b / 2 ^ i := by
  rw [← Nat.shiftRight_eq_div_pow, ← Nat.shiftRight_eq_div_pow, ← Nat.shiftRight_eq_div_pow, Nat.shiftRight_xor_distrib]
/-- One digit taken out of a sum. -/
def bit1 (x : Nat) : Nat := if x % 2 = 1 then (x / 2) ^^^ 2197175160 else x / 2
theorem xor_mod2 (a b : Nat) : (a ^^^ b) % 2 = (a + b) % 2 := by
  have h := @Nat.xor_mod_two_eq_one a b
  rcases Nat.mod_two_eq_zero_or_one (a ^^^ b) with hc | hc <;> rcases Nat.mod_two_eq_zero_or_one a with ha | ha <;> rcases Nat.mod_two_eq_zero_or_one b with hb | hb <;> rw [hc, ha, hb] at h <;> first | omega | (exfalso; revert h; decide)
theorem bit1_xor (a b : Nat) : bit1 (a ^^^ b) = bit1 a ^^^ bit1 b := by
  unfold bit1
  have h1 := xor_mod2 a b
  have h2 : (a ^^^ b) / 2 = a / 2 ^^^ b / 2 := by simpa using xor_div a b 1
  rw [h2]
  rcases Nat.mod_two_eq_zero_or_one a with ha | ha <;> rcases Nat.mod_two_eq_zero_or_one b with hb | hb
  · rw [if_neg (by omega), if_neg (by omega), if_neg (by omega)]
  · rw [if_pos (by omega), if_neg (by omega), if_pos (by omega), Nat.xor_assoc]
  · rw [if_pos (by omega), if_pos (by omega), if_neg (by omega), Nat.xor_assoc, Nat.xor_comm (b / 2), ← Nat.xor_assoc]
  · rw [if_neg (by omega), if_pos (by omega), if_pos (by omega)]
    rw [show (a / 2 ^^^ 2197175160) ^^^ (b / 2 ^^^ 2197175160) = (a / 2 ^^^ b / 2) ^^^ (2197175160 ^^^ 2197175160) by ac_rfl]
    simp
theorem split16 (x : Nat) : x = 16 * (x / 16) ^^^ x % 16 := by
  have h := Nat.two_pow_add_eq_or_of_lt (i := 4) (b := x % 16) (by omega) (x / 16)
  have h3 : 2 ^ 4 * (x / 16) ^^^ x % 16 = 2 ^ 4 * (x / 16) ||| x % 16 := by
    apply Nat.eq_of_testBit_eq
    intro j
    rw [Nat.testBit_xor, Nat.testBit_or]
    by_cases hj : j < 4
    · have : (2 ^ 4 * (x / 16)).testBit j = false := by rw [Nat.testBit_two_pow_mul]; simp [Nat.not_le.2 hj]
      simp [this]
    · have : (x % 16).testBit j = false := Nat.testBit_lt_two_pow (Nat.lt_of_lt_of_le (by omega) (Nat.pow_le_pow_right (by decide) (Nat.le_of_not_lt hj)))
      simp [this]
  have h4 : x = 2 ^ 4 * (x / 16) + x % 16 := by omega
  rw [h, ← h3] at h4
  exact h4
theorem bit1_even (q : Nat) : bit1 (2 * q) = q := by unfold bit1; rw [if_neg (by omega)]; omega
theorem half_bits (x : Nat) : half x = bit1 (bit1 (bit1 (bit1 x))) := by
  have hr := (show ∀ i, i < 16 → bit1 (bit1 (bit1 (bit1 i))) = nibs.getD i 0 by decide) (x % 16) (by omega)
  rw [show bit1 (bit1 (bit1 (bit1 x))) = bit1 (bit1 (bit1 (bit1 (16 * (x / 16) ^^^ x % 16)))) by rw [← split16 x]]
  rw [bit1_xor, bit1_xor, bit1_xor, bit1_xor, hr]
  rw [show 16 * (x / 16) = 2 * (2 * (2 * (2 * (x / 16)))) by omega, bit1_even, bit1_even, bit1_even, bit1_even]
  rfl
/-- k digits taken out. -/
def bitN : Nat → Nat → Nat
  | 0, x => x
  | k + 1, x => bit1 (bitN k x)
theorem stepB_bits (x : Nat) (c : UInt8) : stepB x c = bitN 8 (x ^^^ c.toNat) := by
  unfold stepB
  rw [half_bits, half_bits]
  rfl
theorem bit1_lt {x : Nat} (h : x < 4294967296) : bit1 x < 4294967296 := by
  unfold bit1
  split
  · exact xor_lt32 (by omega) (by decide)
  · omega
theorem bitN_lt {x : Nat} (k : Nat) (h : x < 4294967296) : bitN k x < 4294967296 := by
  induction k with
  | zero => exact h
  | succ k ih => exact bit1_lt ih
end Go.Proofs.YtjnemopocmhfkaaDoor
end
section
namespace Go.Proofs.YtjnemopocmhfkaaDoor
open Go.RowKit

def TabOk (w : World) : Prop := ∀ i, i < 16 → w.cell? ⟨0, i, none⟩ = some (.int .u32 ((nibs.getD i 0 : Nat) : Int))
theorem and15 (s : Nat) (h : s < 4294967296) : bits .and .u32 (s : Int) 15 = ((s % 16 : Nat) : Int) := by
  have := u32_and_nat s 15 h (by decide)
  rw [show ((15 : Nat) : Int) = 15 from rfl] at this
  rw [this, nat_mask4]
theorem shr_xor (s n : Nat) (h : s < 4294967296) (hn : n < 4294967296) : bits .xor .u32 ((s : Int) / 16) (n : Int) = (((s / 16) ^^^ n : Nat) : Int) := by
  have := u32_xor_nat (s / 16) n (by omega) hn
  rw [← this]; rfl
theorem TabOk.below {w w' : World} {B : Nat} (h : TabOk w) (hb : Below B w w') (hB : 0 < B) : TabOk w' := fun i hi => (hb.cell (p := ⟨0, i, none⟩) hB).trans (h i hi)
theorem TabOk.pos {w : World} (h : TabOk w) : 0 < w.heap.size := World.block_lt_of_cell? w ⟨0, 0, none⟩ (h 0 (by omega))
set_option maxHeartbeats 400000 in
theorem feed_any (A : Option Addr) (rs : List (List UInt8)) (cp : Nat) (x : Nat) (hx : x < 4294967296) (w : World) (hr : RdR w w.heap.size A rs) (ht : TabOk w) :
    Calls Tryd.prog 56 #[.int .u32 (x : Int), .slice A rs.length cp] w fun e w' => e = .returned (.int .u32 ((feedR x rs : Nat) : Int)) ∧ w' = w := by
  have hm := hr.1
  go_enter Tryd.func56, Tryd.ntmps56
  go_wp2
  go_loop [0, 11] (fun v i => ∃ k : Nat, k ≤ rs.length ∧ i = .int .i64 k ∧ v = .int .u32 ((feedR x (rs.take k) : Nat) : Int)) (fun _ i => rs.length - (intOf i).toNat)
  case atStart => exact ⟨0, Nat.zero_le _, rfl, rfl⟩
  case round =>
    obtain ⟨k, hk, rfl, rfl⟩ := hrel
    have hy := feedR_lt (rs.take k) hx
    by_cases hlt : k < rs.length
    · obtain ⟨b, off, rfl, hb, hc⟩ := hr.2 (by omega)
      obtain ⟨A', c', h1, h2⟩ := hc k hlt
      have Hsn := Lib.hid (feedR_snoc x rs k hlt)
      generalize rs.getD k [] = row at h1 h2 Hsn
      generalize feedR x (rs.take k) = y at hy Hsn
      clear hc
      have hlen := h2.1
      go_wp2
      go_loop [0, 17] (fun v i => ∃ j : Nat, j ≤ row.length ∧ i = .int .i64 j ∧ v = .int .u32 ((feedB y (row.take j) : Nat) : Int)) (fun _ i => row.length - (intOf i).toNat)
      case atStart => exact ⟨0, Nat.zero_le _, rfl, rfl⟩
      case round =>
        obtain ⟨j, hj, rfl, rfl⟩ := hrel
        have hz := feedB_lt (row.take j) hy
        by_cases hlt2 : j < row.length
        · obtain ⟨b2, off2, rfl, hb2, hc2⟩ := h2.2 (by omega)
          have h3 := hc2 j hlt2
          have Hsn2 := Lib.hid (feedB_snoc y row j hlt2)
          generalize row.getD j 0 = c at h3 Hsn2
          generalize feedB y (row.take j) = z at hz Hsn2
          have hcb : c.toNat < 256 := c.toNat_lt
          clear hc2
          have e0 := u32_xor_nat z c.toNat hz (by omega)
          have hs0 := xor_lt32 hz (show c.toNat < 4294967296 by omega)
          have Hst : Hid (stepB z c = half (half (z ^^^ c.toNat))) := rfl
          generalize z ^^^ c.toNat = s0 at e0 hs0 Hst
          have e1 := and15 s0 hs0
          have t1 := ht (s0 % 16) (by omega)
          have n1 := nibs_lt (s0 % 16)
          have e2 := shr_xor s0 _ hs0 n1
          have hs1 := half_lt hs0
          rw [show (s0 / 16) ^^^ nibs.getD (s0 % 16) 0 = half s0 from rfl] at e2
          generalize half s0 = s1 at e2 hs1 Hst
          generalize nibs.getD (s0 % 16) 0 = m1 at t1 n1 e2
          have e3 := and15 s1 hs1
          have t2 := ht (s1 % 16) (by omega)
          have n2 := nibs_lt (s1 % 16)
          have e4 := shr_xor s1 _ hs1 n2
          have hs2 := half_lt hs1
          rw [show (s1 / 16) ^^^ nibs.getD (s1 % 16) 0 = half s1 from rfl] at e4
          generalize half s1 = s2 at e4 hs2 Hst
          generalize nibs.getD (s1 % 16) 0 = m2 at t2 n2 e4
          go_wp2
          go_round
          case rel => exact ⟨j + 1, by omega, by go_num, by rw [Hsn2.out, Hst.out]⟩
          case measure => simp [intOf]; omega
        · obtain rfl : j = row.length := by omega
          go_wp2
          go_round
          case rel => exact ⟨k + 1, by omega, by go_num, by rw [Hsn.out, List.take_length]⟩
          case measure => simp [intOf]; omega
    · obtain rfl : k = rs.length := by omega
      go_wp2
      go_ret
      exact ⟨rfl, rfl⟩
end Go.Proofs.YtjnemopocmhfkaaDoor
end
section
namespace Go.Proofs.YtjnemopocmhfkaaDoor
open Go.RowKit

/-- A part of a piece of code. -/
def sub : List Nat → Code → Code
  | [], c => c
  | 0 :: p, .seq a _ => sub p a
  | _ :: p, .seq _ b => sub p b
  | _ :: p, .block _ c => sub p c
  | _ :: p, .loop c => sub p c
  | _ :: p, .scope c => sub p c
  | 0 :: p, .cond _ a _ => sub p a
  | _ :: p, .cond _ _ b => sub p b
  | _, c => c
end Go.Proofs.YtjnemopocmhfkaaDoor
end
