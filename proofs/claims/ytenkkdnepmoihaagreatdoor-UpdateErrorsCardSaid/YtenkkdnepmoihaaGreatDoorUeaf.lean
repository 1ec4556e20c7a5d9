/- Texts put together: OwnZ, Rows2, PlaceBackMath, PlaceAll, Str, EqualR, OwnInt, SupMath, RecMath, OwnFull, Laid. -/
import Derived.Test.YtenkkdnepmoihaaGreatDoorUeaa
import Derived.Lib.AppendZerosOnto
import Derived.Deep.Matrix
import Derived.Laws.BytesArg
import Derived.Laws.BytesString
import Derived.Lib.ConvBytes
import Derived.Test.YtenkkdnepmoihaaGreatDoorProg
import Derived.Test.YtenkkdnepmoihaaGreatDoorCards
import Derived.Test.YtenkkdnepmoihaaGreatDoorTie
section
namespace Go.Proofs.YtenkkdnepmoihaaGreatDoor
open Go.RowKit

theorem zeroCells_u8 (n : Nat) : (Builtin.zeroCells (Value.int .u8 0).cells n).toList = List.replicate n (.int .u8 0) := by
  rw [← toList_madeCells_one]
  rw [show Builtin.zeroCells (Value.int .u8 0).cells n = madeCells #[.int .u8 0] (n * 1) from rfl, Nat.mul_one]
theorem zeroCells_size (n : Nat) : (Builtin.zeroCells (Value.int .u8 0).cells n).size = n := by
  rw [← Array.length_toList, zeroCells_u8, List.length_replicate]
section
variable {P : Program} (w : World)
end
end Go.Proofs.YtenkkdnepmoihaaGreatDoor
end
section
namespace Go.Proofs.YtenkkdnepmoihaaGreatDoor
open Go.ChangeShapes Go.WideShapes Go.ChangeAt Go.RowKit

section
variable {H : Type} {enc : TypeId × Value → H} {P : Program}
end

/-- A block of bytes that a literal made. -/
theorem rdb_lit {w : World} {g : Nat} {cs : Array Value} {t : TypeId} {f : Nat × Nat} {bs : List UInt8} (hg : w.heap[g]? = some (.cells cs t f)) (hl : bs.length ≤ 140737488355328) (hcs : cs.toList = bs.map bv) : RdB w w.heap.size (some ⟨g, 0, none⟩) bs :=
  rdb_block hg (Array.getElem?_eq_some_iff.1 hg).1 hl fun k hk => by
    rw [← Array.getElem?_toList, hcs, List.getElem?_map, List.getElem?_eq_getElem hk, List.getD_eq_getElem?_getD, List.getElem?_eq_getElem hk]
    rfl
end Go.Proofs.YtenkkdnepmoihaaGreatDoor
end
section
namespace Go.Proofs.YtenkkdnepmoihaaGreatDoor

/-- A level and so many disks, one by one. -/
theorem ld_cases {l d c : Int} (h : gOk l d c = true) : (l = 5 ∧ d = 3) ∨ (l = 5 ∧ d = 4) ∨ (l = 5 ∧ d = 5) ∨ (l = 5 ∧ d = 6) ∨ (l = 5 ∧ d = 7) ∨ (l = 5 ∧ d = 8) ∨ (l = 6 ∧ d = 4) ∨ (l = 6 ∧ d = 5) ∨ (l = 6 ∧ d = 6) ∨ (l = 6 ∧ d = 7) ∨ (l = 6 ∧ d = 8) := by
  obtain ⟨h1, h8, _⟩ := gOk_yes h
  rcases h1 with ⟨rfl, h3⟩ | ⟨rfl, h4⟩
  · have hd : d = 3 ∨ d = 4 ∨ d = 5 ∨ d = 6 ∨ d = 7 ∨ d = 8 := by omega
    rcases hd with rfl | rfl | rfl | rfl | rfl | rfl <;> simp
  · have hd : d = 4 ∨ d = 5 ∨ d = 6 ∨ d = 7 ∨ d = 8 := by omega
    rcases hd with rfl | rfl | rfl | rfl | rfl <;> simp
theorem plK_only {l d c i r k : Int} (h : plDok l d c r k = true) (he : plD l d c r k = i) : k = plK l d c i r := by
  obtain ⟨hk, h0, h1⟩ := plDok_yes h
  obtain ⟨hg, _, _⟩ := plOk_yes hk
  have hf := plF_bd l c r (show 1 ≤ d by have := gOk_bd hg; omega)
  rw [plD_yes h] at he
  rw [gWid_yes hg] at h1
  unfold plK
  generalize plF l d c r = f at hf he
  subst he
  rcases ld_cases hg with ⟨rfl, rfl⟩ | ⟨rfl, rfl⟩ | ⟨rfl, rfl⟩ | ⟨rfl, rfl⟩ | ⟨rfl, rfl⟩ | ⟨rfl, rfl⟩ | ⟨rfl, rfl⟩ | ⟨rfl, rfl⟩ | ⟨rfl, rfl⟩ | ⟨rfl, rfl⟩ | ⟨rfl, rfl⟩ <;> omega
end Go.Proofs.YtenkkdnepmoihaaGreatDoor
end
section
namespace Go.Proofs.YtenkkdnepmoihaaGreatDoor

theorem wd_cases {l d c : Int} (h : gOk l d c = true) : (d - (l - 4) = 2 ∨ d - (l - 4) = 3 ∨ d - (l - 4) = 4 ∨ d - (l - 4) = 5 ∨ d - (l - 4) = 6 ∨ d - (l - 4) = 7) ∧ (c = 1 ∨ c = 2 ∨ c = 4) := by
  obtain ⟨h1, h8, hc⟩ := gOk_yes h
  refine ⟨?_, hc⟩
  omega
/-- The place of a sector: its row, its data chunk; and the number that stands there. -/
theorem of_row {l d c n : Int} (hg : gOk l d c = true) (h0 : 0 ≤ n) (h1 : n < gCap l d c) :
    0 ≤ plRow l d c n ∧ plRow l d c n < 16 ∧ 0 ≤ n / c % (d - (l - 4)) ∧ n / c % (d - (l - 4)) < d - (l - 4) ∧ plRow l d c n / c = n / c / (d - (l - 4)) ∧ plN l d c (plRow l d c n) (n / c % (d - (l - 4))) = n := by
  obtain ⟨hw, hc⟩ := wd_cases hg
  rw [gCap_yes hg] at h1
  unfold plN plRow
  generalize d - (l - 4) = wd at hw h1
  rcases hw with rfl | rfl | rfl | rfl | rfl | rfl <;> rcases hc with rfl | rfl | rfl <;> omega
/-- The number in a row, of a data chunk: its place is there. -/
theorem num_row {l d c r k : Int} (h : plDok l d c r k = true) : 0 ≤ plN l d c r k ∧ plN l d c r k < gCap l d c ∧ plRow l d c (plN l d c r k) = r ∧ plN l d c r k / c % (d - (l - 4)) = k := by
  obtain ⟨hk, k0, k1⟩ := plDok_yes h
  obtain ⟨hg, r0, r1⟩ := plOk_yes hk
  obtain ⟨hw, hc⟩ := wd_cases hg
  rw [gWid_yes hg] at k1
  rw [gCap_yes hg]
  unfold plN plRow
  generalize d - (l - 4) = wd at hw k1
  rcases hw with rfl | rfl | rfl | rfl | rfl | rfl <;> rcases hc with rfl | rfl | rfl <;> omega
theorem plDok_mk {l d c r k : Int} (h : plOk l d c r = true) (k0 : 0 ≤ k) (k1 : k < d - (l - 4)) : plDok l d c r k = true := by
  unfold plDok
  rw [h, gWid_yes (plOk_yes h).1, decide_eq_true ⟨k0, k1⟩]; rfl
/-- Data stands on no disk of parity. -/
theorem data_ne {l d c r k : Int} (h : plDok l d c r k = true) : 0 ≤ plD l d c r k ∧ plD l d c r k < d ∧ plD l d c r k ≠ plP l d c r ∧ plD l d c r k ≠ plQ l d c r := by
  obtain ⟨hk, k0, k1⟩ := plDok_yes h
  obtain ⟨hg, _, _⟩ := plOk_yes hk
  have hm := rem_bd (r / c) (show 1 ≤ d by have := gOk_bd hg; omega)
  rw [plD_yes h, plP_yes hk]
  rw [gWid_yes hg] at k1
  unfold plQ plF
  rw [if_pos hk]
  generalize r / c % d = m at hm
  rcases ld_cases hg with ⟨rfl, rfl⟩ | ⟨rfl, rfl⟩ | ⟨rfl, rfl⟩ | ⟨rfl, rfl⟩ | ⟨rfl, rfl⟩ | ⟨rfl, rfl⟩ | ⟨rfl, rfl⟩ | ⟨rfl, rfl⟩ | ⟨rfl, rfl⟩ | ⟨rfl, rfl⟩ | ⟨rfl, rfl⟩ <;> simp <;> omega
theorem parity_in {l d c r : Int} (hk : plOk l d c r = true) : 0 ≤ plP l d c r ∧ plP l d c r < d ∧ (l = 5 → plQ l d c r = -1) ∧ (l = 6 → 0 ≤ plQ l d c r ∧ plQ l d c r < d ∧ plQ l d c r ≠ plP l d c r) := by
  obtain ⟨hg, _, _⟩ := plOk_yes hk
  have hm := rem_bd (r / c) (show 1 ≤ d by have := gOk_bd hg; omega)
  rw [plP_yes hk]
  unfold plQ
  rw [if_pos hk]
  generalize r / c % d = m at hm
  rcases ld_cases hg with ⟨rfl, rfl⟩ | ⟨rfl, rfl⟩ | ⟨rfl, rfl⟩ | ⟨rfl, rfl⟩ | ⟨rfl, rfl⟩ | ⟨rfl, rfl⟩ | ⟨rfl, rfl⟩ | ⟨rfl, rfl⟩ | ⟨rfl, rfl⟩ | ⟨rfl, rfl⟩ | ⟨rfl, rfl⟩ <;> simp <;> omega
/-- What stands at data's place. -/
theorem back_data {l d c r k : Int} (h : plDok l d c r k = true) : plBOk l d c (plD l d c r k) r = true ∧ plBk l d c (plD l d c r k) r = 0 ∧ plBn l d c (plD l d c r k) r = plN l d c r k := by
  obtain ⟨a, b, e1, e2⟩ := data_ne h
  have hk := (plDok_yes h).1
  have hb : plBOk l d c (plD l d c r k) r = true := by unfold plBOk; rw [hk, decide_eq_true ⟨a, b⟩]; rfl
  refine ⟨hb, ?_, ?_⟩
  · unfold plBk; rw [if_pos hb, if_neg e1, if_neg e2]
  · unfold plBn; rw [if_pos hb, if_neg e1, if_neg e2, ← plK_only h rfl]
theorem of_yes {l d c n : Int} (hg : gOk l d c = true) (h0 : 0 ≤ n) (h1 : n < gCap l d c) :
    plOfOk l d c n = true ∧ plOfR l d c n = plRow l d c n ∧ plOfD l d c n = plD l d c (plRow l d c n) (n / c % (d - (l - 4))) ∧ plDok l d c (plRow l d c n) (n / c % (d - (l - 4))) = true := by
  obtain ⟨a, b, k0, k1, _, _⟩ := of_row hg h0 h1
  have hok : plOfOk l d c n = true := decide_eq_true ⟨h0, h1⟩
  exact ⟨hok, by rw [plOfR, if_pos hok], by rw [plOfD, if_pos hok], plDok_mk (plOk_mk hg a b) k0 k1⟩
theorem of_back {l d c n : Int} (hg : gOk l d c = true) (h0 : 0 ≤ n) (h1 : n < gCap l d c) :
    plOfOk l d c n = true ∧ (0 ≤ plOfD l d c n ∧ plOfD l d c n < d) ∧ (0 ≤ plOfR l d c n ∧ plOfR l d c n < 16) ∧ plBOk l d c (plOfD l d c n) (plOfR l d c n) = true ∧ plBk l d c (plOfD l d c n) (plOfR l d c n) = 0 ∧ plBn l d c (plOfD l d c n) (plOfR l d c n) = n := by
  obtain ⟨a, b, k0, k1, _, hN⟩ := of_row hg h0 h1
  obtain ⟨hok, hr, hd, hk⟩ := of_yes hg h0 h1
  obtain ⟨b1, b2, b3⟩ := back_data hk
  obtain ⟨d0, d1, _, _⟩ := data_ne hk
  rw [hr, hd]
  exact ⟨hok, ⟨d0, d1⟩, ⟨a, b⟩, b1, b2, by rw [b3]; exact hN⟩
theorem of_num {l d c r k : Int} (h : plDok l d c r k = true) : plOfOk l d c (plN l d c r k) = true ∧ plOfD l d c (plN l d c r k) = plD l d c r k ∧ plOfR l d c (plN l d c r k) = r := by
  have hg := (plOk_yes (plDok_yes h).1).1
  obtain ⟨n0, n1, hr, hk⟩ := num_row h
  obtain ⟨hok, h2, h3, _⟩ := of_yes hg n0 n1
  refine ⟨hok, ?_, ?_⟩
  · rw [h3, hr, hk]
  · rw [h2, hr]
end Go.Proofs.YtenkkdnepmoihaaGreatDoor
end
section
namespace Go.Proofs.YtenkkdnepmoihaaGreatDoor
open Go.RowKit

end Go.Proofs.YtenkkdnepmoihaaGreatDoor
end
section
set_option maxRecDepth 8000
set_option linter.unusedVariables false
set_option linter.unusedSimpArgs false
namespace Go.Proofs.YtenkkdnepmoihaaGreatDoor
open Go.RowKit

end Go.Proofs.YtenkkdnepmoihaaGreatDoor
end
section
set_option linter.unusedVariables false
set_option linter.unusedSimpArgs false
namespace Go.Proofs.YtenkkdnepmoihaaGreatDoor
open Go.RowKit

def zv (z : Int) : Value := .int .i64 z
/-- The slice value v owns these numbers, in a block from B on. -/
def OwJ (w : World) (B : Nat) (v : Value) (zs : List Int) : Prop := w.ownsRow B 3 1 v zs.length (zs.map zv)
/-- The slice reads as these numbers; its cells lie below block B. -/
def RdJ (w : World) (B : Nat) (A : Option Addr) (zs : List Int) : Prop :=
  zs.length ≤ 140737488355328 ∧ (0 < zs.length → ∃ b off, A = some ⟨b, off, none⟩ ∧ b < B ∧ ∀ j, j < zs.length → w.cell? ⟨b, off + j, none⟩ = some (.int .i64 (zs.getD j 0)))
theorem RdJ.nil (w : World) (B : Nat) (A : Option Addr) : RdJ w B A [] := ⟨by simp, fun h => by simp at h⟩
theorem OwJ.below {w w' : World} {B : Nat} {v : Value} {zs : List Int} (h : OwJ w B v zs) (hb : Below w.heap.size w w') : OwJ w' B v zs := World.ownsRow.kept h (grown_none hb) (Classical.em _)
theorem OwJ.rd {w : World} {B : Nat} {v : Value} {zs : List Int} (h : OwJ w B v zs) (hl : zs.length ≤ 140737488355328) : ∃ A c, v = .slice A zs.length c ∧ RdJ w w.heap.size A zs := by
  rcases h.2 with ⟨rfl, h0⟩ | ⟨g, cap, cur, rfl, hB, hg, _⟩
  · exact ⟨none, 0, by rw [h0], hl, fun h => by omega⟩
  · refine ⟨_, cap, rfl, hl, fun _ => ⟨g, 0, rfl, (Array.getElem?_eq_some_iff.1 hg).1, fun j hj => ?_⟩⟩
    rw [Nat.zero_add, World.ownsRow.cellAt h j (by omega)]
    simp [hj, zv]
theorem OwJ.le {w : World} {B B' : Nat} {v : Value} {zs : List Int} (h : OwJ w B v zs) (hB : B' ≤ B) : OwJ w B' v zs := by
  refine ⟨h.1, ?_⟩
  rcases h.2 with h1 | ⟨g, cap, cur, h1, h2, r⟩
  · exact .inl h1
  · exact .inr ⟨g, cap, cur, h1, by omega, r⟩
theorem info_z : (Tryz.prog.info? 3).map (fun i => (i.zero, i.size, i.bytes)) = some (some (.int .i64 0), 1, 8) := by kernel_rfl
theorem make_ints (n : Nat) (hn : n ≤ 1000000) (w : World) :
    (Instr.makeSlice 22 (.int .i64 (n : Int)) (.int .i64 (n : Int))).run Tryz.prog w = .ok (.slice (some ⟨w.heap.size, 0, none⟩) n n) (w.alloc (.cells (madeCells #[.int .i64 0] n) 3)) :=
  run_make_row' _ _ _ 8 Tryz.underlying22 info_z rfl _ _ n (by omega) (by omega) w
theorem ownJ_make (w : World) (n : Nat) (hn : n ≤ 1000000) : OwJ (w.alloc (.cells (madeCells #[.int .i64 0] n) 3)) w.heap.size (.slice (some ⟨w.heap.size, 0, none⟩) n n) (List.replicate n 0) := by
  have h := World.ownsRow_lit (base := w.heap.size) (e := 3) (size := 1) w (madeCells #[.int .i64 0] n) n (Nat.le_refl _) (by unfold maxLen; omega) (by simp [size_madeCells])
  rw [toList_madeCells_one] at h
  unfold OwJ
  simpa [zv] using h
theorem OwJ.set {w : World} {B g n c : Nat} {zs : List Int} (h : OwJ w B (.slice (some ⟨g, 0, none⟩) n c) zs) (hn : n = zs.length) (j : Nat) (z : Int) : OwJ (w.setCell ⟨g, j, none⟩ (.int .i64 z)) B (.slice (some ⟨g, 0, none⟩) n c) (zs.set j z) := by
  subst hn
  have h1 := (World.ownsRow.stored h j (.int .i64 z)).1
  unfold OwJ
  rw [List.length_set, List.map_set]
  exact h1
theorem OwJ.cellF {w : World} {B g n c : Nat} {zs : List Int} (h : OwJ w B (.slice (some ⟨g, 0, none⟩) n c) zs) (hn : n = zs.length) (j : Nat) (hj : j < n) : w.cell? ⟨g, j, none⟩ = some (.int .i64 (zs.getD j 0)) ∧ w.frozen? ⟨g, j, none⟩ = false := by
  subst hn
  refine ⟨?_, World.ownsRow.frozenAt h j⟩
  rw [World.ownsRow.cellAt h j (by omega)]
  simp [hj, zv]
end Go.Proofs.YtenkkdnepmoihaaGreatDoor
end
section
namespace Go.Proofs.YtenkkdnepmoihaaGreatDoor

/-- Byte k of a number, from its low end. -/
def byN (n : Int) (k : Nat) : UInt8 := UInt8.ofNat (n.toNat / 256 ^ k)
/-- The number that bytes tell, the greatest first. -/
def numB (bs : List UInt8) : Nat := bs.foldl (fun n x => n * 256 + x.toNat) 0
theorem numB_four (a b c d : UInt8) : numB [a, b, c, d] = ((a.toNat * 256 + b.toNat) * 256 + c.toNat) * 256 + d.toNat := by simp [numB]
theorem byN_four {n : Int} (h : 1 ≤ n ∧ n ≤ 2147483647) : ((numB [byN n 3, byN n 2, byN n 1, byN n 0] : Nat) : Int) = n := by
  rw [numB_four]; simp only [byN, UInt8.toNat_ofNat']; omega
end Go.Proofs.YtenkkdnepmoihaaGreatDoor
end
section
namespace Go.Proofs.YtenkkdnepmoihaaGreatDoor

/-- An Item: its disk, its place, its bytes. -/
structure It where
  d : Int
  a : Int
  b : List UInt8
def itZ : It := ⟨0, 0, []⟩
/-- Whole numbers of 64 digits, and bytes that fit in memory. -/
structure It64 (x : It) : Prop where
  d : (-9223372036854775808 ≤ x.d ∧ x.d ≤ 9223372036854775807)
  a : (-9223372036854775808 ≤ x.a ∧ x.a ≤ 9223372036854775807)
theorem It.ext' {x y : It} (h1 : x.d = y.d) (h2 : x.a = y.a) (h3 : x.b = y.b) : x = y := by
  obtain ⟨a1, a2, a3⟩ := x
  obtain ⟨b1, b2, b3⟩ := y
  dsimp only at h1 h2 h3
  subst h1 h2 h3
  rfl
def mayB (x : It) : Bool := decide (0 ≤ x.d ∧ x.d < 8 ∧ 36 ≤ x.a ∧ x.a < 52 ∧ x.b.length = 32)
def meetsB (x y : It) : Bool := decide (x.d = y.d ∧ x.a = y.a)
theorem mayB_iff (x : It) : mayB x = true ↔ (0 ≤ x.d ∧ x.d < 8 ∧ 36 ≤ x.a ∧ x.a < 52 ∧ x.b.length = 32) := by simp [mayB]
theorem meetsB_iff (x y : It) : meetsB x y = true ↔ (x.d = y.d ∧ x.a = y.a) := by simp [meetsB]
def itN (l : List It) (k : Nat) : It := l.getD k itZ
/-- The first n of them may be beside one another. -/
def fineN (l : List It) (n : Nat) : Bool := decide (∀ k, k < n → mayB (itN l k) = true ∧ ∀ j, j < k → meetsB (itN l k) (itN l j) = false)
theorem fineN_iff (l : List It) (n : Nat) : fineN l n = true ↔ ∀ k, k < n → mayB (itN l k) = true ∧ ∀ j, j < k → meetsB (itN l k) (itN l j) = false := by simp [fineN]
def recOk (s : Int) (l : List It) : Bool := decide (1 ≤ s ∧ s ≤ 2147483647 ∧ l.length ≤ 3) && fineN l l.length
theorem recOk_iff (s : Int) (l : List It) : recOk s l = true ↔ (1 ≤ s ∧ s ≤ 2147483647 ∧ l.length ≤ 3) ∧ fineN l l.length = true := by simp [recOk]
def recErr (s : Int) (l : List It) : Int := if recOk s l = true then 0 else 1
theorem recErr_yes {s : Int} {l : List It} (h : recOk s l = true) : recErr s l = 0 := if_pos h
theorem recErr_no {s : Int} {l : List It} (h : recOk s l = false) : recErr s l = 1 := if_neg (by rw [h]; decide)
theorem recOk_no {s : Int} {l : List It} (h : ¬ (1 ≤ s ∧ s ≤ 2147483647 ∧ l.length ≤ 3)) : recOk s l = false := by
  rw [← Bool.not_eq_true]; exact fun h' => h ((recOk_iff s l).1 h').1
theorem recOk_at {s : Int} {l : List It} (k : Nat) (hk : k < l.length) (h : mayB (itN l k) = false) : recOk s l = false := by
  rw [← Bool.not_eq_true]; intro h'
  have := ((fineN_iff _ _).1 ((recOk_iff s l).1 h').2 k hk).1
  rw [h] at this; cases this
theorem recOk_two {s : Int} {l : List It} (k j : Nat) (hk : k < l.length) (hj : j < k) (h : meetsB (itN l k) (itN l j) = true) : recOk s l = false := by
  rw [← Bool.not_eq_true]; intro h'
  have := ((fineN_iff _ _).1 ((recOk_iff s l).1 h').2 k hk).2 j hj
  rw [h] at this; cases this
theorem itN_mem {l : List It} {k : Nat} (hk : k < l.length) : itN l k ∈ l := by
  unfold itN
  rw [List.getD_eq_getElem?_getD, List.getElem?_eq_getElem hk]
  exact List.getElem_mem hk
theorem recOk_may {s : Int} {l : List It} (h : recOk s l = true) (x : It) (hx : x ∈ l) : 0 ≤ x.d ∧ x.d < 8 ∧ 36 ≤ x.a ∧ x.a < 52 ∧ x.b.length = 32 := by
  obtain ⟨k, hk, rfl⟩ := List.getElem_of_mem hx
  have := ((fineN_iff _ _).1 ((recOk_iff s l).1 h).2 k hk).1
  rw [show itN l k = l[k] from by simp [itN, List.getD_eq_getElem?_getD, hk]] at this
  exact (mayB_iff _).1 this
theorem byX_one {n : Int} (h : 0 ≤ n ∧ n ≤ 255) : (((byN n 0).toNat : Nat) : Int) = n := by
  simp only [byN, UInt8.toNat_ofNat']; omega
/-- What the first sector says of the Items. -/
def plcB (l : List It) : List UInt8 := l.flatMap fun x => [byN x.d 0, byN x.a 0]
theorem plcB_len (l : List It) : (plcB l).length = 2 * l.length := by
  induction l with
  | nil => rfl
  | cons x l ih => show (plcB l).length + 2 = _; rw [ih, List.length_cons]; omega
theorem plcB_snoc (l : List It) (x : It) : plcB (l ++ [x]) = plcB l ++ [byN x.d 0, byN x.a 0] := by simp [plcB]
def hdB (s : Int) (l : List It) : List UInt8 := [87, 82, 69, 67, byN s 3, byN s 2, byN s 1, byN s 0, UInt8.ofNat l.length] ++ plcB l
theorem hdB_len (s : Int) (l : List It) : (hdB s l).length = 9 + 2 * l.length := by
  show (plcB l).length + 9 = _; rw [plcB_len]; omega
def z32 : List UInt8 := List.replicate 32 0
/-- The first sector, ahead of its seal. -/
def fullB (s : Int) (l : List It) : List UInt8 := hdB s l ++ List.replicate (32 - (hdB s l).length) 0
theorem fullB_len {s : Int} {l : List It} (h : l.length ≤ 3) : (fullB s l).length = 32 := by
  simp only [fullB, List.length_append, hdB_len, List.length_replicate]; omega
def partsB (l : List It) : List (List UInt8) := l.map (·.b) ++ List.replicate (3 - l.length) z32
theorem partsB_len {l : List It} (h : l.length ≤ 3) : (partsB l).length = 3 := by simp [partsB]; omega
/-- A Record's sectors. -/
def recB (s : Int) (l : List It) : List (List UInt8) := stamped (fullB s l) (partsB l) :: partsB l
theorem recB_len {s : Int} {l : List It} (h : l.length ≤ 3) : (recB s l).length = 4 := by
  show (partsB l).length + 1 = 4; rw [partsB_len h]
/-- What the sectors say. -/
def sqO (rs : List (List UInt8)) : Int := numB [(rs.getD 0 []).getD 4 0, (rs.getD 0 []).getD 5 0, (rs.getD 0 []).getD 6 0, (rs.getD 0 []).getD 7 0]
def cnO (rs : List (List UInt8)) : Nat := ((rs.getD 0 []).getD 8 0).toNat
def itO (rs : List (List UInt8)) (i : Nat) : It := ⟨((rs.getD 0 []).getD (9 + 2 * i) 0).toNat, ((rs.getD 0 []).getD (10 + 2 * i) 0).toNat, rs.getD (1 + i) []⟩
def itsN (rs : List (List UInt8)) (n : Nat) : List It := (List.range n).map (itO rs)
def itsO (rs : List (List UInt8)) : List It := itsN rs (min (cnO rs) 3)
theorem itsN_len (rs : List (List UInt8)) (n : Nat) : (itsN rs n).length = n := by simp [itsN]
/-- They are four sectors. -/
def sect (rs : List (List UInt8)) : Bool := decide (rs.length = 4) && rs.all fun x => decide (x.length = 32)
theorem sect_iff (rs : List (List UInt8)) : sect rs = true ↔ rs.length = 4 ∧ ∀ x ∈ rs, x.length = 32 := by simp [sect]
theorem sect_get {rs : List (List UInt8)} (h : sect rs = true) (k : Nat) (hk : k < 4) : (rs.getD k []).length = 32 := by
  obtain ⟨h1, h2⟩ := (sect_iff rs).1 h
  rw [List.getD_eq_getElem?_getD, List.getElem?_eq_getElem (by omega)]
  exact h2 _ (List.getElem_mem _)
def rcO (rs : List (List UInt8)) : Bool := sect rs && recOk (sqO rs) (itsO rs) && decide (recB (sqO rs) (itsO rs) = rs)
theorem rcO_iff (rs : List (List UInt8)) : rcO rs = true ↔ sect rs = true ∧ recOk (sqO rs) (itsO rs) = true ∧ recB (sqO rs) (itsO rs) = rs := by simp [rcO, and_assoc]
def rcS (rs : List (List UInt8)) : Int := if rcO rs = true then sqO rs else 0
def rcL (rs : List (List UInt8)) : List It := if rcO rs = true then itsO rs else []
/-! The sectors of a Record say it. -/
theorem partsB_get {l : List It} (k : Nat) (hk : k < l.length) : (partsB l).getD k [] = (itN l k).b := by
  simp [partsB, itN, List.getD_eq_getElem?_getD, hk, List.getElem?_append_left]
theorem recB_get0 (s : Int) (l : List It) : (recB s l).getD 0 [] = stamped (fullB s l) (partsB l) := rfl
theorem recB_getS (s : Int) (l : List It) (k : Nat) : (recB s l).getD (1 + k) [] = (partsB l).getD k [] := by
  rw [Nat.add_comm]; simp [recB, List.getD_eq_getElem?_getD]
theorem stamped_get {bs : List UInt8} {rs : List (List UInt8)} (hl : bs.length = 32) (k : Nat) (hk : k < 28) : (stamped bs rs).getD k 0 = bs.getD k 0 := by
  unfold stamped
  rw [List.getD_eq_getElem?_getD, List.getElem?_append_left (by simp; omega), List.getElem?_take, if_pos hk, List.getD_eq_getElem?_getD]
theorem fullB_get {s : Int} {l : List It} (k : Nat) (hk : k < 9 + 2 * l.length) : (fullB s l).getD k 0 = (hdB s l).getD k 0 := by
  unfold fullB
  rw [List.getD_eq_getElem?_getD, List.getElem?_append_left (by rw [hdB_len]; exact hk), List.getD_eq_getElem?_getD]
theorem plcB_get (l : List It) (k : Nat) (hk : k < l.length) : (plcB l).getD (2 * k) 0 = byN (itN l k).d 0 ∧ (plcB l).getD (2 * k + 1) 0 = byN (itN l k).a 0 := by
  induction l generalizing k with
  | nil => simp at hk
  | cons x l ih =>
    match k with
    | 0 => exact ⟨rfl, rfl⟩
    | k + 1 =>
      have := ih k (by simp at hk; omega)
      refine ⟨?_, ?_⟩
      · exact this.1
      · exact this.2
theorem hdB_get9 (s : Int) (l : List It) (j : Nat) : (hdB s l).getD (9 + j) 0 = (plcB l).getD j 0 := by
  unfold hdB
  rw [List.getD_eq_getElem?_getD, List.getElem?_append_right (by simp), List.getD_eq_getElem?_getD]
  congr 2
  simp
theorem recB_by {s : Int} {l : List It} (h : l.length ≤ 3) (k : Nat) (hk : k < 9 + 2 * l.length) : ((recB s l).getD 0 []).getD k 0 = (hdB s l).getD k 0 := by
  rw [recB_get0, stamped_get (fullB_len h) k (by omega), fullB_get k hk]
theorem sqO_recB {s : Int} {l : List It} (h : recOk s l = true) : sqO (recB s l) = s := by
  obtain ⟨⟨h1, h2, h3⟩, _⟩ := (recOk_iff s l).1 h
  unfold sqO
  rw [recB_by h3 4 (by omega), recB_by h3 5 (by omega), recB_by h3 6 (by omega), recB_by h3 7 (by omega)]
  exact byN_four ⟨h1, h2⟩
theorem cnO_recB {s : Int} {l : List It} (h : l.length ≤ 3) : cnO (recB s l) = l.length := by
  unfold cnO
  rw [recB_by h 8 (by omega)]
  show (UInt8.ofNat l.length).toNat = _
  rw [UInt8.toNat_ofNat']; omega
theorem itO_recB {s : Int} {l : List It} (h : recOk s l = true) (k : Nat) (hk : k < l.length) : itO (recB s l) k = itN l k := by
  obtain ⟨⟨h1, h2, h3⟩, _⟩ := (recOk_iff s l).1 h
  have hm := recOk_may h _ (itN_mem hk)
  have e1 : ((recB s l).getD 0 []).getD (9 + 2 * k) 0 = byN (itN l k).d 0 := by
    rw [recB_by h3 _ (by omega), hdB_get9, (plcB_get l k hk).1]
  have e2 : ((recB s l).getD 0 []).getD (10 + 2 * k) 0 = byN (itN l k).a 0 := by
    rw [recB_by h3 _ (by omega), show 10 + 2 * k = 9 + (2 * k + 1) by omega, hdB_get9, (plcB_get l k hk).2]
  have e3 : (recB s l).getD (1 + k) [] = (itN l k).b := by rw [recB_getS, partsB_get k hk]
  apply It.ext'
  · show ((((recB s l).getD 0 []).getD (9 + 2 * k) 0).toNat : Int) = _
    rw [e1]; exact byX_one (by omega)
  · show ((((recB s l).getD 0 []).getD (10 + 2 * k) 0).toNat : Int) = _
    rw [e2]; exact byX_one (by omega)
  · exact e3
theorem itsO_recB {s : Int} {l : List It} (h : recOk s l = true) : itsO (recB s l) = l := by
  obtain ⟨⟨h1, h2, h3⟩, _⟩ := (recOk_iff s l).1 h
  have e : itsO (recB s l) = itsN (recB s l) l.length := by unfold itsO; rw [cnO_recB h3, Nat.min_eq_left h3]
  rw [e]
  apply List.ext_getElem (itsN_len _ _)
  intro k h1' h2'
  have := itO_recB h k h2'
  simp only [itsN, List.getElem_map, List.getElem_range]
  rw [this]
  simp [itN, List.getD_eq_getElem?_getD, h2']
theorem sect_recB {s : Int} {l : List It} (h : recOk s l = true) : sect (recB s l) = true := by
  obtain ⟨⟨h1, h2, h3⟩, _⟩ := (recOk_iff s l).1 h
  refine (sect_iff _).2 ⟨recB_len h3, fun x hx => ?_⟩
  rcases List.mem_cons.1 hx with rfl | hx
  · exact stamped_len _ _ (fullB_len h3)
  · rcases List.mem_append.1 hx with hx | hx
    · obtain ⟨y, hy, rfl⟩ := List.mem_map.1 hx
      exact (recOk_may h y hy).2.2.2.2
    · rw [(List.mem_replicate.1 hx).2]; rfl
theorem rcO_recB {s : Int} {l : List It} (h : recOk s l = true) : rcO (recB s l) = true := by
  refine (rcO_iff _).2 ⟨sect_recB h, ?_, ?_⟩
  · rw [sqO_recB h, itsO_recB h]; exact h
  · rw [sqO_recB h, itsO_recB h]
theorem rcS_recB {s : Int} {l : List It} (h : recOk s l = true) : rcS (recB s l) = s := (if_pos (rcO_recB h)).trans (sqO_recB h)
theorem rcL_recB {s : Int} {l : List It} (h : recOk s l = true) : rcL (recB s l) = l := (if_pos (rcO_recB h)).trans (itsO_recB h)
end Go.Proofs.YtenkkdnepmoihaaGreatDoor
end
section
set_option linter.unusedVariables false
set_option linter.unusedSimpArgs false
namespace Go.Proofs.YtenkkdnepmoihaaGreatDoor
open Go.RowKit

theorem rdb_cells {w : World} {B : Nat} {ad : Addr} {bs : List UInt8} (hr : RdB w B (some ad) bs) : ∀ j u, (bs.map bv)[j]? = some u → w.cell? (ad.add j) = some u := by
  intro j u hu
  simp only [List.getElem?_map, Option.map_eq_some_iff] at hu
  obtain ⟨b, hb1, rfl⟩ := hu
  obtain ⟨hj, rfl⟩ := List.getElem?_eq_some_iff.1 hb1
  obtain ⟨b2, off, h, _, hc⟩ := hr.2 (by omega)
  injection h with h
  subst h
  have e1 : ((⟨b2, off, none⟩ : Addr).add j) = ⟨b2, off + j, none⟩ := by unfold Addr.add; by_cases hk0 : j = 0 <;> simp [hk0]
  rw [e1, hc j hj]
  simp [bv, hj]
section
variable {P : Program} (w : World)
theorem run_append_F (t ty e : TypeId) (ht : P.underlying t = some (.slice e)) (hinfo : (P.info? e).map (fun i => (i.zero, i.size, i.bytes)) = some (some (.int .u8 0), 1, 1))
    (A0 : Option Addr) (n B0 : Nat) (xs : List UInt8) (hx : xs.length = n) (h0 : 0 < n) (hr0 : RdB w B0 A0 xs) (A : Option Addr) (m c B : Nat) (bs : List UInt8) (hm : m = bs.length) (hm0 : 0 < bs.length) (hr : RdB w B A bs) (hn : n + bs.length ≤ 1048576) :
    ∃ v' w', (Builtin.append_ #[t, t] ty #[.slice A0 n n, .slice A m c]).run P w = .ok v' w' ∧ OwB e w' w.heap.size v' (xs ++ bs) ∧ Below w.heap.size w w' := by
  subst hx hm
  obtain ⟨i, hi, hzz⟩ := Option.map_eq_some_iff.1 hinfo
  simp only [Prod.mk.injEq] at hzz
  obtain ⟨hz, hs, hb⟩ := hzz
  obtain ⟨b0, o0, rfl, _, _⟩ := hr0.2 h0
  obtain ⟨b1, o1, rfl, _, _⟩ := hr.2 hm0
  have hr2 := run_append_grow (P := P) w t ty e i _ ht hi hz ⟨b0, o0, none⟩ xs.length xs.length (xs.map bv) (by rw [hs]; simp) (rdb_cells hr0) ⟨b1, o1, none⟩ bs.length c (bs.map bv) (by rw [hs]; simp) (rdb_cells hr) (by omega) (by omega) (by
    have := growslice_fits (old := xs.length) (need := xs.length + bs.length) (bytes := i.bytes) (by omega) (by rw [hb]; omega)
    exact this)
  have hge := grownCap_ge w (xs.length + bs.length) xs.length e
  have hcm : grownCap w (xs.length + bs.length) xs.length e ≤ maxLen := grownCap_le_maxLen w (xs.length + bs.length) xs.length e (by unfold maxLen; omega)
  refine ⟨_, _, hr2, ⟨⟨by simp, .inr ⟨w.heap.size, _, _, by rw [List.length_append], Nat.le_refl _, heap_alloc_new w.drew _, by rw [List.length_append]; exact hge, hcm, ?_, ?_⟩⟩, by simp; omega⟩, ((Below.refl w.heap.size w).drew.trans (below1 w.drew _))⟩
  · simp only [Array.size_append, List.size_toArray, zeroCells_size, List.length_map]
    omega
  · simp only [Array.toList_append, List.map_append]
    rw [List.take_append_of_le_length (by simp), List.take_of_length_le (by simp)]
theorem wpList_append_F {ops : Array Oper} {rest : List Oper} {o : Oper} {a : Act} {Q : Exit → Act → World → Prop} (hw : Region.wanted o (yielded ops a.tmps) = true) (s x : Operand) (t : TypeId)
    (ho : o.op = .call { callee := .builtin .append, args := #[s, x], argTypes := #[t, t] })
    (e : TypeId) (ht : P.underlying t = some (.slice e)) (hinfo : (P.info? e).map (fun i => (i.zero, i.size, i.bytes)) = some (some (.int .u8 0), 1, 1))
    (A0 : Option Addr) (n B0 : Nat) (xs : List UInt8) (hs : a.eval s = .slice A0 n n) (hl : xs.length = n) (h0 : 0 < n) (hr0 : RdB w B0 A0 xs) (A : Option Addr) (m c B : Nat) (bs : List UInt8) (hx : a.eval x = .slice A m c) (hm : m = bs.length) (hm0 : 0 < bs.length) (hr : RdB w B A bs) (hn : n + bs.length ≤ 1048576)
    (h : ∀ v' w', OwB e w' w.heap.size v' (xs ++ bs) → Below w.heap.size w w' → wpList P ops Q rest (a.put o.dst v') w') : wpList P ops Q (o :: rest) a w := by
  refine BigFrame.wpList_want hw fun K hK => ?_
  obtain ⟨v', w', hrun, h2, h3⟩ := run_append_F (P := P) w t o.type e ht hinfo A0 n B0 xs hl h0 hr0 A m c B bs hm hm0 hr hn
  unfold Oper.wp execOp
  simp only [ho, resolve, invoke, builtin, Sem.run_bind, Sem.run_pure, Result.andThen_ok, List.map_toArray, List.map_cons, List.map_nil, hs, hx, hrun]
  exact hK _ _ (h v' w' h2 h3)
end
end Go.Proofs.YtenkkdnepmoihaaGreatDoor
end
section
namespace Go.Proofs.YtenkkdnepmoihaaGreatDoor
open Go.ChangeShapes Go.WideShapes Go.ChangeAt Go.RowKit

theorem laidOut : laidOutB Tryz.prog = true := by kernel_rfl
theorem own : ownKnob Tryz.prog.godebug = none := by kernel_rfl
theorem gTab : Tryz.prog.globalNamed "wattle/crc.nibbles" = some 0 := by kernel_rfl
theorem gTabType : (Tryz.prog.globals[0]?).map (·.type) = some 164 := by kernel_rfl
theorem cellsTab : Tryz.prog.cellsOf 164 = 16 := by kernel_rfl
theorem cellsU32 : Tryz.prog.cellsOf 145 = 1 := by kernel_rfl
def laidAll : List (String × DataW Unit) := [("wattle/crc.nibbles", Rows.laid_wattle_crc_nibbles)]
theorem table {W : World} (h : laidMetH Tryz.prog laidAll W) : Lib.TabIs Tryz.prog W "wattle/crc.nibbles" .u32 (nibs.map fun n : Nat => (n : Int)) :=
  Lib.tabIs_of_head (rest := []) gTab gTabType Tryz.underlying164 Tryz.underlying145 cellsU32 cellsTab h
theorem tabOk {W : World} (h : laidMetH Tryz.prog laidAll W) : TabOk W := fun i hi => by
  have h1 := (table h).cell gTab i (by simpa [nibs] using hi)
  rw [h1, (show ∀ i, i < 16 → (nibs.map fun n : Nat => (n : Int)).getD i 0 = ((nibs.getD i 0 : Nat) : Int) by decide) i hi]
/-- A world for the witness: the settled one, the table (block 0) holding what its initialiser lays. -/
noncomputable def laidWorld (os : Os) : World :=
  { World.holding Tryz.prog os ⟨#[], #[], []⟩ with heap := (World.holding Tryz.prog os ⟨#[], #[], []⟩).heap.modify 0 fun
      | .cells _ t frozen => .cells #[.int .u32 0, .int .u32 274646895, .int .u32 549293790, .int .u32 820201905, .int .u32 1098587580, .int .u32 1361435347, .int .u32 1640403810, .int .u32 1905808397, .int .u32 2197175160, .int .u32 2460548119, .int .u32 2722870694, .int .u32 2987750089, .int .u32 3280807620, .int .u32 3553878443, .int .u32 3811616794, .int .u32 4084100981] t frozen
      | o => o }
end Go.Proofs.YtenkkdnepmoihaaGreatDoor
end
