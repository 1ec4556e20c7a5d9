/- Slices of whole numbers: own ones, such as are read; Same of them. -/
import Derived.Test.YtabeadbnoifedaaProg
import Derived.Test.YtabeadbnoifedaaOwn
set_option linter.unusedVariables false
set_option linter.unusedSimpArgs false
namespace Go.Proofs.Ytabeadbnoifedaa
open Go.RowKit

def zv (z : Int) : Value := .int .i64 z
/-- The slice value v owns these numbers, in a block from B on. -/
def OwJ (w : World) (B : Nat) (v : Value) (zs : List Int) : Prop := w.ownsRow B 3 1 v zs.length (zs.map zv)
/-- The slice reads as these numbers; its cells lie below block B. -/
def RdJ (w : World) (B : Nat) (A : Option Addr) (zs : List Int) : Prop :=
  zs.length ≤ 140737488355328 ∧ (0 < zs.length → ∃ b off, A = some ⟨b, off, none⟩ ∧ b < B ∧ ∀ j, j < zs.length → w.cell? ⟨b, off + j, none⟩ = some (.int .i64 (zs.getD j 0)))
theorem RdJ.below {w w' : World} {B B' : Nat} {A : Option Addr} {zs : List Int} (h : RdJ w B A zs) (hb : Below B' w w') (hB : B ≤ B') : RdJ w' B A zs :=
  ⟨h.1, fun h0 => by
    obtain ⟨b, off, e, hlt, hc⟩ := h.2 h0
    exact ⟨b, off, e, hlt, fun j hj => (hb.cell (p := ⟨b, off + j, none⟩) (by show b < B'; omega)).trans (hc j hj)⟩⟩
theorem RdJ.more {w : World} {B B' : Nat} {A : Option Addr} {zs : List Int} (h : RdJ w B A zs) (hB : B ≤ B') : RdJ w B' A zs :=
  ⟨h.1, fun h0 => by
    obtain ⟨b, off, e, hlt, hc⟩ := h.2 h0
    exact ⟨b, off, e, by omega, hc⟩⟩
theorem RdJ.nil (w : World) (B : Nat) (A : Option Addr) : RdJ w B A [] := ⟨by simp, fun h => by simp at h⟩
theorem OwJ.below {w w' : World} {B : Nat} {v : Value} {zs : List Int} (h : OwJ w B v zs) (hb : Below w.heap.size w w') : OwJ w' B v zs := World.ownsRow.kept h (grown_none hb) (Classical.em _)
theorem OwJ.rd {w : World} {B : Nat} {v : Value} {zs : List Int} (h : OwJ w B v zs) (hl : zs.length ≤ 140737488355328) : ∃ A c, v = .slice A zs.length c ∧ RdJ w w.heap.size A zs := by
  rcases h.2 with ⟨rfl, h0⟩ | ⟨g, cap, cur, rfl, hB, hg, _⟩
  · exact ⟨none, 0, by rw [h0], hl, fun h => by omega⟩
  · refine ⟨_, cap, rfl, hl, fun _ => ⟨g, 0, rfl, (Array.getElem?_eq_some_iff.1 hg).1, fun j hj => ?_⟩⟩
    rw [Nat.zero_add, World.ownsRow.cellAt h j (by omega)]
    simp [hj, zv]
theorem OwJ.le {w : World} {B B' : Nat} {v : Value} {zs : List Int} (h : OwJ w B v zs) (hB : B' ≤ B) : OwJ w B' v zs := by
  refine ⟨h.1, ?_⟩
  rcases h.2 with h1 | ⟨g, cap, cur, h1, h2, r⟩
  · exact .inl h1
  · exact .inr ⟨g, cap, cur, h1, by omega, r⟩
theorem info_z : (Try.prog.info? 3).map (fun i => (i.zero, i.size, i.bytes)) = some (some (.int .i64 0), 1, 8) := by kernel_rfl
theorem make_ints (n : Nat) (hn : n ≤ 1000000) (w : World) :
    (Instr.makeSlice 29 (.int .i64 (n : Int)) (.int .i64 (n : Int))).run Try.prog w = .ok (.slice (some ⟨w.heap.size, 0, none⟩) n n) (w.alloc (.cells (madeCells #[.int .i64 0] n) 3)) :=
  run_make_row' _ _ _ 8 Try.underlying29 info_z rfl _ _ n (by omega) (by omega) w
theorem ownJ_make (w : World) (n : Nat) (hn : n ≤ 1000000) : OwJ (w.alloc (.cells (madeCells #[.int .i64 0] n) 3)) w.heap.size (.slice (some ⟨w.heap.size, 0, none⟩) n n) (List.replicate n 0) := by
  have h := World.ownsRow_lit (base := w.heap.size) (e := 3) (size := 1) w (madeCells #[.int .i64 0] n) n (Nat.le_refl _) (by unfold maxLen; omega) (by simp [size_madeCells])
  rw [toList_madeCells_one] at h
  unfold OwJ
  simpa [zv] using h
theorem OwJ.set {w : World} {B g n c : Nat} {zs : List Int} (h : OwJ w B (.slice (some ⟨g, 0, none⟩) n c) zs) (hn : n = zs.length) (j : Nat) (z : Int) : OwJ (w.setCell ⟨g, j, none⟩ (.int .i64 z)) B (.slice (some ⟨g, 0, none⟩) n c) (zs.set j z) := by
  subst hn
  have h1 := (World.ownsRow.stored h j (.int .i64 z)).1
  unfold OwJ
  rw [List.length_set, List.map_set]
  exact h1
theorem OwJ.cellF {w : World} {B g n c : Nat} {zs : List Int} (h : OwJ w B (.slice (some ⟨g, 0, none⟩) n c) zs) (hn : n = zs.length) (j : Nat) (hj : j < n) : w.cell? ⟨g, j, none⟩ = some (.int .i64 (zs.getD j 0)) ∧ w.frozen? ⟨g, j, none⟩ = false := by
  subst hn
  refine ⟨?_, World.ownsRow.frozenAt h j⟩
  rw [World.ownsRow.cellAt h j (by omega)]
  simp [hj, zv]
theorem ints_take_snoc {ra rb : List Int} {j : Nat} (h : ra.take j = rb.take j) (hj : j < ra.length) (hj' : j < rb.length) (he : ra.getD j 0 = rb.getD j 0) : ra.take (j + 1) = rb.take (j + 1) := by
  rw [List.take_succ_eq_append_getElem hj, List.take_succ_eq_append_getElem hj', h]
  have e : ra[j] = rb[j] := by simpa [hj, hj'] using he
  rw [e]
end Go.Proofs.Ytabeadbnoifedaa
