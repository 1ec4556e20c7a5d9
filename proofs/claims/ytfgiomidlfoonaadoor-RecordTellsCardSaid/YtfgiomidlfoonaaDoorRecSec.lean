/- Four sectors of one's own, and the row that holds them. -/
import Derived.Test.YtfgiomidlfoonaaDoorRecHead
import Derived.Test.YtfgiomidlfoonaaDoorOwnZ
set_option maxRecDepth 8000
set_option linter.unusedVariables false
set_option linter.unusedSimpArgs false
namespace Go.Proofs.YtfgiomidlfoonaaDoor
open Go.RowKit

theorem info_rw : (Tryd.prog.info? 22).map (fun i => (i.zero, i.size, i.bytes)) = some (some (.slice none 0 0), 1, 24) := by kernel_rfl
theorem make_four (w : World) :
    (Instr.makeSlice 24 (.int .i64 4) (.int .i64 4)).run Tryd.prog w = .ok (.slice (some ⟨w.heap.size, 0, none⟩) 4 4) (w.alloc (.cells (madeCells #[.slice none 0 0] 4) 22)) :=
  run_make_row' _ _ _ 24 Tryd.underlying24 info_rw rfl _ _ 4 (by omega) (by omega) w
/-- What a place of the row holds: a sector's slice, or nothing yet. -/
def slv (bk : Nat → Nat) (n k : Nat) : Value := if k < n then .slice (some ⟨bk k, 0, none⟩) 32 32 else .slice none 0 0
theorem slv_yes {bk : Nat → Nat} {n k : Nat} (h : k < n) : slv bk n k = .slice (some ⟨bk k, 0, none⟩) 32 32 := if_pos h
theorem slv_no {bk : Nat → Nat} {n k : Nat} (h : ¬ k < n) : slv bk n k = .slice none 0 0 := if_neg h
structure P4 (lo : Nat) (W : World) (g : Nat) (bk : Nat → Nat) (rs : List (List UInt8)) : Prop where
  n : rs.length ≤ 4
  gl : lo ≤ g
  row : ∀ k, k < 4 → W.cell? ⟨g, k, none⟩ = some (slv bk rs.length k)
  fz : ∀ k, W.frozen? ⟨g, k, none⟩ = false
  len : ∀ k, k < rs.length → (rs.getD k []).length = 32
  own : ∀ k, k < rs.length → OwB 5 W lo (.slice (some ⟨bk k, 0, none⟩) 32 32) (rs.getD k [])
  ne : ∀ k, k < rs.length → bk k ≠ g
  inj : ∀ j k, j < rs.length → k < rs.length → bk j = bk k → j = k
section
variable {lo : Nat} {W W' : World} {g : Nat} {bk : Nat → Nat} {rs : List (List UInt8)}
theorem P4.lt (h : P4 lo W g bk rs) : g < W.heap.size := World.block_lt_of_cell? _ _ (h.row 0 (by omega))
theorem P4.blt (h : P4 lo W g bk rs) (k : Nat) (hk : k < rs.length) : lo ≤ bk k ∧ bk k < W.heap.size := (h.own k hk).lt _ rfl
theorem P4.le {lo' : Nat} (h : P4 lo W g bk rs) (hl : lo' ≤ lo) : P4 lo' W g bk rs :=
  ⟨h.n, Nat.le_trans hl h.gl, h.row, h.fz, h.len, fun k hk => (h.own k hk).le hl, h.ne, h.inj⟩
/-- It stays, where another row is written, or new memory made. -/
theorem P4.grown {row : Option Nat} (h : P4 lo W g bk rs) (hg : W.grownBy W' row) (h1 : row ≠ some g) (h2 : ∀ k, k < rs.length → row ≠ some (bk k)) : P4 lo W' g bk rs :=
  ⟨h.n, h.gl, fun k hk => (hg.cell_far ⟨g, k, none⟩ h.lt (fun e => h1 e.symm)).trans (h.row k hk), fun k => (hg.frozen_far ⟨g, k, none⟩ h.lt (fun e => h1 e.symm)).trans (h.fz k), h.len,
    fun k hk => (h.own k hk).grown hg (.inr fun e => h2 k hk e.symm), h.ne, h.inj⟩
theorem P4.below (h : P4 lo W g bk rs) (hb : Below W.heap.size W W') : P4 lo W' g bk rs := h.grown (grown_none hb) (by simp) (by simp)
/-- One sector written. -/
theorem P4.set (h : P4 lo W g bk rs) (k : Nat) (hk : k < rs.length) {b : List UInt8} (ho : OwB 5 W' lo (.slice (some ⟨bk k, 0, none⟩) 32 32) b) (hb : b.length = 32) (hg : W.grownBy W' (some (bk k))) : P4 lo W' g bk (rs.set k b) := by
  have hgt : ∀ j, j < rs.length → (rs.set k b).getD j [] = if k = j then b else rs.getD j [] := fun j hj => by
    simp only [List.getD_eq_getElem?_getD, List.getElem?_set]
    split
    · subst_vars; simp [hk]
    · rfl
  refine ⟨by simpa using h.n, h.gl, fun j hj => ?_, fun j => (hg.frozen_far ⟨g, j, none⟩ h.lt (fun e => h.ne k hk (by injection e with e; exact e.symm))).trans (h.fz j), fun j hj => ?_, fun j hj => ?_, fun j hj => h.ne j (by simpa using hj), fun i j hi hj => h.inj i j (by simpa using hi) (by simpa using hj)⟩
  · rw [List.length_set]
    exact (hg.cell_far ⟨g, j, none⟩ h.lt (fun e => h.ne k hk (by injection e with e; exact e.symm))).trans (h.row j hj)
  · rw [List.length_set] at hj
    rw [hgt j hj]
    split
    · exact hb
    · exact h.len j hj
  · rw [List.length_set] at hj
    rw [hgt j hj]
    split
    · subst_vars; exact ho
    · next hne => exact (h.own j hj).grown hg (.inr fun e => hne (by
        have e2 : bk j = bk k := by injection e
        exact (h.inj j k hj hk e2).symm))
theorem P4.rd (h : P4 lo W g bk rs) (k : Nat) (hk : k < rs.length) : RdB W W.heap.size (some ⟨bk k, 0, none⟩) (rs.getD k []) := (h.own k hk).rdS.1
theorem P4.rdr (h : P4 lo W g bk rs) : RdR W W.heap.size (some ⟨g, 0, none⟩) rs :=
  ⟨by have := h.n; omega, fun _ => ⟨g, 0, rfl, h.lt, fun k hk => by
    have := h.n
    have hc := h.row k (by omega)
    rw [slv_yes hk] at hc
    exact ⟨_, 32, by rw [Nat.zero_add, h.len k hk]; exact hc, h.rd k hk⟩⟩⟩
theorem P4.rdr1 (h : P4 lo W g bk rs) : RdR W W.heap.size (some ⟨g, 1, none⟩) (rs.drop 1) :=
  ⟨by have := h.n; simp; omega, fun _ => ⟨g, 1, rfl, h.lt, fun k hk => by
    have := h.n
    have hk' : 1 + k < rs.length := by simp at hk; omega
    have hc := h.row (1 + k) (by omega)
    rw [slv_yes hk'] at hc
    have e : (rs.drop 1).getD k [] = rs.getD (1 + k) [] := by simp [List.getD_eq_getElem?_getD, Nat.add_comm]
    rw [e]
    exact ⟨_, 32, by rw [h.len _ hk']; exact hc, h.rd _ hk'⟩⟩⟩
/-- A row with no sector yet. -/
theorem p4_new (W : World) : P4 W.heap.size (W.alloc (.cells (madeCells #[.slice none 0 0] 4) 22)) W.heap.size bk [] :=
  ⟨by simp, Nat.le_refl _, fun k hk => by
    rw [cell_of_row _ _ k _ _ _ (heap_alloc_new W _), ← Array.getElem?_toList, toList_madeCells_one, List.getElem?_replicate, if_pos hk]
    rfl, fun k => World.frozen?_alloc_new _ _ _ _, fun k hk => by simp at hk, fun k hk => by simp at hk, fun k hk => by simp at hk, fun j k hj => by simp at hj⟩
/-- The next sector: of zeros. -/
theorem P4.push (h : P4 lo W g bk rs) (hl : lo ≤ W.heap.size) (k : Nat) (hk : rs.length = k) (hk4 : k < 4) :
    P4 lo ((W.alloc (.cells (zcells 32) 5)).setCell ⟨g, k, none⟩ (.slice (some ⟨W.heap.size, 0, none⟩) 32 32)) g (fun j => if j = k then W.heap.size else bk j) (rs ++ [List.replicate 32 0]) := by
  subst hk
  have hlt := h.lt
  have h1 := h.below (below1 W (.cells (zcells 32) 5))
  have ho := (own_make 5 W 32 (by omega)).le hl
  generalize hV : W.alloc (.cells (zcells 32) 5) = V at h1 ho
  have hgr : V.grownBy (V.setCell ⟨g, rs.length, none⟩ (.slice (some ⟨W.heap.size, 0, none⟩) 32 32)) (some g) := ⟨rfl, rfl, rfl, by simp, fun k _ hne => Below.heap_setCell V _ _ k (fun e => hne (by rw [e]))⟩
  have hgl : ∀ j, j < rs.length → (rs ++ [List.replicate 32 (0 : UInt8)]).getD j [] = rs.getD j [] := fun j hj => by
    simp [List.getD_eq_getElem?_getD, List.getElem?_append_left hj]
  have hge : (rs ++ [List.replicate 32 (0 : UInt8)]).getD rs.length [] = List.replicate 32 0 := by simp [List.getD_eq_getElem?_getD]
  refine ⟨by simp; omega, h.gl, fun j hj => ?_, fun j => ?_, fun j hj => ?_, fun j hj => ?_, fun j hj => ?_, fun i j hi hj => ?_⟩
  · by_cases e : j = rs.length
    · subst e
      rw [World.cell?_setCell_same _ _ _ (h1.row _ hj), slv_yes (by simp)]
      simp
    · rw [World.cell?_setCell_other _ _ _ _ (by intro q; injection q with _ q; exact e q.symm), h1.row j hj]
      congr 1
      unfold slv
      by_cases e2 : j < rs.length
      · rw [if_pos e2, if_pos (by simp; omega)]; dsimp only; rw [if_neg e]
      · rw [if_neg e2, if_neg (by simp; omega)]
  · rw [World.frozen?_setCell]; exact h1.fz j
  · by_cases e : j = rs.length
    · subst e; rw [hge]; simp
    · have hj' : j < rs.length := by simp at hj; omega
      rw [hgl j hj']; exact h.len j hj'
  · by_cases e : j = rs.length
    · subst e
      rw [hge, if_pos rfl]
      exact ho.grown hgr (.inr fun e => by have : W.heap.size = g := by injection e
                                           omega)
    · have hj' : j < rs.length := by simp at hj; omega
      rw [hgl j hj', if_neg e]
      exact (h1.own j hj').grown hgr (.inr fun e => h.ne j hj' (by injection e))
  · by_cases e : j = rs.length
    · rw [if_pos e]; omega
    · have hj' : j < rs.length := by simp at hj; omega
      rw [if_neg e]; exact h.ne j hj'
  · intro e
    by_cases ei : i = rs.length
    · by_cases ej : j = rs.length
      · omega
      · have hj' : j < rs.length := by simp at hj; omega
        rw [if_pos ei, if_neg ej] at e
        have := (h.blt j hj').2
        omega
    · have hi' : i < rs.length := by simp at hi; omega
      by_cases ej : j = rs.length
      · rw [if_neg ei, if_pos ej] at e
        have := (h.blt i hi').2
        omega
      · have hj' : j < rs.length := by simp at hj; omega
        rw [if_neg ei, if_neg ej] at e
        exact h.inj i j hi' hj' e
end
end Go.Proofs.YtfgiomidlfoonaaDoor
