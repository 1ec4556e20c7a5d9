/- GeomForms walked. -/
import Derived.Test.YtpbambmjkhadgaaGeomTellsLaw
set_option linter.unusedVariables false
set_option linter.unusedSimpArgs false
namespace Go.Proofs.Ytpbambmjkhadgaa
open Go.RowKit

def fit (x : Int) (j : Nat) : Int × Int × Int × Int × Int := [(5, 3, 1, 1, 2), (5, 8, 4, 1, 7), (6, 4, 2, 2, 2), (6, 8, 1, 2, 6), (5, 2, 1, 0, 0), (6, 3, 1, 0, 0), (5, 9, 1, 0, 0), (5, 4, 3, 0, 0), (5, 4, 0, 0, 0), (4, 4, 1, 0, 0), (7, 5, 1, 0, 0), (5, 4, 8, 0, 0), (5, x, 1048576, 0, 0)].getD j (0, 0, 0, 0, 0)
def hit (j : Nat) : Int × Int × Int × Bool := [(5, 4, 2, false), (5, 4, 4, true), (5, 3, 2, false), (6, 4, 2, false), (6, 5, 1, true), (5, 8, 2, true), (0, 0, 0, false)].getD j (0, 0, 0, false)
def FItems (x : Int) (W : World) (g : Nat) : Prop := ∀ j, j < 13 → W.cell? ⟨g, j * 5, none⟩ = some (.int .i64 (fit x j).1) ∧ W.cell? ⟨g, j * 5 + 1, none⟩ = some (.int .i64 (fit x j).2.1) ∧ W.cell? ⟨g, j * 5 + 2, none⟩ = some (.int .i64 (fit x j).2.2.1) ∧ W.cell? ⟨g, j * 5 + 3, none⟩ = some (.int .i64 (fit x j).2.2.2.1) ∧ W.cell? ⟨g, j * 5 + 4, none⟩ = some (.int .i64 (fit x j).2.2.2.2)
def HItems (W : World) (g : Nat) : Prop := ∀ j, j < 7 → W.cell? ⟨g, j * 4, none⟩ = some (.int .i64 (hit j).1) ∧ W.cell? ⟨g, j * 4 + 1, none⟩ = some (.int .i64 (hit j).2.1) ∧ W.cell? ⟨g, j * 4 + 2, none⟩ = some (.int .i64 (hit j).2.2.1) ∧ W.cell? ⟨g, j * 4 + 3, none⟩ = some (.bool (hit j).2.2.2)
theorem fitems_start (x : Int) (w : World) (t : TypeId) : FItems x (w.alloc (.cells #[.int .i64 5, .int .i64 3, .int .i64 1, .int .i64 1, .int .i64 2, .int .i64 5, .int .i64 8, .int .i64 4, .int .i64 1, .int .i64 7, .int .i64 6, .int .i64 4, .int .i64 2, .int .i64 2, .int .i64 2, .int .i64 6, .int .i64 8, .int .i64 1, .int .i64 2, .int .i64 6, .int .i64 5, .int .i64 2, .int .i64 1, .int .i64 0, .int .i64 0, .int .i64 6, .int .i64 3, .int .i64 1, .int .i64 0, .int .i64 0, .int .i64 5, .int .i64 9, .int .i64 1, .int .i64 0, .int .i64 0, .int .i64 5, .int .i64 4, .int .i64 3, .int .i64 0, .int .i64 0, .int .i64 5, .int .i64 4, .int .i64 0, .int .i64 0, .int .i64 0, .int .i64 4, .int .i64 4, .int .i64 1, .int .i64 0, .int .i64 0, .int .i64 7, .int .i64 5, .int .i64 1, .int .i64 0, .int .i64 0, .int .i64 5, .int .i64 4, .int .i64 8, .int .i64 0, .int .i64 0, .int .i64 5, .int .i64 x, .int .i64 1048576, .int .i64 0, .int .i64 0] t)) w.heap.size := by
  intro j hj
  have c4 := fun i => cell_of_row _ _ i _ _ _ (heap_alloc_new w (.cells #[.int .i64 5, .int .i64 3, .int .i64 1, .int .i64 1, .int .i64 2, .int .i64 5, .int .i64 8, .int .i64 4, .int .i64 1, .int .i64 7, .int .i64 6, .int .i64 4, .int .i64 2, .int .i64 2, .int .i64 2, .int .i64 6, .int .i64 8, .int .i64 1, .int .i64 2, .int .i64 6, .int .i64 5, .int .i64 2, .int .i64 1, .int .i64 0, .int .i64 0, .int .i64 6, .int .i64 3, .int .i64 1, .int .i64 0, .int .i64 0, .int .i64 5, .int .i64 9, .int .i64 1, .int .i64 0, .int .i64 0, .int .i64 5, .int .i64 4, .int .i64 3, .int .i64 0, .int .i64 0, .int .i64 5, .int .i64 4, .int .i64 0, .int .i64 0, .int .i64 0, .int .i64 4, .int .i64 4, .int .i64 1, .int .i64 0, .int .i64 0, .int .i64 7, .int .i64 5, .int .i64 1, .int .i64 0, .int .i64 0, .int .i64 5, .int .i64 4, .int .i64 8, .int .i64 0, .int .i64 0, .int .i64 5, .int .i64 x, .int .i64 1048576, .int .i64 0, .int .i64 0] t))
  match j, hj with
  | 0, _ => exact ⟨c4 0, c4 1, c4 2, c4 3, c4 4⟩
  | 1, _ => exact ⟨c4 5, c4 6, c4 7, c4 8, c4 9⟩
  | 2, _ => exact ⟨c4 10, c4 11, c4 12, c4 13, c4 14⟩
  | 3, _ => exact ⟨c4 15, c4 16, c4 17, c4 18, c4 19⟩
  | 4, _ => exact ⟨c4 20, c4 21, c4 22, c4 23, c4 24⟩
  | 5, _ => exact ⟨c4 25, c4 26, c4 27, c4 28, c4 29⟩
  | 6, _ => exact ⟨c4 30, c4 31, c4 32, c4 33, c4 34⟩
  | 7, _ => exact ⟨c4 35, c4 36, c4 37, c4 38, c4 39⟩
  | 8, _ => exact ⟨c4 40, c4 41, c4 42, c4 43, c4 44⟩
  | 9, _ => exact ⟨c4 45, c4 46, c4 47, c4 48, c4 49⟩
  | 10, _ => exact ⟨c4 50, c4 51, c4 52, c4 53, c4 54⟩
  | 11, _ => exact ⟨c4 55, c4 56, c4 57, c4 58, c4 59⟩
  | 12, _ => exact ⟨c4 60, c4 61, c4 62, c4 63, c4 64⟩
theorem hitems_start (w : World) (t : TypeId) : HItems (w.alloc (.cells #[.int .i64 5, .int .i64 4, .int .i64 2, .bool false, .int .i64 5, .int .i64 4, .int .i64 4, .bool true, .int .i64 5, .int .i64 3, .int .i64 2, .bool false, .int .i64 6, .int .i64 4, .int .i64 2, .bool false, .int .i64 6, .int .i64 5, .int .i64 1, .bool true, .int .i64 5, .int .i64 8, .int .i64 2, .bool true, .int .i64 0, .int .i64 0, .int .i64 0, .bool false] t)) w.heap.size := by
  intro j hj
  have c4 := fun i => cell_of_row _ _ i _ _ _ (heap_alloc_new w (.cells #[.int .i64 5, .int .i64 4, .int .i64 2, .bool false, .int .i64 5, .int .i64 4, .int .i64 4, .bool true, .int .i64 5, .int .i64 3, .int .i64 2, .bool false, .int .i64 6, .int .i64 4, .int .i64 2, .bool false, .int .i64 6, .int .i64 5, .int .i64 1, .bool true, .int .i64 5, .int .i64 8, .int .i64 2, .bool true, .int .i64 0, .int .i64 0, .int .i64 0, .bool false] t))
  match j, hj with
  | 0, _ => exact ⟨c4 0, c4 1, c4 2, c4 3⟩
  | 1, _ => exact ⟨c4 4, c4 5, c4 6, c4 7⟩
  | 2, _ => exact ⟨c4 8, c4 9, c4 10, c4 11⟩
  | 3, _ => exact ⟨c4 12, c4 13, c4 14, c4 15⟩
  | 4, _ => exact ⟨c4 16, c4 17, c4 18, c4 19⟩
  | 5, _ => exact ⟨c4 20, c4 21, c4 22, c4 23⟩
  | 6, _ => exact ⟨c4 24, c4 25, c4 26, c4 27⟩
theorem FItems.below {w w' : World} {g : Nat} {x : Int} (h : FItems x w g) {B : Nat} (hb : Below B w w') (hB : g + 1 ≤ B) : FItems x w' g := fun j hj => by
  obtain ⟨h0, h1, h2, h3, h4⟩ := h j hj
  exact ⟨(hb.cell (p := ⟨g, j * 5, none⟩) (by exact hB)).trans h0, (hb.cell (p := ⟨g, j * 5 + 1, none⟩) (by exact hB)).trans h1, (hb.cell (p := ⟨g, j * 5 + 2, none⟩) (by exact hB)).trans h2, (hb.cell (p := ⟨g, j * 5 + 3, none⟩) (by exact hB)).trans h3, (hb.cell (p := ⟨g, j * 5 + 4, none⟩) (by exact hB)).trans h4⟩
theorem HItems.below {w w' : World} {g : Nat} (h : HItems w g) {B : Nat} (hb : Below B w w') (hB : g + 1 ≤ B) : HItems w' g := fun j hj => by
  obtain ⟨h0, h1, h2, h3⟩ := h j hj
  exact ⟨(hb.cell (p := ⟨g, j * 4, none⟩) (by exact hB)).trans h0, (hb.cell (p := ⟨g, j * 4 + 1, none⟩) (by exact hB)).trans h1, (hb.cell (p := ⟨g, j * 4 + 2, none⟩) (by exact hB)).trans h2, (hb.cell (p := ⟨g, j * 4 + 3, none⟩) (by exact hB)).trans h3⟩
def okT (t : Int × Int × Int × Int × Int) : Prop := (-9223372036854775808 ≤ t.1 ∧ t.1 ≤ 9223372036854775807) ∧ (-9223372036854775808 ≤ t.2.1 ∧ t.2.1 ≤ 9223372036854775807) ∧ (-9223372036854775808 ≤ t.2.2.1 ∧ t.2.2.1 ≤ 9223372036854775807) ∧
    (∃ e : Bool, gErr t.1 t.2.1 t.2.2.1 = (if e = true then 0 else 1) ∧ decide (0 < t.2.2.2.1) = e) ∧ gBud t.1 t.2.1 t.2.2.1 = t.2.2.2.1 ∧ gWid t.1 t.2.1 t.2.2.1 = t.2.2.2.2
theorem fit_ok (x : Int) (hx : -100 < x ∧ x < 100) (j : Nat) (hj : j < 13) : okT (fit x j) := by
  match j, hj with
  | 0, _ => exact (show okT (5, 3, 1, 1, 2) from ⟨by decide, by decide, by decide, ⟨true, by decide, by decide⟩, by decide, by decide⟩)
  | 1, _ => exact (show okT (5, 8, 4, 1, 7) from ⟨by decide, by decide, by decide, ⟨true, by decide, by decide⟩, by decide, by decide⟩)
  | 2, _ => exact (show okT (6, 4, 2, 2, 2) from ⟨by decide, by decide, by decide, ⟨true, by decide, by decide⟩, by decide, by decide⟩)
  | 3, _ => exact (show okT (6, 8, 1, 2, 6) from ⟨by decide, by decide, by decide, ⟨true, by decide, by decide⟩, by decide, by decide⟩)
  | 4, _ => exact (show okT (5, 2, 1, 0, 0) from ⟨by decide, by decide, by decide, ⟨false, by decide, by decide⟩, by decide, by decide⟩)
  | 5, _ => exact (show okT (6, 3, 1, 0, 0) from ⟨by decide, by decide, by decide, ⟨false, by decide, by decide⟩, by decide, by decide⟩)
  | 6, _ => exact (show okT (5, 9, 1, 0, 0) from ⟨by decide, by decide, by decide, ⟨false, by decide, by decide⟩, by decide, by decide⟩)
  | 7, _ => exact (show okT (5, 4, 3, 0, 0) from ⟨by decide, by decide, by decide, ⟨false, by decide, by decide⟩, by decide, by decide⟩)
  | 8, _ => exact (show okT (5, 4, 0, 0, 0) from ⟨by decide, by decide, by decide, ⟨false, by decide, by decide⟩, by decide, by decide⟩)
  | 9, _ => exact (show okT (4, 4, 1, 0, 0) from ⟨by decide, by decide, by decide, ⟨false, by decide, by decide⟩, by decide, by decide⟩)
  | 10, _ => exact (show okT (7, 5, 1, 0, 0) from ⟨by decide, by decide, by decide, ⟨false, by decide, by decide⟩, by decide, by decide⟩)
  | 11, _ => exact (show okT (5, 4, 8, 0, 0) from ⟨by decide, by decide, by decide, ⟨false, by decide, by decide⟩, by decide, by decide⟩)
  | 12, _ =>
    have h : gOk 5 x 1048576 = false := gOk_no (by omega)
    exact (show okT (5, x, 1048576, 0, 0) from ⟨(show (-9223372036854775808 : Int) ≤ 5 ∧ (5 : Int) ≤ 9223372036854775807 by decide), (by show -9223372036854775808 ≤ x ∧ x ≤ 9223372036854775807; omega), (show (-9223372036854775808 : Int) ≤ 1048576 ∧ (1048576 : Int) ≤ 9223372036854775807 by decide), ⟨false, gErr_no h, (show decide ((0 : Int) < 0) = false by decide)⟩, gBud_no h, gWid_no h⟩)
theorem hit_ok : ∀ j, j < 7 → (-10 ≤ (hit j).1 ∧ (hit j).1 ≤ 10) ∧ (-10 ≤ (hit j).2.1 ∧ (hit j).2.1 ≤ 10) ∧ (-10 ≤ (hit j).2.2.1 ∧ (hit j).2.2.1 ≤ 10) ∧ gCan 5 4 2 (hit j).1 (hit j).2.1 (hit j).2.2.1 = (hit j).2.2.2 ∧ gCan 0 0 0 (hit j).1 (hit j).2.1 (hit j).2.2.1 = false := by decide
abbrev FSA (w0 : World) (p : Nat) (l d c b wd : Int) (W : World) : Prop := W.cell? ⟨p + 1, 0, none⟩ = some (.int .i64 l) ∧ W.cell? ⟨p + 1, 1, none⟩ = some (.int .i64 d) ∧ W.cell? ⟨p + 1, 2, none⟩ = some (.int .i64 c) ∧ W.cell? ⟨p, 3, none⟩ = some (.int .i64 b) ∧ W.cell? ⟨p, 4, none⟩ = some (.int .i64 wd) ∧ Below p w0 W
abbrev FSB (w0 : World) (q p : Nat) (l d c : Int) (ok : Bool) (W : World) : Prop := W.cell? ⟨q, 0, none⟩ = some (.int .i64 5) ∧ W.cell? ⟨q, 1, none⟩ = some (.int .i64 4) ∧ W.cell? ⟨q, 2, none⟩ = some (.int .i64 2) ∧ W.cell? ⟨p, 0, none⟩ = some (.int .i64 l) ∧ W.cell? ⟨p, 1, none⟩ = some (.int .i64 d) ∧ W.cell? ⟨p, 2, none⟩ = some (.int .i64 c) ∧ W.cell? ⟨p, 3, none⟩ = some (.bool ok) ∧ Below p w0 W
theorem FSA.drew {w0 W : World} {p : Nat} {l d c b wd : Int} (h : FSA w0 p l d c b wd W) : FSA w0 p l d c b wd W.drew := by
  obtain ⟨q0, q1, q2, q3, q4, F⟩ := h
  exact ⟨q0, q1, q2, q3, q4, F.drew⟩
theorem FSA.later {w0 W W' : World} {p : Nat} {l d c b wd : Int} (h : FSA w0 p l d c b wd W) (hb : Below W.heap.size W W') (hp : p ≤ w0.heap.size := by exact Nat.le_refl _) : FSA w0 p l d c b wd W' := by
  obtain ⟨q0, q1, q2, q3, q4, F⟩ := h
  exact ⟨(hb.cell (p := ⟨p + 1, 0, none⟩) (World.block_lt_of_cell? _ _ q0)).trans q0, (hb.cell (p := ⟨p + 1, 1, none⟩) (World.block_lt_of_cell? _ _ q1)).trans q1, (hb.cell (p := ⟨p + 1, 2, none⟩) (World.block_lt_of_cell? _ _ q2)).trans q2, (hb.cell (p := ⟨p, 3, none⟩) (World.block_lt_of_cell? _ _ q3)).trans q3, (hb.cell (p := ⟨p, 4, none⟩) (World.block_lt_of_cell? _ _ q4)).trans q4, F.trans (hb.mono (Nat.le_trans hp F.size))⟩
theorem FSB.drew {w0 W : World} {q p : Nat} {l d c : Int} {ok : Bool} (h : FSB w0 q p l d c ok W) : FSB w0 q p l d c ok W.drew := by
  obtain ⟨q0, q1, q2, q3, q4, q5, q6, F⟩ := h
  exact ⟨q0, q1, q2, q3, q4, q5, q6, F.drew⟩
theorem FSB.later {w0 W W' : World} {q p : Nat} {l d c : Int} {ok : Bool} (h : FSB w0 q p l d c ok W) (hb : Below W.heap.size W W') (hp : p ≤ w0.heap.size := by exact Nat.le_refl _) : FSB w0 q p l d c ok W' := by
  obtain ⟨q0, q1, q2, q3, q4, q5, q6, F⟩ := h
  exact ⟨(hb.cell (p := ⟨q, 0, none⟩) (World.block_lt_of_cell? _ _ q0)).trans q0, (hb.cell (p := ⟨q, 1, none⟩) (World.block_lt_of_cell? _ _ q1)).trans q1, (hb.cell (p := ⟨q, 2, none⟩) (World.block_lt_of_cell? _ _ q2)).trans q2, (hb.cell (p := ⟨p, 0, none⟩) (World.block_lt_of_cell? _ _ q3)).trans q3, (hb.cell (p := ⟨p, 1, none⟩) (World.block_lt_of_cell? _ _ q4)).trans q4, (hb.cell (p := ⟨p, 2, none⟩) (World.block_lt_of_cell? _ _ q5)).trans q5, (hb.cell (p := ⟨p, 3, none⟩) (World.block_lt_of_cell? _ _ q6)).trans q6, F.trans (hb.mono (Nat.le_trans hp F.size))⟩
theorem fsa_start (w : World) (l d c b wd : Int) (t t' : TypeId) : FSA w w.heap.size l d c b wd ((w.alloc (.cells #[.int .i64 l, .int .i64 d, .int .i64 c, .int .i64 b, .int .i64 wd] t)).alloc (.cells #[.int .i64 l, .int .i64 d, .int .i64 c] t')) := by
  have c4 := fun i => cell_of_row _ _ i _ _ _ (heap_alloc_new w (.cells #[.int .i64 l, .int .i64 d, .int .i64 c, .int .i64 b, .int .i64 wd] t))
  have G := gat_new (w.alloc (.cells #[.int .i64 l, .int .i64 d, .int .i64 c, .int .i64 b, .int .i64 wd] t)) l d c t' (0, 0)
  rw [show (w.alloc (.cells #[.int .i64 l, .int .i64 d, .int .i64 c, .int .i64 b, .int .i64 wd] t)).heap.size = w.heap.size + 1 by simp] at G
  exact ⟨G.1, G.2.1, G.2.2, (World.cell?_alloc_lt _ _ _ (by simp)).trans (c4 3), (World.cell?_alloc_lt _ _ _ (by simp)).trans (c4 4), below2 _ _ _⟩
theorem fsb_start (w : World) (q : Nat) (hq : GAt w q 5 4 2) (l d c : Int) (ok : Bool) (t : TypeId) : FSB w q w.heap.size l d c ok (w.alloc (.cells #[.int .i64 l, .int .i64 d, .int .i64 c, .bool ok] t)) := by
  have c4 := fun i => cell_of_row _ _ i _ _ _ (heap_alloc_new w (.cells #[.int .i64 l, .int .i64 d, .int .i64 c, .bool ok] t))
  have G := hq.below (below1 w (.cells #[.int .i64 l, .int .i64 d, .int .i64 c, .bool ok] t)) (World.block_lt_of_cell? _ _ hq.1)
  exact ⟨G.1, G.2.1, G.2.2, c4 0, c4 1, c4 2, c4 3, below1 _ _⟩
set_option maxRecDepth 100000 in
set_option maxHeartbeats 6400000 in
theorem geomforms (n : Int) (w : World) (hn : -9223372036854775808 ≤ n ∧ n ≤ 9223372036854775807) :
    Calls Try.prog 3 #[.int .i64 n] w fun e w' => e = .returned (.bool true) ∧ Below w.heap.size w w' := by
  have Wk := Lib.hid (fun W => wakesGeom_any W)
  have hx : -100 < (wrap64 (-n)).tmod 100 ∧ (wrap64 (-n)).tmod 100 < 100 := ⟨Int.lt_tmod_of_pos _ (by omega), Int.tmod_lt_of_pos _ (by omega)⟩
  go_enter Try.func3, Try.ntmps3
  go_wp2_with fail
  generalize (wrap64 (-n)).tmod 100 = x at hx ⊢
  have T0 := fitems_start x w 22
  go_name_world w1 hw1
  rw [hw1] at T0
  have B1 : Below w.heap.size w w1 := by rw [← hw1]; exact below1 _ _
  have z1 : w.heap.size < w1.heap.size := by rw [← hw1]; simp
  clear hw1
  go_loopw [27] (fun i wr => ∃ k : Nat, k ≤ 13 ∧ i = .int .i64 k ∧ FItems x wr w.heap.size ∧ w.heap.size < wr.heap.size ∧ Below w.heap.size w wr) (fun i _ => 13 - (intOf i).toNat)
  case atStart => exact ⟨0, by omega, rfl, T0, z1, B1⟩
  case round =>
    obtain ⟨k, hk, rfl, hI, hlt0, hB⟩ := hrel
    by_cases hlt : k < 13
    · obtain ⟨h1, h2, h3, h4, h5⟩ := hI k hlt
      obtain ⟨i1, i2, i3, ⟨er, he, hb0⟩, hbu, hwi⟩ := fit_ok x hx k hlt
      generalize fit x k = it at h1 h2 h3 h4 h5 i1 i2 i3 he hb0 hbu hwi
      obtain ⟨l, d, c, b, wd⟩ := it
      simp only at h1 h2 h3 h4 h5 i1 i2 i3 he hb0 hbu hwi
      have C1 := Lib.hid (fun W => check_any l d c W i1 i2 i3)
      have C2 := Lib.hid (fun W => budget_any l d c W i1 i2 i3)
      have C3 := Lib.hid (fun W => width_any l d c W i1 i2 i3)
      have C4 := Lib.hid (fun W => capacity_any l d c W i1 i2 i3)
      have bw := gWid_bd l d c
      have hcap : gCap l d c = 16 * wd := by unfold gCap; omega
      rw [he] at C1
      rw [hbu] at C2
      rw [hwi] at C3 bw
      rw [hcap] at C4
      have HE := Lib.hid hb0
      clear i1 i2 i3 he hbu hwi hcap hb0
      generalize hme : (if er = true then (0 : Int) else 1) = er0 at C1
      have HR := Lib.hid hme
      clear hme
      have S0 := fsa_start wr l d c b wd 22 25
      go_upto_region 5 with fail
      go_name_world wz hwz
      rw [hwz] at S0
      clear hwz h1 h2 h3 h4 h5
      have hwm : IntKind.i64.wrap (16 * wd) = 16 * wd := IntWalk.i64_in _ (by omega)
      refine wp_region_noPanic (region_ord 29 [] (fun V => FSA wr wr.heap.size l d c b wd V) (by kernel_rfl) (by kernel_rfl) (fun _ _ _ _ _ h => h) fun R => ?_)
      change anyI _ _ _ _ _ _ 29 _ _ wz.drew
      have HS0 := Lib.hid (show (fun V => FSA wr wr.heap.size l d c b wd V) wz.drew from FSA.drew S0)
      refine' anyI_take R 0 rfl (v := ?_) (by kernel_rfl) (by rfl) (fun V hV => ?hy) HS0.out ?_
      case hy => ((try dsimp only at hV);  obtain ⟨q1, q2, q3, q4, q5, _⟩ := hV; go_simp; try with_reducible rfl)
      try simp only [Act.put, List.getElem_toArray, List.getElem_cons_succ, List.getElem_cons_zero, List.setIfInBounds_toArray, List.set_cons_zero, List.set_cons_succ]
      refine' anyI_take R 3 rfl (v := ?_) (by kernel_rfl) (by rfl) (fun V hV => ?hy) HS0.out ?_
      case hy => ((try dsimp only at hV);  obtain ⟨q1, q2, q3, q4, q5, _⟩ := hV; go_simp; try with_reducible rfl)
      try simp only [Act.put, List.getElem_toArray, List.getElem_cons_succ, List.getElem_cons_zero, List.setIfInBounds_toArray, List.set_cons_zero, List.set_cons_succ]
      refine' anyI_take R 4 rfl (v := ?_) (by kernel_rfl) (by rfl) (fun V hV => ?hy) HS0.out ?_
      case hy => ((try dsimp only at hV);  obtain ⟨q1, q2, q3, q4, q5, _⟩ := hV; go_simp; try with_reducible rfl)
      try simp only [Act.put, List.getElem_toArray, List.getElem_cons_succ, List.getElem_cons_zero, List.setIfInBounds_toArray, List.set_cons_zero, List.set_cons_succ]
      refine anyI_take R 5 rfl (v := .bool er) (by kernel_rfl) (by rfl) (fun V hV => ?_) HS0.out ?_
      · (try dsimp only at hV); obtain ⟨q1, q2, q3, q4, q5, _⟩ := hV; go_simp; all_goals (rw [← HE.out])
      try simp only [Act.put, List.getElem_toArray, List.getElem_cons_succ, List.getElem_cons_zero, List.setIfInBounds_toArray, List.set_cons_zero, List.set_cons_succ]
      refine anyI_one 1 (by kernel_rfl) rfl ?_
      try simp only [List.getElem_toArray, List.getElem_cons_succ, List.getElem_cons_zero]
      refine opE_step ?_
      rw [if_pos (by rfl)]
      go_simp
      go_at_call 6
      refine (C1.out _).mono ?_
      rintro e w1 ⟨rfl, hb⟩
      replace HS0 := Lib.hid (FSA.later HS0.out hb)
      clear hb
      dsimp only
      refine ⟨HS0.out, ?_⟩
      try simp only [Act.put, List.getElem_toArray, List.getElem_cons_succ, List.getElem_cons_zero, List.setIfInBounds_toArray, List.set_cons_zero, List.set_cons_succ]
      refine anyI_take R 2 rfl (v := .bool er) (by kernel_rfl) (by rfl) (fun V hV => ?_) HS0.out ?_
      · (try dsimp only at hV); obtain ⟨q1, q2, q3, q4, q5, _⟩ := hV; have h := HR.out; cases er <;> (subst h; go_simp)
      try simp only [Act.put, List.getElem_toArray, List.getElem_cons_succ, List.getElem_cons_zero, List.setIfInBounds_toArray, List.set_cons_zero, List.set_cons_succ]
      refine anyI_take R 6 rfl (v := .bool false) (by kernel_rfl) (by rfl) (fun V hV => ?_) HS0.out ?_
      · (try dsimp only at hV); obtain ⟨q1, q2, q3, q4, q5, _⟩ := hV; go_simp; try (simp; done)
      try simp only [Act.put, List.getElem_toArray, List.getElem_cons_succ, List.getElem_cons_zero, List.setIfInBounds_toArray, List.set_cons_zero, List.set_cons_succ]
      refine' anyI_take R 7 rfl (v := ?_) (by kernel_rfl) (by rfl) (fun V hV => ?hy) HS0.out ?_
      case hy => ((try dsimp only at hV);  obtain ⟨q1, q2, q3, q4, q5, _⟩ := hV; go_simp; try with_reducible rfl)
      try simp only [Act.put, List.getElem_toArray, List.getElem_cons_succ, List.getElem_cons_zero, List.setIfInBounds_toArray, List.set_cons_zero, List.set_cons_succ]
      refine' anyI_take R 8 rfl (v := ?_) (by kernel_rfl) (by rfl) (fun V hV => ?hy) HS0.out ?_
      case hy => ((try dsimp only at hV);  obtain ⟨q1, q2, q3, q4, q5, _⟩ := hV; go_simp; try with_reducible rfl)
      try simp only [Act.put, List.getElem_toArray, List.getElem_cons_succ, List.getElem_cons_zero, List.setIfInBounds_toArray, List.set_cons_zero, List.set_cons_succ]
      refine' anyI_take R 10 rfl (v := ?_) (by kernel_rfl) (by rfl) (fun V hV => ?hy) HS0.out ?_
      case hy => ((try dsimp only at hV);  obtain ⟨q1, q2, q3, q4, q5, _⟩ := hV; go_simp; try with_reducible rfl)
      try simp only [Act.put, List.getElem_toArray, List.getElem_cons_succ, List.getElem_cons_zero, List.setIfInBounds_toArray, List.set_cons_zero, List.set_cons_succ]
      refine' anyI_take R 11 rfl (v := ?_) (by kernel_rfl) (by rfl) (fun V hV => ?hy) HS0.out ?_
      case hy => ((try dsimp only at hV);  obtain ⟨q1, q2, q3, q4, q5, _⟩ := hV; go_simp; try with_reducible rfl)
      try simp only [Act.put, List.getElem_toArray, List.getElem_cons_succ, List.getElem_cons_zero, List.setIfInBounds_toArray, List.set_cons_zero, List.set_cons_succ]
      refine anyI_one 9 (by kernel_rfl) rfl ?_
      try simp only [List.getElem_toArray, List.getElem_cons_succ, List.getElem_cons_zero]
      refine opE_step ?_
      rw [if_pos (by rfl)]
      go_simp
      go_at_call 7
      refine (C2.out _).mono ?_
      rintro e w9 ⟨rfl, hb⟩
      replace HS0 := Lib.hid (FSA.later HS0.out hb)
      clear hb
      dsimp only
      refine ⟨HS0.out, ?_⟩
      try simp only [Act.put, List.getElem_toArray, List.getElem_cons_succ, List.getElem_cons_zero, List.setIfInBounds_toArray, List.set_cons_zero, List.set_cons_succ]
      refine' anyI_take R 12 rfl (v := ?_) (by kernel_rfl) (by rfl) (fun V hV => ?hy) HS0.out ?_
      case hy => ((try dsimp only at hV);  obtain ⟨q1, q2, q3, q4, q5, _⟩ := hV; go_simp; try with_reducible rfl)
      try simp only [Act.put, List.getElem_toArray, List.getElem_cons_succ, List.getElem_cons_zero, List.setIfInBounds_toArray, List.set_cons_zero, List.set_cons_succ]
      refine' anyI_take R 13 rfl (v := ?_) (by kernel_rfl) (by rfl) (fun V hV => ?hy) HS0.out ?_
      case hy => ((try dsimp only at hV);  obtain ⟨q1, q2, q3, q4, q5, _⟩ := hV; go_simp; try with_reducible rfl)
      try simp only [Act.put, List.getElem_toArray, List.getElem_cons_succ, List.getElem_cons_zero, List.setIfInBounds_toArray, List.set_cons_zero, List.set_cons_succ]
      refine' anyI_take R 14 rfl (v := ?_) (by kernel_rfl) (by rfl) (fun V hV => ?hy) HS0.out ?_
      case hy => ((try dsimp only at hV);  obtain ⟨q1, q2, q3, q4, q5, _⟩ := hV; go_simp; try with_reducible rfl)
      try simp only [Act.put, List.getElem_toArray, List.getElem_cons_succ, List.getElem_cons_zero, List.setIfInBounds_toArray, List.set_cons_zero, List.set_cons_succ]
      refine' anyI_take R 15 rfl (v := ?_) (by kernel_rfl) (by rfl) (fun V hV => ?hy) HS0.out ?_
      case hy => ((try dsimp only at hV);  obtain ⟨q1, q2, q3, q4, q5, _⟩ := hV; go_simp; try with_reducible rfl)
      try simp only [Act.put, List.getElem_toArray, List.getElem_cons_succ, List.getElem_cons_zero, List.setIfInBounds_toArray, List.set_cons_zero, List.set_cons_succ]
      refine' anyI_take R 17 rfl (v := ?_) (by kernel_rfl) (by rfl) (fun V hV => ?hy) HS0.out ?_
      case hy => ((try dsimp only at hV);  obtain ⟨q1, q2, q3, q4, q5, _⟩ := hV; go_simp; try with_reducible rfl)
      try simp only [Act.put, List.getElem_toArray, List.getElem_cons_succ, List.getElem_cons_zero, List.setIfInBounds_toArray, List.set_cons_zero, List.set_cons_succ]
      refine' anyI_take R 18 rfl (v := ?_) (by kernel_rfl) (by rfl) (fun V hV => ?hy) HS0.out ?_
      case hy => ((try dsimp only at hV);  obtain ⟨q1, q2, q3, q4, q5, _⟩ := hV; go_simp; try with_reducible rfl)
      try simp only [Act.put, List.getElem_toArray, List.getElem_cons_succ, List.getElem_cons_zero, List.setIfInBounds_toArray, List.set_cons_zero, List.set_cons_succ]
      refine anyI_one 16 (by kernel_rfl) rfl ?_
      try simp only [List.getElem_toArray, List.getElem_cons_succ, List.getElem_cons_zero]
      refine opE_step ?_
      rw [if_pos (by rfl)]
      go_simp
      go_at_call 8
      refine (C3.out _).mono ?_
      rintro e w16 ⟨rfl, hb⟩
      replace HS0 := Lib.hid (FSA.later HS0.out hb)
      clear hb
      dsimp only
      refine ⟨HS0.out, ?_⟩
      try simp only [Act.put, List.getElem_toArray, List.getElem_cons_succ, List.getElem_cons_zero, List.setIfInBounds_toArray, List.set_cons_zero, List.set_cons_succ]
      refine' anyI_take R 19 rfl (v := ?_) (by kernel_rfl) (by rfl) (fun V hV => ?hy) HS0.out ?_
      case hy => ((try dsimp only at hV);  obtain ⟨q1, q2, q3, q4, q5, _⟩ := hV; go_simp; try with_reducible rfl)
      try simp only [Act.put, List.getElem_toArray, List.getElem_cons_succ, List.getElem_cons_zero, List.setIfInBounds_toArray, List.set_cons_zero, List.set_cons_succ]
      refine' anyI_take R 20 rfl (v := ?_) (by kernel_rfl) (by rfl) (fun V hV => ?hy) HS0.out ?_
      case hy => ((try dsimp only at hV);  obtain ⟨q1, q2, q3, q4, q5, _⟩ := hV; go_simp; try with_reducible rfl)
      try simp only [Act.put, List.getElem_toArray, List.getElem_cons_succ, List.getElem_cons_zero, List.setIfInBounds_toArray, List.set_cons_zero, List.set_cons_succ]
      refine' anyI_take R 21 rfl (v := ?_) (by kernel_rfl) (by rfl) (fun V hV => ?hy) HS0.out ?_
      case hy => ((try dsimp only at hV);  obtain ⟨q1, q2, q3, q4, q5, _⟩ := hV; go_simp; try with_reducible rfl)
      try simp only [Act.put, List.getElem_toArray, List.getElem_cons_succ, List.getElem_cons_zero, List.setIfInBounds_toArray, List.set_cons_zero, List.set_cons_succ]
      refine' anyI_take R 22 rfl (v := ?_) (by kernel_rfl) (by rfl) (fun V hV => ?hy) HS0.out ?_
      case hy => ((try dsimp only at hV);  obtain ⟨q1, q2, q3, q4, q5, _⟩ := hV; go_simp; try with_reducible rfl)
      try simp only [Act.put, List.getElem_toArray, List.getElem_cons_succ, List.getElem_cons_zero, List.setIfInBounds_toArray, List.set_cons_zero, List.set_cons_succ]
      refine' anyI_take R 24 rfl (v := ?_) (by kernel_rfl) (by rfl) (fun V hV => ?hy) HS0.out ?_
      case hy => ((try dsimp only at hV);  obtain ⟨q1, q2, q3, q4, q5, _⟩ := hV; go_simp; try with_reducible rfl)
      try simp only [Act.put, List.getElem_toArray, List.getElem_cons_succ, List.getElem_cons_zero, List.setIfInBounds_toArray, List.set_cons_zero, List.set_cons_succ]
      refine' anyI_take R 25 rfl (v := ?_) (by kernel_rfl) (by rfl) (fun V hV => ?hy) HS0.out ?_
      case hy => ((try dsimp only at hV);  obtain ⟨q1, q2, q3, q4, q5, _⟩ := hV; go_simp; try with_reducible rfl)
      try simp only [Act.put, List.getElem_toArray, List.getElem_cons_succ, List.getElem_cons_zero, List.setIfInBounds_toArray, List.set_cons_zero, List.set_cons_succ]
      refine' anyI_take R 26 rfl (v := ?_) (by kernel_rfl) (by rfl) (fun V hV => ?hy) HS0.out ?_
      case hy => ((try dsimp only at hV);  obtain ⟨q1, q2, q3, q4, q5, _⟩ := hV; go_simp; try with_reducible rfl)
      try simp only [Act.put, List.getElem_toArray, List.getElem_cons_succ, List.getElem_cons_zero, List.setIfInBounds_toArray, List.set_cons_zero, List.set_cons_succ]
      refine anyI_one 23 (by kernel_rfl) rfl ?_
      try simp only [List.getElem_toArray, List.getElem_cons_succ, List.getElem_cons_zero]
      refine opE_step ?_
      rw [if_pos (by rfl)]
      go_simp
      go_at_call 9
      refine (C4.out _).mono ?_
      rintro e w23 ⟨rfl, hb⟩
      replace HS0 := Lib.hid (FSA.later HS0.out hb)
      clear hb
      dsimp only
      refine ⟨HS0.out, ?_⟩
      try simp only [Act.put, List.getElem_toArray, List.getElem_cons_succ, List.getElem_cons_zero, List.setIfInBounds_toArray, List.set_cons_zero, List.set_cons_succ]
      refine' anyI_take R 27 rfl (v := ?_) (by kernel_rfl) (by rfl) (fun V hV => ?hy) HS0.out ?_
      case hy => ((try dsimp only at hV);  obtain ⟨q1, q2, q3, q4, q5, _⟩ := hV; go_simp; try with_reducible rfl)
      try simp only [Act.put, List.getElem_toArray, List.getElem_cons_succ, List.getElem_cons_zero, List.setIfInBounds_toArray, List.set_cons_zero, List.set_cons_succ]
      refine' anyI_take R 28 rfl (v := ?_) (by kernel_rfl) (by rfl) (fun V hV => ?hy) HS0.out ?_
      case hy => ((try dsimp only at hV);  obtain ⟨q1, q2, q3, q4, q5, _⟩ := hV; go_simp; try with_reducible rfl)
      try simp only [Act.put, List.getElem_toArray, List.getElem_cons_succ, List.getElem_cons_zero, List.setIfInBounds_toArray, List.set_cons_zero, List.set_cons_succ]
      refine anyI_tail (by kernel_rfl) ?_
      try simp only [List.drop_succ_cons, List.drop_zero]
      clear R
      go_wp2_with fail
      refine NoPanic.normal ?_
      have S6 := HS0.out
      clear HS0 hwm
      have F := S6.2.2.2.2.2
      have hz := hB.size
      go_wp2_with fail
      go_roundw
      case rel => exact ⟨k + 1, by omega, by go_num, hI.below F (by omega), Nat.lt_of_lt_of_le hlt0 F.size, hB.trans (F.mono hz)⟩
      case measure => simp [intOf]; omega
    · obtain rfl : k = 13 := by omega
      rw [show ((13 : Nat) : Int) = 13 from rfl]
      clear hI hlt T0 z1 B1
      have hz := hB.size
      have G0 := gat_new wr 5 4 2 25 (0, 0)
      have T1 := hitems_start (wr.alloc (.cells #[.int .i64 5, .int .i64 4, .int .i64 2] 25)) 29
      have G1 := G0.below (below1 _ (.cells #[.int .i64 5, .int .i64 4, .int .i64 2, .bool false, .int .i64 5, .int .i64 4, .int .i64 4, .bool true, .int .i64 5, .int .i64 3, .int .i64 2, .bool false, .int .i64 6, .int .i64 4, .int .i64 2, .bool false, .int .i64 6, .int .i64 5, .int .i64 1, .bool true, .int .i64 5, .int .i64 8, .int .i64 2, .bool true, .int .i64 0, .int .i64 0, .int .i64 0, .bool false] 29)) (by simp)
      have B2 := hB.trans ((below2 wr (.cells #[.int .i64 5, .int .i64 4, .int .i64 2] 25) (.cells #[.int .i64 5, .int .i64 4, .int .i64 2, .bool false, .int .i64 5, .int .i64 4, .int .i64 4, .bool true, .int .i64 5, .int .i64 3, .int .i64 2, .bool false, .int .i64 6, .int .i64 4, .int .i64 2, .bool false, .int .i64 6, .int .i64 5, .int .i64 1, .bool true, .int .i64 5, .int .i64 8, .int .i64 2, .bool true, .int .i64 0, .int .i64 0, .int .i64 0, .bool false] 29)).mono hz)
      rw [show (wr.alloc (.cells #[.int .i64 5, .int .i64 4, .int .i64 2] 25)).heap.size = wr.heap.size + 1 by simp] at T1
      clear G0
      go_wp2_with fail
      go_name_world w2 hw2
      rw [hw2] at G1 T1 B2
      have z2 : wr.heap.size + 1 < w2.heap.size := by rw [← hw2]; simp
      clear hw2
      have hq : w.heap.size < wr.heap.size + 1 := by omega
      generalize wr.heap.size = q at G1 T1 z2 hq ⊢
      go_loopw [85] (fun i W => ∃ k : Nat, k ≤ 7 ∧ i = .int .i64 k ∧ HItems W (q + 1) ∧ GAt W q 5 4 2 ∧ q + 1 < W.heap.size ∧ Below w.heap.size w W) (fun i _ => 7 - (intOf i).toNat)
      case atStart => exact ⟨0, by omega, rfl, T1, G1, z2, B2⟩
      case round =>
        obtain ⟨k, hk, rfl, hI, hG, hlt0, hB⟩ := hrel
        rename World => wq
        clear T1 G1 z2 B2
        by_cases hlt : k < 7
        · obtain ⟨h1, h2, h3, h4⟩ := hI k hlt
          obtain ⟨i1, i2, i3, hc1, hc2⟩ := hit_ok k hlt
          generalize hit k = it at h1 h2 h3 h4 i1 i2 i3 hc1 hc2
          obtain ⟨l, d, c, ok⟩ := it
          simp only at h1 h2 h3 h4 i1 i2 i3 hc1 hc2
          have C1 := Lib.hid (fun W => can_any 5 4 2 l d c W (by omega) (by omega) (by omega) (by omega) (by omega) (by omega))
          have C2 := Lib.hid (fun W => can_any 0 0 0 l d c W (by omega) (by omega) (by omega) (by omega) (by omega) (by omega))
          rw [hc1] at C1
          rw [hc2] at C2
          clear i1 i2 i3 hc1 hc2
          have S0 := fsb_start wq q hG l d c ok 29
          go_upto_region 12 with fail
          go_name_world wz hwz
          rw [hwz] at S0
          clear hwz h1 h2 h3 h4
          refine wp_region_noPanic (region_ord 13 [] (fun V => FSB wq q wq.heap.size l d c ok V) (by kernel_rfl) (by kernel_rfl) (fun _ _ _ _ _ h => h) fun R => ?_)
          change anyI _ _ _ _ _ _ 13 _ _ wz.drew
          have HS0 := Lib.hid (show (fun V => FSB wq q wq.heap.size l d c ok V) wz.drew from FSB.drew S0)
          refine' anyI_take R 0 rfl (v := ?_) (by kernel_rfl) (by rfl) (fun V hV => ?hy) HS0.out ?_
          case hy => ((try dsimp only at hV);  obtain ⟨q1, q2, q3, q4, q5, q6, q7, _⟩ := hV; go_simp; try with_reducible rfl)
          try simp only [Act.put, List.getElem_toArray, List.getElem_cons_succ, List.getElem_cons_zero, List.setIfInBounds_toArray, List.set_cons_zero, List.set_cons_succ]
          refine' anyI_take R 1 rfl (v := ?_) (by kernel_rfl) (by rfl) (fun V hV => ?hy) HS0.out ?_
          case hy => ((try dsimp only at hV);  obtain ⟨q1, q2, q3, q4, q5, q6, q7, _⟩ := hV; go_simp; try with_reducible rfl)
          try simp only [Act.put, List.getElem_toArray, List.getElem_cons_succ, List.getElem_cons_zero, List.setIfInBounds_toArray, List.set_cons_zero, List.set_cons_succ]
          refine' anyI_take R 2 rfl (v := ?_) (by kernel_rfl) (by rfl) (fun V hV => ?hy) HS0.out ?_
          case hy => ((try dsimp only at hV);  obtain ⟨q1, q2, q3, q4, q5, q6, q7, _⟩ := hV; go_simp; try with_reducible rfl)
          try simp only [Act.put, List.getElem_toArray, List.getElem_cons_succ, List.getElem_cons_zero, List.setIfInBounds_toArray, List.set_cons_zero, List.set_cons_succ]
          refine' anyI_take R 4 rfl (v := ?_) (by kernel_rfl) (by rfl) (fun V hV => ?hy) HS0.out ?_
          case hy => ((try dsimp only at hV);  obtain ⟨q1, q2, q3, q4, q5, q6, q7, _⟩ := hV; go_simp; try with_reducible rfl)
          try simp only [Act.put, List.getElem_toArray, List.getElem_cons_succ, List.getElem_cons_zero, List.setIfInBounds_toArray, List.set_cons_zero, List.set_cons_succ]
          refine' anyI_take R 5 rfl (v := ?_) (by kernel_rfl) (by rfl) (fun V hV => ?hy) HS0.out ?_
          case hy => ((try dsimp only at hV);  obtain ⟨q1, q2, q3, q4, q5, q6, q7, _⟩ := hV; go_simp; try with_reducible rfl)
          try simp only [Act.put, List.getElem_toArray, List.getElem_cons_succ, List.getElem_cons_zero, List.setIfInBounds_toArray, List.set_cons_zero, List.set_cons_succ]
          refine anyI_one 3 (by kernel_rfl) rfl ?_
          try simp only [List.getElem_toArray, List.getElem_cons_succ, List.getElem_cons_zero]
          refine opE_step ?_
          rw [if_pos (by rfl)]
          go_simp
          go_at_call 10
          refine (C1.out _).mono ?_
          rintro e w3 ⟨rfl, hb⟩
          replace HS0 := Lib.hid (FSB.later HS0.out hb)
          clear hb
          dsimp only
          refine ⟨HS0.out, ?_⟩
          try simp only [Act.put, List.getElem_toArray, List.getElem_cons_succ, List.getElem_cons_zero, List.setIfInBounds_toArray, List.set_cons_zero, List.set_cons_succ]
          refine' anyI_take R 6 rfl (v := ?_) (by kernel_rfl) (by rfl) (fun V hV => ?hy) HS0.out ?_
          case hy => ((try dsimp only at hV);  obtain ⟨q1, q2, q3, q4, q5, q6, q7, _⟩ := hV; go_simp; try with_reducible rfl)
          try simp only [Act.put, List.getElem_toArray, List.getElem_cons_succ, List.getElem_cons_zero, List.setIfInBounds_toArray, List.set_cons_zero, List.set_cons_succ]
          refine' anyI_take R 7 rfl (v := ?_) (by kernel_rfl) (by rfl) (fun V hV => ?hy) HS0.out ?_
          case hy => ((try dsimp only at hV);  obtain ⟨q1, q2, q3, q4, q5, q6, q7, _⟩ := hV; go_simp; try with_reducible rfl)
          try simp only [Act.put, List.getElem_toArray, List.getElem_cons_succ, List.getElem_cons_zero, List.setIfInBounds_toArray, List.set_cons_zero, List.set_cons_succ]
          refine' anyI_take R 8 rfl (v := ?_) (by kernel_rfl) (by rfl) (fun V hV => ?hy) HS0.out ?_
          case hy => ((try dsimp only at hV);  obtain ⟨q1, q2, q3, q4, q5, q6, q7, _⟩ := hV; go_simp; try with_reducible rfl)
          try simp only [Act.put, List.getElem_toArray, List.getElem_cons_succ, List.getElem_cons_zero, List.setIfInBounds_toArray, List.set_cons_zero, List.set_cons_succ]
          refine' anyI_take R 9 rfl (v := ?_) (by kernel_rfl) (by rfl) (fun V hV => ?hy) HS0.out ?_
          case hy => ((try dsimp only at hV);  obtain ⟨q1, q2, q3, q4, q5, q6, q7, _⟩ := hV; go_simp; try with_reducible rfl)
          try simp only [Act.put, List.getElem_toArray, List.getElem_cons_succ, List.getElem_cons_zero, List.setIfInBounds_toArray, List.set_cons_zero, List.set_cons_succ]
          refine' anyI_take R 10 rfl (v := ?_) (by kernel_rfl) (by rfl) (fun V hV => ?hy) HS0.out ?_
          case hy => ((try dsimp only at hV);  obtain ⟨q1, q2, q3, q4, q5, q6, q7, _⟩ := hV; go_simp; try with_reducible rfl)
          try simp only [Act.put, List.getElem_toArray, List.getElem_cons_succ, List.getElem_cons_zero, List.setIfInBounds_toArray, List.set_cons_zero, List.set_cons_succ]
          refine anyI_one 11 (by kernel_rfl) rfl ?_
          try simp only [List.getElem_toArray, List.getElem_cons_succ, List.getElem_cons_zero]
          refine opE_step ?_
          rw [if_pos (by rfl)]
          go_simp
          go_at_call 10
          refine (C2.out _).mono ?_
          rintro e w11 ⟨rfl, hb⟩
          replace HS0 := Lib.hid (FSB.later HS0.out hb)
          clear hb
          dsimp only
          refine ⟨HS0.out, ?_⟩
          try simp only [Act.put, List.getElem_toArray, List.getElem_cons_succ, List.getElem_cons_zero, List.setIfInBounds_toArray, List.set_cons_zero, List.set_cons_succ]
          refine' anyI_take R 12 rfl (v := ?_) (by kernel_rfl) (by rfl) (fun V hV => ?hy) HS0.out ?_
          case hy => ((try dsimp only at hV);  obtain ⟨q1, q2, q3, q4, q5, q6, q7, _⟩ := hV; go_simp; try with_reducible rfl)
          try simp only [Act.put, List.getElem_toArray, List.getElem_cons_succ, List.getElem_cons_zero, List.setIfInBounds_toArray, List.set_cons_zero, List.set_cons_succ]
          refine anyI_tail (by kernel_rfl) ?_
          try simp only [List.drop_succ_cons, List.drop_zero]
          clear R
          go_wp2_with fail
          refine NoPanic.normal ?_
          have S6 := HS0.out
          clear HS0
          have F := S6.2.2.2.2.2.2.2
          have hz := hB.size
          go_wp2_with fail
          go_roundw
          case rel => exact ⟨k + 1, by omega, by go_num, hI.below F (by omega), hG.below F (by omega), Nat.lt_of_lt_of_le hlt0 F.size, hB.trans (F.mono hz)⟩
          case measure => simp [intOf]; omega
        · obtain rfl : k = 7 := by omega
          have hz := hB.size
          go_wp2_with fail
          (with_reducible refine (Wk.out _).mono ?_); rintro e w' ⟨rfl, hb2⟩
          go_wp2_with fail
          go_ret
          exact ⟨rfl, hB.trans (hb2.mono hz)⟩
end Go.Proofs.Ytpbambmjkhadgaa
