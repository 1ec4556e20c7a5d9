/- Three boxes of geometries that stay. -/
import Derived.Test.YtabeadbnoifedaaGeo
set_option linter.unusedVariables false
set_option linter.unusedSimpArgs false
namespace Go.Proofs.Ytabeadbnoifedaa
open Go.RowKit

/-- Three boxes that stay. -/
abbrev GS3 (w0 : World) (B b b' b2 : Nat) (la da ca lb db cb lc dc cc : Int) (W : World) : Prop := W.cell? ⟨b, 0, none⟩ = some (.int .i64 la) ∧ W.cell? ⟨b, 1, none⟩ = some (.int .i64 da) ∧ W.cell? ⟨b, 2, none⟩ = some (.int .i64 ca) ∧ W.cell? ⟨b', 0, none⟩ = some (.int .i64 lb) ∧ W.cell? ⟨b', 1, none⟩ = some (.int .i64 db) ∧ W.cell? ⟨b', 2, none⟩ = some (.int .i64 cb) ∧ W.cell? ⟨b2, 0, none⟩ = some (.int .i64 lc) ∧ W.cell? ⟨b2, 1, none⟩ = some (.int .i64 dc) ∧ W.cell? ⟨b2, 2, none⟩ = some (.int .i64 cc) ∧ Below B w0 W
theorem GS3.drew {w0 W : World} {B b b' b2 : Nat} {la da ca lb db cb lc dc cc : Int} (h : GS3 w0 B b b' b2 la da ca lb db cb lc dc cc W) : GS3 w0 B b b' b2 la da ca lb db cb lc dc cc W.drew := by
  obtain ⟨q1, q2, q3, q4, q5, q6, q7, q8, q9, F⟩ := h
  exact ⟨q1, q2, q3, q4, q5, q6, q7, q8, q9, F.drew⟩
theorem GS3.later {w0 W W' : World} {B b b' b2 : Nat} {la da ca lb db cb lc dc cc : Int} (h : GS3 w0 B b b' b2 la da ca lb db cb lc dc cc W) (hb : Below W.heap.size W W') (hB : B ≤ w0.heap.size := by exact Nat.le_refl _) : GS3 w0 B b b' b2 la da ca lb db cb lc dc cc W' := by
  obtain ⟨q1, q2, q3, q4, q5, q6, q7, q8, q9, F⟩ := h
  obtain ⟨a1, a2, a3⟩ := GAt.below (show GAt W b la da ca from ⟨q1, q2, q3⟩) hb (World.block_lt_of_cell? _ _ q1)
  obtain ⟨r1, r2, r3⟩ := GAt.below (show GAt W b' lb db cb from ⟨q4, q5, q6⟩) hb (World.block_lt_of_cell? _ _ q4)
  obtain ⟨c1, c2, c3⟩ := GAt.below (show GAt W b2 lc dc cc from ⟨q7, q8, q9⟩) hb (World.block_lt_of_cell? _ _ q7)
  exact ⟨a1, a2, a3, r1, r2, r3, c1, c2, c3, F.trans (hb.mono (Nat.le_trans hB F.size))⟩
theorem gs3_start {w0 W : World} (F : Below w0.heap.size w0 W) (la da ca lb db cb lc dc cc : Int) (t : TypeId) :
    GS3 w0 w0.heap.size W.heap.size (W.heap.size + 1) (W.heap.size + 1 + 1) la da ca lb db cb lc dc cc (((W.alloc (.cells #[.int .i64 la, .int .i64 da, .int .i64 ca] t)).alloc (.cells #[.int .i64 lb, .int .i64 db, .int .i64 cb] t)).alloc (.cells #[.int .i64 lc, .int .i64 dc, .int .i64 cc] t)) := by
  have G := gat_new W la da ca t (0, 0)
  have G2 := (G.below (below1 _ (.cells #[.int .i64 lb, .int .i64 db, .int .i64 cb] t)) (by simp)).below (below1 _ (.cells #[.int .i64 lc, .int .i64 dc, .int .i64 cc] t)) (by simp; omega)
  have K := gat_new (W.alloc (.cells #[.int .i64 la, .int .i64 da, .int .i64 ca] t)) lb db cb t (0, 0)
  have K2 := K.below (below1 _ (.cells #[.int .i64 lc, .int .i64 dc, .int .i64 cc] t)) (by simp)
  have L := gat_new ((W.alloc (.cells #[.int .i64 la, .int .i64 da, .int .i64 ca] t)).alloc (.cells #[.int .i64 lb, .int .i64 db, .int .i64 cb] t)) lc dc cc t (0, 0)
  rw [show (W.alloc (.cells #[.int .i64 la, .int .i64 da, .int .i64 ca] t)).heap.size = W.heap.size + 1 by simp] at K2
  rw [show ((W.alloc (.cells #[.int .i64 la, .int .i64 da, .int .i64 ca] t)).alloc (.cells #[.int .i64 lb, .int .i64 db, .int .i64 cb] t)).heap.size = W.heap.size + 1 + 1 by simp] at L
  exact ⟨G2.1, G2.2.1, G2.2.2, K2.1, K2.2.1, K2.2.2, L.1, L.2.1, L.2.2, F.trans ((below3 W _ _ _).mono F.size)⟩
end Go.Proofs.Ytabeadbnoifedaa
