/- Two boxes of geometries written anew. -/
import Derived.Test.YtabeadbnoifedaaGeo
set_option linter.unusedVariables false
set_option linter.unusedSimpArgs false
namespace Go.Proofs.Ytabeadbnoifedaa
open Go.RowKit

theorem gat_set {W : World} {b : Nat} {x0 x1 x2 : Value} {l d c : Int} (h : W.cell? ⟨b, 0, none⟩ = some x0 ∧ W.cell? ⟨b, 1, none⟩ = some x1 ∧ W.cell? ⟨b, 2, none⟩ = some x2) :
    GAt (((W.setCell ⟨b, 0, none⟩ (.int .i64 l)).setCell ⟨b, 1, none⟩ (.int .i64 d)).setCell ⟨b, 2, none⟩ (.int .i64 c)) b l d c := by
  obtain ⟨h0, h1, h2⟩ := h
  refine ⟨?_, ?_, ?_⟩ <;> simp [go_sem, h0, h1, h2]
theorem gat_far {W : World} {b b' : Nat} {l d c : Int} {v0 v1 v2 : Value} (h : GAt W b l d c) (hne : b' ≠ b) : GAt (((W.setCell ⟨b', 0, none⟩ v0).setCell ⟨b', 1, none⟩ v1).setCell ⟨b', 2, none⟩ v2) b l d c := by
  obtain ⟨h0, h1, h2⟩ := h
  refine ⟨?_, ?_, ?_⟩ <;> (rw [World.cell?_setCell_far _ _ _ _ (by exact hne), World.cell?_setCell_far _ _ _ _ (by exact hne), World.cell?_setCell_far _ _ _ _ (by exact hne)]; assumption)
theorem gs2_set {w0 W : World} {B b b' : Nat} {l d c l' d' c' : Int} (h : GS2 w0 B b b' l d c l' d' c' W) (hne : b ≠ b') (h1 : B ≤ b) (h2 : B ≤ b') (L D C L' D' C' : Int) :
    GS2 w0 B b b' L D C L' D' C' ((((((W.setCell ⟨b, 0, none⟩ (.int .i64 L)).setCell ⟨b, 1, none⟩ (.int .i64 D)).setCell ⟨b, 2, none⟩ (.int .i64 C)).setCell ⟨b', 0, none⟩ (.int .i64 L')).setCell ⟨b', 1, none⟩ (.int .i64 D')).setCell ⟨b', 2, none⟩ (.int .i64 C')) := by
  obtain ⟨g1, g2, g3, k1, k2, k3, F⟩ := h
  obtain ⟨a1, a2, a3⟩ := gat_far (v0 := .int .i64 L') (v1 := .int .i64 D') (v2 := .int .i64 C') (gat_set (l := L) (d := D) (c := C) ⟨g1, g2, g3⟩) (Ne.symm hne)
  have K := gat_far (v0 := .int .i64 L) (v1 := .int .i64 D) (v2 := .int .i64 C) (show GAt W b' l' d' c' from ⟨k1, k2, k3⟩) hne
  obtain ⟨c1, c2, c3⟩ := gat_set (l := L') (d := D') (c := C') K
  exact ⟨a1, a2, a3, c1, c2, c3, (((((F.setCell (by exact h1) _).setCell (by exact h1) _).setCell (by exact h1) _).setCell (by exact h2) _).setCell (by exact h2) _).setCell (by exact h2) _⟩
end Go.Proofs.Ytabeadbnoifedaa
