/- A Super in memory; super's within. -/
import Derived.Test.YtdecpkcdljpnaaaDoorProg
import Derived.Test.YtdecpkcdljpnaaaDoorMem
import Derived.Test.YtdecpkcdljpnaaaDoorSupMath
set_option linter.unusedVariables false
set_option linter.unusedSimpArgs false
namespace Go.Proofs.YtdecpkcdljpnaaaDoor
open Go.RowKit

/-- The block holds this Super. -/
abbrev SAt (w : World) (b : Nat) (s : Su) : Prop :=
  w.cell? ⟨b, 0, none⟩ = some (.int .i64 s.g) ∧ w.cell? ⟨b, 1, none⟩ = some (.int .i64 s.al) ∧ w.cell? ⟨b, 2, none⟩ = some (.int .i64 s.ad) ∧ w.cell? ⟨b, 3, none⟩ = some (.int .i64 s.ac)
  ∧ w.cell? ⟨b, 4, none⟩ = some (.int .i64 s.bl) ∧ w.cell? ⟨b, 5, none⟩ = some (.int .i64 s.bd) ∧ w.cell? ⟨b, 6, none⟩ = some (.int .i64 s.bc) ∧ w.cell? ⟨b, 7, none⟩ = some (.bool s.r)
  ∧ w.cell? ⟨b, 8, none⟩ = some (.int .i64 s.wi) ∧ w.cell? ⟨b, 9, none⟩ = some (.int .i64 s.ep) ∧ w.cell? ⟨b, 10, none⟩ = some (.int .i64 s.ou)
theorem sat_block {w : World} {b : Nat} {s : Su} {t : TypeId} {f : Nat × Nat} (h : w.heap[b]? = some (.cells #[.int .i64 s.g, .int .i64 s.al, .int .i64 s.ad, .int .i64 s.ac, .int .i64 s.bl, .int .i64 s.bd, .int .i64 s.bc, .bool s.r, .int .i64 s.wi, .int .i64 s.ep, .int .i64 s.ou] t f)) : SAt w b s :=
  ⟨cell_of_row _ _ 0 _ _ _ h, cell_of_row _ _ 1 _ _ _ h, cell_of_row _ _ 2 _ _ _ h, cell_of_row _ _ 3 _ _ _ h, cell_of_row _ _ 4 _ _ _ h, cell_of_row _ _ 5 _ _ _ h, cell_of_row _ _ 6 _ _ _ h, cell_of_row _ _ 7 _ _ _ h, cell_of_row _ _ 8 _ _ _ h, cell_of_row _ _ 9 _ _ _ h, cell_of_row _ _ 10 _ _ _ h⟩
theorem sat_new (w : World) (s : Su) (t : TypeId) (f : Nat × Nat) : SAt (w.alloc (.cells #[.int .i64 s.g, .int .i64 s.al, .int .i64 s.ad, .int .i64 s.ac, .int .i64 s.bl, .int .i64 s.bd, .int .i64 s.bc, .bool s.r, .int .i64 s.wi, .int .i64 s.ep, .int .i64 s.ou] t f)) w.heap.size s := sat_block (heap_alloc_new w _)
theorem SAt.keep {w w' : World} {b : Nat} {s : Su} (h : SAt w b s) (hk : ∀ k, w'.cell? ⟨b, k, none⟩ = w.cell? ⟨b, k, none⟩) : SAt w' b s := by
  obtain ⟨h0, h1, h2, h3, h4, h5, h6, h7, h8, h9, h10⟩ := h
  exact ⟨(hk 0).trans h0, (hk 1).trans h1, (hk 2).trans h2, (hk 3).trans h3, (hk 4).trans h4, (hk 5).trans h5, (hk 6).trans h6, (hk 7).trans h7, (hk 8).trans h8, (hk 9).trans h9, (hk 10).trans h10⟩
theorem SAt.below {w w' : World} {b B : Nat} {s : Su} (h : SAt w b s) (hb : Below B w w') (hB : b < B) : SAt w' b s := h.keep fun k => hb.cell (p := ⟨b, k, none⟩) hB
theorem SAt.lt {w : World} {b : Nat} {s : Su} (h : SAt w b s) : b < w.heap.size := World.block_lt_of_cell? _ _ h.1
/-- What stays while callees make memory. -/
def SS (w0 : World) (B b : Nat) (s : Su) (W : World) : Prop := SAt W b s ∧ Below B w0 W ∧ b < W.heap.size
theorem SS.later {w0 W W' : World} {B b : Nat} {s : Su} (h : SS w0 B b s W) (hb : Below W.heap.size W W') (hB : B ≤ w0.heap.size := by exact Nat.le_refl _) : SS w0 B b s W' :=
  ⟨h.1.below hb h.2.2, h.2.1.trans (hb.mono (Nat.le_trans hB h.2.1.size)), Nat.lt_of_lt_of_le h.2.2 hb.size⟩
theorem SS.drew {w0 W : World} {B b : Nat} {s : Su} (h : SS w0 B b s W) : SS w0 B b s W.drew := ⟨h.1, h.2.1.drew, h.2.2⟩
theorem ss_new (w : World) (s : Su) (t : TypeId) (f : Nat × Nat) : SS w w.heap.size w.heap.size s (w.alloc (.cells #[.int .i64 s.g, .int .i64 s.al, .int .i64 s.ad, .int .i64 s.ac, .int .i64 s.bl, .int .i64 s.bd, .int .i64 s.bc, .bool s.r, .int .i64 s.wi, .int .i64 s.ep, .int .i64 s.ou] t f)) := ⟨sat_new w s t f, below1 w _, by simp⟩
end Go.Proofs.YtdecpkcdljpnaaaDoor
