/- A Record's box, and its sectors, as the statements of record use them. -/
import Derived.Test.YtfgiomidlfoonaaDoorRecOfA
import Derived.Test.YtfgiomidlfoonaaDoorRecDec
import Derived.Test.YtfgiomidlfoonaaDoorRecSame
import Derived.Test.YtfgiomidlfoonaaDoorRecWakes
set_option maxRecDepth 8000
set_option linter.unusedVariables false
set_option linter.unusedSimpArgs false
namespace Go.Proofs.YtfgiomidlfoonaaDoor
open Go.RowKit

theorem P4.rdc {lo : Nat} {W : World} {g : Nat} {bk : Nat → Nat} {rs : List (List UInt8)} (h : P4 lo W g bk rs) : RdC W W.heap.size (some ⟨g, 0, none⟩) rs :=
  ⟨by have := h.n; omega, fun _ => ⟨g, 0, rfl, h.lt, fun k hk => by
    have := h.n
    have hc := h.row k (by omega)
    rw [slv_yes hk] at hc
    exact ⟨_, 32, by rw [Nat.zero_add, h.len k hk]; exact hc, by rw [h.len k hk]; omega, h.rd k hk⟩⟩⟩
theorem OwIt.rdS {e : TypeId} {w : World} {B lo n c : Nat} {A : Option Addr} {l : List It} (h : OwIt e w B lo (.slice A n c) l) : n = l.length ∧ l.length ≤ c ∧ RdI w w.heap.size A l := by
  obtain ⟨A', c', e, h1, h2⟩ := h.rd
  injection e with e1 e2 e3
  subst e1 e2 e3
  exact ⟨rfl, h1, h2⟩
/-- A box that holds a Record. -/
def RxB (W : World) (p : Nat) (s : Int) (A : Option Addr) (n c : Nat) : Prop := W.cell? ⟨p, 0, none⟩ = some (.int .i64 s) ∧ W.cell? ⟨p, 1, none⟩ = some (.slice A n c)
theorem RxB.lt {W : World} {p : Nat} {s : Int} {A : Option Addr} {n c : Nat} (h : RxB W p s A n c) : p < W.heap.size := World.block_lt_of_cell? _ _ h.1
theorem RxB.below {W W' : World} {p : Nat} {s : Int} {A : Option Addr} {n c : Nat} (h : RxB W p s A n c) (hb : Below W.heap.size W W') : RxB W' p s A n c := ⟨(hb.cell (p := ⟨p, 0, none⟩) h.lt).trans h.1, (hb.cell (p := ⟨p, 1, none⟩) h.lt).trans h.2⟩
theorem rxb_new (W : World) (s : Int) (A : Option Addr) (n c : Nat) (t : TypeId) : RxB (W.alloc (.cells #[.int .i64 s, .slice A n c] t)) W.heap.size s A n c :=
  ⟨cell_of_row _ _ 0 _ _ _ (heap_alloc_new W (.cells #[.int .i64 s, .slice A n c] t)), cell_of_row _ _ 1 _ _ _ (heap_alloc_new W (.cells #[.int .i64 s, .slice A n c] t))⟩
section
variable {lo : Nat} {W : World} {g : Nat} {bk : Nat → Nat} {rs : List (List UInt8)}
theorem P4.cell (h : P4 lo W g bk rs) (k : Nat) (hk : k < rs.length) : W.cell? ⟨g, k, none⟩ = some (.slice (some ⟨bk k, 0, none⟩) 32 32) := by
  have := h.row k (by have := h.n; omega); rwa [slv_yes hk] at this
theorem P4.byte (h : P4 lo W g bk rs) (k : Nat) (hk : k < rs.length) (i : Nat) (hi : i < 32) : W.cell? ⟨bk k, i, none⟩ = some (.int .u8 (((rs.getD k []).getD i 0).toNat : Int)) ∧ W.frozen? ⟨bk k, i, none⟩ = false :=
  (h.own k hk).cell (h.len k hk) i (by omega)
/-- One byte of a sector set. -/
theorem P4.put (h : P4 lo W g bk rs) (k : Nat) (hk : k < rs.length) (i : Nat) (x : UInt8) : P4 lo (W.setCell ⟨bk k, i, none⟩ (.int .u8 (x.toNat : Int))) g bk (rs.set k ((rs.getD k []).set i x)) ∧ W.grownBy (W.setCell ⟨bk k, i, none⟩ (.int .u8 (x.toNat : Int))) (some (bk k)) := by
  obtain ⟨h1, h2⟩ := (h.own k hk).set (h.len k hk) i x
  exact ⟨h.set k hk h1 (by rw [List.length_set]; exact h.len k hk) h2, h2⟩
theorem P4.drew (h : P4 lo W g bk rs) : P4 lo W.drew g bk rs := h.below (Below.refl _ _).drew
end
theorem turnB_len (rs : List (List UInt8)) (k i : Nat) (c : UInt8) : (turnB rs k i c).length = rs.length := by simp [turnB]
end Go.Proofs.YtfgiomidlfoonaaDoor
