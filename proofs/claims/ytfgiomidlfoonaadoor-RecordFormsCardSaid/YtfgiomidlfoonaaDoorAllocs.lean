/- Blocks made one after the other. -/
import Derived.Test.YtfgiomidlfoonaaDoorMem
set_option linter.unusedVariables false
set_option linter.unusedSimpArgs false
namespace Go.Proofs.YtfgiomidlfoonaaDoor
open Go.RowKit

/-- Blocks made one after the other. -/
def mades (w : World) : List Obj → World
  | [] => w
  | o :: r => mades (w.alloc o) r
theorem mades_old : ∀ (os : List Obj) (w : World) (g : Nat), g < w.heap.size → (mades w os).heap[g]? = w.heap[g]?
  | [], _, _, _ => rfl
  | o :: r, w, g, h => by
    show (mades (w.alloc o) r).heap[g]? = _
    rw [mades_old r (w.alloc o) g (by simp; omega), heap_alloc_old w o h]
theorem mades_get : ∀ (os : List Obj) (w : World) (i : Nat) (h : i < os.length), (mades w os).heap[w.heap.size + i]? = some os[i]
  | [], _, _, h => by simp at h
  | o :: r, w, 0, _ => by
    show (mades (w.alloc o) r).heap[w.heap.size + 0]? = _
    rw [mades_old r (w.alloc o) _ (by simp)]
    exact heap_alloc_new w o
  | o :: r, w, i + 1, h => by
    show (mades (w.alloc o) r).heap[w.heap.size + (i + 1)]? = _
    have := mades_get r (w.alloc o) i (by simpa using h)
    rw [show (w.alloc o).heap.size + i = w.heap.size + (i + 1) by simp; omega] at this
    simpa using this
theorem mades_below : ∀ (os : List Obj) (w0 w : World), Below w0.heap.size w0 w → Below w0.heap.size w0 (mades w os)
  | [], _, _, h => h
  | o :: r, w0, w, h => mades_below r w0 (w.alloc o) (h.alloc h.size o)
theorem mades_size : ∀ (os : List Obj) (w : World), (mades w os).heap.size = w.heap.size + os.length
  | [], _ => rfl
  | o :: r, w => by
    show (mades (w.alloc o) r).heap.size = _
    rw [mades_size r]; simp; omega
end Go.Proofs.YtfgiomidlfoonaaDoor
