/- The example of the document, as each law of crc runs it. -/
import Derived.Test.YtgpdmdahlcihmaaDoorFeed
import Derived.Test.YtgpdmdahlcihmaaDoorOpsKit
namespace Go.Proofs.YtgpdmdahlcihmaaDoor
open Go.RowKit

theorem nine_cells : ∀ k, k < 9 → (#[Value.int .u8 49, .int .u8 50, .int .u8 51, .int .u8 52, .int .u8 53, .int .u8 54, .int .u8 55, .int .u8 56, .int .u8 57] : Array Value)[k]? = some (.int .u8 ((([49, 50, 51, 52, 53, 54, 55, 56, 57] : List UInt8).getD k 0).toNat : Int)) := by
  intro k hk
  match k, hk with
  | 0, _ | 1, _ | 2, _ | 3, _ | 4, _ | 5, _ | 6, _ | 7, _ | 8, _ => rfl
theorem wakes_any (w : World) (ht : TabOk w) : Calls Tryd.prog 9 #[] w fun e w' => e = .returned (.bool true) ∧ Below w.heap.size w w' := by
  have kc := conv_const
  have hp := ht.pos
  have S1 : Hid (∀ W, W.heap[w.heap.size]? = some (.cells #[Value.int .u8 49, .int .u8 50, .int .u8 51, .int .u8 52, .int .u8 53, .int .u8 54, .int .u8 55, .int .u8 56, .int .u8 57] 5 (9, 10)) →
      W.heap[w.heap.size + 1]? = some (.cells #[.slice (some ⟨w.heap.size, 0, none⟩) 9 9] 23) → Below w.heap.size w W →
      Calls Tryd.prog 8 #[.slice (some ⟨w.heap.size + 1, 0, none⟩) 1 1] W fun e w' => e = .returned (.int .u32 3808858755) ∧ w' = W) :=
    Lib.hid fun W h1 h2 hb => sum_one _ _ [49, 50, 51, 52, 53, 54, 55, 56, 57] _ _ _ (w.heap.size + 1) W h2 (by have := (Array.getElem?_eq_some_iff.1 h2).1; omega)
      (rdb_block h1 (by omega) (by simp) nine_cells) (ht.below hb hp) 3808858755 (by decide +kernel)
  go_enter Tryd.func9, Tryd.ntmps9
  go_wp2_with (go_at_call 8; refine (S1.out _ ?_ ?_ (below2 _ _ _)).mono ?_; (rw [hp_old _ _ _ (by simp)]; exact hp_new _ _ _ rfl); (exact hp_new _ _ _ (by simp)); rintro e w' ⟨rfl, rfl⟩)
  go_ret
  exact ⟨rfl, below2 _ _ _⟩
end Go.Proofs.YtgpdmdahlcihmaaDoor
