/- Facts of this program's own: bytes made, constants turned into slices. -/
import Derived.Test.YtfgiomidlfoonaaDoorProg
import Derived.Test.YtfgiomidlfoonaaDoorMem
namespace Go.Proofs.YtfgiomidlfoonaaDoor
open Go.RowKit

theorem conv_const (w : World) (B : Nat) (C : Array Value) (n c : Nat) (hB : B = w.heap.size) :
    (convert 22 22 (.slice (some ⟨B, 0, none⟩) n c)).run Tryd.prog (w.alloc (.cells C 5)) = .ok (.slice (some ⟨B, 0, none⟩) n c) (w.alloc (.cells C 5 (C.size, C.size + 1))) := by
  subst hB; exact Lib.run_convert_bytes_const (P := Tryd.prog) w 22 5 C n c Tryd.underlying22 Tryd.underlying5
theorem info_u8 : (Tryd.prog.info? 5).map (fun i => (i.zero, i.size, i.bytes)) = some (some (.int .u8 0), 1, 1) := by kernel_rfl
theorem make_bytes (n : Nat) (hn : n ≤ 140737488355328) (w : World) :
    (Instr.makeSlice 22 (.int .i64 (n : Int)) (.int .i64 (n : Int))).run Tryd.prog w = .ok (.slice (some ⟨w.heap.size, 0, none⟩) n n) (w.alloc (.cells (zcells n) 5)) :=
  run_make_row' _ _ _ 1 Tryd.underlying22 info_u8 rfl _ _ n (by omega) (by omega) w
end Go.Proofs.YtfgiomidlfoonaaDoor
