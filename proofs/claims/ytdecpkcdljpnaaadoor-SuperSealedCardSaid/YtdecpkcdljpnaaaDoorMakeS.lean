/- make([]byte, 32), and Same of what is the same. -/
import Derived.Test.YtdecpkcdljpnaaaDoorKeep
namespace Go.Proofs.YtdecpkcdljpnaaaDoor
open Go.RowKit

theorem makeS (w : World) : (Instr.makeSlice 26 (.int .i64 32) (.int .i64 32)).run Tryd.prog w = .ok (.slice (some ⟨w.heap.size, 0, none⟩) 32 32) (w.alloc (.cells (zcells 32) 5)) := make_bytes 32 (by omega) w
theorem same_eq (A A' : Option Addr) (n c c' B : Nat) (bs : List UInt8) (w : World) (hn : n = bs.length) (hr : RdB w B A bs) (hr' : RdB w B A' bs) :
    Calls Tryd.prog 9 #[.slice A n c, .slice A' n c'] w fun e w' => e = .returned (.bool true) ∧ Below w.heap.size w w' := by
  refine (same_any A A' n n c c' B bs bs w hn hn hr hr').mono ?_
  rintro e w' ⟨rfl, m, rfl⟩
  exact ⟨by rw [decide_eq_true rfl], belowN _ _ _⟩
end Go.Proofs.YtdecpkcdljpnaaaDoor
