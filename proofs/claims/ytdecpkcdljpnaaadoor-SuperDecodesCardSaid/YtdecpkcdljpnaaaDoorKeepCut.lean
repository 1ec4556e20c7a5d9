/- Cut: what that help computes. -/
import Derived.Test.YtdecpkcdljpnaaaDoorKeepCopy
import Derived.Test.YtdecpkcdljpnaaaDoorKeep
namespace Go.Proofs.YtdecpkcdljpnaaaDoor
open Go.RowKit

theorem cut_any (A : Option Addr) (n c B : Nat) (k : Nat) (bs : List UInt8) (w : World) (hk : k ≤ 140737488355328) (hn : n = bs.length) (hc : n ≤ c) (hr : RdB w B A bs) :
    Calls Tryd.prog 15 #[.slice A n c, .int .i64 (k : Int)] w fun e w' => ∃ v, e = .returned v ∧ OwB 5 w' w.heap.size v (bs.take k) ∧ Below w.heap.size w w' := by
  have hl := hr.1
  have C := Lib.hid fun n' hn' => copy_any A n' c B (bs.take k) w hn' (hr.take k)
  go_enter Tryd.func15, Tryd.ntmps15
  go_wp2_with (go_at_call 19; refine (C.out _ ?_).mono ?_; (rw [List.length_take]; omega); rintro e w' ⟨v, rfl, ho, hb⟩)
  all_goals go_ret
  all_goals exact ⟨v, rfl, ho, hb⟩
end Go.Proofs.YtdecpkcdljpnaaaDoor
