/- Copy: what that help computes. -/
import Derived.Test.YtdecpkcdljpnaaaDoorKeep
namespace Go.Proofs.YtdecpkcdljpnaaaDoor
open Go.RowKit

theorem copy_any (A : Option Addr) (n c B : Nat) (bs : List UInt8) (w : World) (hn : n = bs.length) (hr : RdB w B A bs) :
    Calls Tryd.prog 19 #[.slice A n c] w fun e w' => ∃ v, e = .returned v ∧ OwB 5 w' w.heap.size v bs ∧ Below w.heap.size w w' := by
  have hl := hr.1
  go_enter Tryd.func19, Tryd.ntmps19
  go_wp2_with (at_builtin; refine wpList_append_B _ rfl _ _ _ rfl w.heap.size 5 Tryd.underlying26 info_u8 (.slice none 0 0) [] rfl (OwB.nil _ _ _) B A n c bs rfl hn hr (by simpa using hl) (Nat.le_refl _) ?_; intro v' w' hown hg hat)
  go_ret
  exact ⟨v', rfl, by simpa using hown, (Below.refl _ _).grown hg (Nat.le_refl _) (by simp [Value.ownBlock])⟩
end Go.Proofs.YtdecpkcdljpnaaaDoor
