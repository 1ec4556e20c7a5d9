/- Texts put together: UpdFound, UpdLog. -/
import Derived.Test.YtenkkdnepmoihaaGreatDoorUdbm
import Derived.Test.YtenkkdnepmoihaaGreatDoorUdbh
import Derived.Test.YtenkkdnepmoihaaGreatDoorUdaz
section
set_option linter.unusedVariables false
set_option linter.unusedSimpArgs false
namespace Go.Proofs.YtenkkdnepmoihaaGreatDoor

end Go.Proofs.YtenkkdnepmoihaaGreatDoor
end
section
set_option maxRecDepth 20000
set_option linter.unusedVariables false
set_option linter.unusedSimpArgs false
namespace Go.Proofs.YtenkkdnepmoihaaGreatDoor
open Go.RowKit

section
variable {W w : World} {b : Nat} {H : BH} {N : Bch} {K : List (Nat × Obj)} {R : List (Option Addr × List (List UInt8))} {S : List (Option Addr × List UInt8)} {I : List (Option Addr × List It)} (h : KU W w b H N K R S I)
include h
theorem ku_get (ht : TabOk W) (lv : List Bool) (LA : Option Addr) (ln lc : Nat) (hln : ln = lv.length) (hlv : RdOX (BF b H N.n) w LA lv) (s : Int) (l : List It) (hgs : getS N lv = (s, l)) :
    Calls Tryz.prog 17 #[.pointer (some ⟨b, 0, none⟩), .slice LA ln lc] w fun e w' => ∃ A c, e = .returned (.tuple #[.agg #[.int .i64 s, .slice A l.length c], .bool (decide (0 < s))]) ∧ l.length ≤ c ∧ KU W w' b H N K R S ((A, l) :: I) ∧ Below w.heap.size w w' := by
  refine (get_any _ b H N w h.ks.bp.at' (ht.below h.ks.bp.bel ht.pos) lv LA ln lc hln hlv.rdo).mono ?_
  rintro e w' ⟨v, rfl, ho, hb⟩
  rw [hgs] at ho ⊢
  obtain ⟨A, c, rfl, hc, _⟩ := ho.rd
  exact ⟨A, c, rfl, hc, h.own hb ho, hb⟩
end
end Go.Proofs.YtenkkdnepmoihaaGreatDoor
end
