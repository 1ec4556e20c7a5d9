/- What geom.Capacity computes. -/
import Derived.Test.YtabeadbnoifedaaGeo
namespace Go.Proofs.Ytabeadbnoifedaa
open Go.RowKit

theorem capacity_any (l d c : Int) (w : World) (hl : -9223372036854775808 ≤ l ∧ l ≤ 9223372036854775807) (hd : -9223372036854775808 ≤ d ∧ d ≤ 9223372036854775807) (hc : -9223372036854775808 ≤ c ∧ c ≤ 9223372036854775807) :
    Calls Try.prog 24 #[.agg #[.int .i64 l, .int .i64 d, .int .i64 c]] w fun e w' => e = .returned (.int .i64 (gCap l d c)) ∧ Below w.heap.size w w' := by
  have hB := gWid_bd l d c
  have HC : Hid (gCap l d c = gWid l d c * 16) := rfl
  go_enter Try.func24, Try.ntmps24
  go_wp2_with fail
  (with_reducible refine (width_any l d c _ hl hd hc).mono ?_); rintro e w1 ⟨rfl, hb⟩
  have F := (below1 w _).trans (hb.mono (by simp))
  clear hb
  generalize gWid l d c = wd at hB HC
  go_wp2_with fail
  go_ret
  exact ⟨by rw [HC.out]; rfl, F⟩
end Go.Proofs.Ytabeadbnoifedaa
