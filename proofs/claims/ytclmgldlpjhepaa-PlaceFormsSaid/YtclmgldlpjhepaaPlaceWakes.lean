/- The chapter's example. -/
import Derived.Test.YtclmgldlpjhepaaPlaceOf
set_option linter.unusedVariables false
set_option linter.unusedSimpArgs false
namespace Go.Proofs.Ytclmgldlpjhepaa
open Go.RowKit

theorem wakesPlace_any (w : World) : Calls Try.prog 15 #[] w fun e w' => e = .returned (.bool true) ∧ Below w.heap.size w w' := by
  have HC := Lib.hid (fun W => of_any 5 3 1 0 W (by omega) (by omega) (by omega) (by omega))
  have h1 : plOfD 5 3 1 0 = 0 := by decide
  have h2 : plOfR 5 3 1 0 = 0 := by decide
  have h3 : plOfOk 5 3 1 0 = true := by decide
  rw [h1, h2, h3] at HC
  clear h1 h2 h3
  go_enter Try.func15, Try.ntmps15
  go_wp2_with fail
  (with_reducible refine (HC.out _).mono ?_); rintro e w1 ⟨rfl, hb⟩
  go_wp2_with fail
  go_ret
  exact ⟨rfl, hb⟩
end Go.Proofs.Ytclmgldlpjhepaa
