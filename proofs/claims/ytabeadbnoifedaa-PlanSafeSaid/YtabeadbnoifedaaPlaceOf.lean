/- Where a sector is, and what stands at a place: Of, Back. -/
import Derived.Test.YtabeadbnoifedaaGeoCap
import Derived.Test.YtabeadbnoifedaaPlaceDisk
set_option linter.unusedVariables false
set_option linter.unusedSimpArgs false
namespace Go.Proofs.Ytabeadbnoifedaa
open Go.RowKit

theorem ibeq_ne {a b : Int} (h : a ≠ b) : (a == b) = false := by simpa using h
end Go.Proofs.Ytabeadbnoifedaa
