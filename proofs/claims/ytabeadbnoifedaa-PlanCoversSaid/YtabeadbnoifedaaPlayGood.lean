/- The statements' good geometry of a number. -/
import Derived.Test.YtabeadbnoifedaaPlayGeo
set_option linter.unusedVariables false
set_option linter.unusedSimpArgs false
namespace Go.Proofs.Ytabeadbnoifedaa
open Go.RowKit

def pgO (n : Int) : Bool := gOk (pgL n) (pgD n) (pgC n)
def goL (n : Int) : Int := if pgO n = true then pgL n else 5
def goD (n : Int) : Int := if pgO n = true then pgD n else 3
def goC (n : Int) : Int := if pgO n = true then pgC n else 1
theorem go_ok (n : Int) : gOk (goL n) (goD n) (goC n) = true := by
  unfold goL goD goC
  cases h : pgO n
  · rfl
  · simp; exact h
theorem below_cells {W w1 : World} (hb : Below W.heap.size W w1) : (∀ b o, b < W.heap.size → w1.cell? ⟨b, o, none⟩ = W.cell? ⟨b, o, none⟩) ∧ (∀ b o, b < W.heap.size → w1.frozen? ⟨b, o, none⟩ = W.frozen? ⟨b, o, none⟩) :=
  ⟨fun b o h => hb.cell (p := ⟨b, o, none⟩) h, fun b o h => hb.frozen (p := ⟨b, o, none⟩) h⟩
end Go.Proofs.Ytabeadbnoifedaa
