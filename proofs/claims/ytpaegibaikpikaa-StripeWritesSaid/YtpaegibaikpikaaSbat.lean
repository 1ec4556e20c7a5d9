/- Texts put together: RowRight, RowWakes. -/
import Derived.Test.YtpaegibaikpikaaSbaq
import Derived.Test.YtpaegibaikpikaaSbag
import Derived.Test.YtpaegibaikpikaaSbam
import Derived.Test.YtpaegibaikpikaaSbap
import Derived.Test.YtpaegibaikpikaaSbah
import Derived.Test.YtpaegibaikpikaaSbaf
section
set_option maxRecDepth 8000
set_option linter.unusedVariables false
set_option linter.unusedSimpArgs false
namespace Go.Proofs.Ytpaegibaikpikaa
open Go.RowKit

theorem solveB_8 {N : Nat} {p q : List UInt8} {rs L : List (List UInt8)} (h : solveB N p q rs = some L) : L.length ≤ 8 := by
  unfold solveB at h
  split at h
  · next hc =>
    injection h with h
    simp only [Bool.and_eq_true] at hc
    have h8 : rs.length ≤ 8 := by
      have := hc.2
      unfold canB at this
      simp only [Bool.and_eq_true, decide_eq_true_eq] at this
      exact this.2.2
    have hf : (filledB N rs).length = rs.length := filledB_len _ _
    rw [← h]
    generalize missB rs = ms
    rcases ms with _ | ⟨i, _ | ⟨j, ms⟩⟩ <;> simp only [toldB, List.length_set] <;> omega
  · cases h
theorem roTake_8 {l d c r : Int} {xs L : List (List UInt8)} (h : roTake l d c r xs = some L) : L.length ≤ 8 := by
  unfold roTake at h
  split at h
  · exact solveB_8 h
  · cases h
theorem roFill_8 {l d c r : Int} {rs L : List (List UInt8)} (h : roFill l d c r rs = some L) : L.length ≤ 8 := by
  unfold roFill at h
  split at h
  · next hk =>
    injection h with h
    rw [← h, fillL_len]
    exact (ro_of (fillOk_yes hk).1).d8
  · cases h
end Go.Proofs.Ytpaegibaikpikaa
end
section
set_option maxRecDepth 8000
set_option linter.unusedVariables false
set_option linter.unusedSimpArgs false
namespace Go.Proofs.Ytpaegibaikpikaa
open Go.RowKit

theorem refp_gives {A : Option Addr} {rs : List (List UInt8)} {n cp : Nat} {w : World} {p : List UInt8} (hr : RdR w w.heap.size A rs) (hn : rs.length = n) (hp : pB rs = p) : Calls Try.prog 58 #[.slice A n cp] w (Gives w p) :=
  (refP_any A rs n cp w hn hr).mono fun _ _ h => gives_of hp h
theorem sameT_any {A A' : Option Addr} {n n' c c' : Nat} {bs : List UInt8} {w : World} (hn : n = bs.length) (hn' : n' = bs.length) (hr : RdB w w.heap.size A bs) (hr' : RdB w w.heap.size A' bs) :
    Calls Try.prog 31 #[.slice A n c, .slice A' n' c'] w fun e w' => e = .returned (.bool true) ∧ ∃ m, w' = w.drewN m :=
  (same_any A A' n n' c c' _ bs bs w hn hn' hr hr').mono fun _ _ ⟨he, hw⟩ => ⟨by rw [he, decide_eq_true rfl], hw⟩
theorem ok5310 : plOk 5 3 1 0 = true := by decide
theorem fill_ex (a b : List UInt8) : fillL (roD 3) (roF 5 3 1 0) [a, b] = [a, b, pB [a, b]] := rfl
end Go.Proofs.Ytpaegibaikpikaa
end
