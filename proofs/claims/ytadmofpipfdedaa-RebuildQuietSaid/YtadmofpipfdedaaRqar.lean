/- Texts put together: RowRight, RowWakes. -/
import Derived.Test.YtadmofpipfdedaaRqao
import Derived.Test.YtadmofpipfdedaaRqae
import Derived.Test.YtadmofpipfdedaaRqak
import Derived.Test.YtadmofpipfdedaaRqan
import Derived.Test.YtadmofpipfdedaaRqai
import Derived.Test.YtadmofpipfdedaaRqag
section
set_option maxRecDepth 8000
set_option linter.unusedVariables false
set_option linter.unusedSimpArgs false
namespace Go.Proofs.Ytadmofpipfdedaa
open Go.RowKit

theorem solveB_8 {N : Nat} {p q : List UInt8} {rs L : List (List UInt8)} (h : solveB N p q rs = some L) : L.length ≤ 8 := by
  unfold solveB at h
  split at h
  · next hc =>
    injection h with h
    simp only [Bool.and_eq_true] at hc
    have h8 : rs.length ≤ 8 := by
      have := hc.2
      unfold canB at this
      simp only [Bool.and_eq_true, decide_eq_true_eq] at this
      exact this.2.2
    have hf : (filledB N rs).length = rs.length := filledB_len _ _
    rw [← h]
    generalize missB rs = ms
    rcases ms with _ | ⟨i, _ | ⟨j, ms⟩⟩ <;> simp only [toldB, List.length_set] <;> omega
  · cases h
end Go.Proofs.Ytadmofpipfdedaa
end
section
set_option maxRecDepth 8000
set_option linter.unusedVariables false
set_option linter.unusedSimpArgs false
namespace Go.Proofs.Ytadmofpipfdedaa
open Go.RowKit

theorem sameT_any {A A' : Option Addr} {n n' c c' : Nat} {bs : List UInt8} {w : World} (hn : n = bs.length) (hn' : n' = bs.length) (hr : RdB w w.heap.size A bs) (hr' : RdB w w.heap.size A' bs) :
    Calls Try.prog 23 #[.slice A n c, .slice A' n' c'] w fun e w' => e = .returned (.bool true) ∧ ∃ m, w' = w.drewN m :=
  (same_any A A' n n' c c' _ bs bs w hn hn' hr hr').mono fun _ _ ⟨he, hw⟩ => ⟨by rw [he, decide_eq_true rfl], hw⟩
end Go.Proofs.Ytadmofpipfdedaa
end
