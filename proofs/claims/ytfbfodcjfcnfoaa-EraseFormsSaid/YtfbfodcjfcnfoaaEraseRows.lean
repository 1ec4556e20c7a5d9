/- The rows of EraseForms by plain mathematics. No program here. -/
import Derived.Test.YtfbfodcjfcnfoaaEraseBack
import Derived.Test.YtfbfodcjfcnfoaaU8All
namespace Go.Proofs.Ytfbfodcjfcnfoaa

theorem f_p (n : UInt8) : pB [[1, n], [3, 9]] = [2, n ^^^ 9] := of_decide_eq_true (u8_every (fun n => decide (pB [[1, n], [3, 9]] = [2, n ^^^ 9])) (by decide +kernel) n)
theorem f_q (n : UInt8) : qB [[1, n], [3, 9]] = [7, n ^^^ 18] := of_decide_eq_true (u8_every (fun n => decide (qB [[1, n], [3, 9]] = [7, n ^^^ 18])) (by decide +kernel) n)
theorem f_back (n : UInt8) (p q x y : List UInt8) (hp : p = [] ∨ p = [2, n ^^^ 9]) (hq : q = [] ∨ q = [7, n ^^^ 18]) (hx : x = [] ∨ x = [1, n]) (hy : y = [] ∨ y = [3, 9]) (hm : (missB [x, y]).length ≤ 2 - (missB [p, q]).length) : solveB 2 p q [x, y] = some [[1, n], [3, 9]] := by
  refine solveB_back (N := 2) (fs := [[1, n], [3, 9]]) (rs := [x, y]) (p := p) (q := q) ⟨by decide, fun r hr => ?_, rfl, fun k hk => ?_⟩ (by simp) (by simp) ?_ ?_ hm
  · simp at hr
    rcases hr with rfl | rfl <;> rfl
  · match k, hk with
    | 0, _ => rcases hx with rfl | rfl; exact .inl rfl; exact .inr rfl
    | 1, _ => rcases hy with rfl | rfl; exact .inl rfl; exact .inr rfl
  · rcases hp with rfl | rfl
    · exact .inl rfl
    · exact .inr (f_p n).symm
  · rcases hq with rfl | rfl
    · exact .inl rfl
    · exact .inr (f_q n).symm
section
variable (n : UInt8)
theorem f0 : solveB 2 [2, n ^^^ 9] [7, n ^^^ 18] [[1, n], [3, 9]] = some [[1, n], [3, 9]] := f_back n _ _ _ _ (.inr rfl) (.inr rfl) (.inr rfl) (.inr rfl) (Nat.le_of_ble_eq_true rfl)
theorem f1 : solveB 2 [2, n ^^^ 9] [7, n ^^^ 18] [[1, n], []] = some [[1, n], [3, 9]] := f_back n _ _ _ _ (.inr rfl) (.inr rfl) (.inr rfl) (.inl rfl) (Nat.le_of_ble_eq_true rfl)
theorem f2 : solveB 2 [2, n ^^^ 9] [7, n ^^^ 18] [[], [3, 9]] = some [[1, n], [3, 9]] := f_back n _ _ _ _ (.inr rfl) (.inr rfl) (.inl rfl) (.inr rfl) (Nat.le_of_ble_eq_true rfl)
theorem f3 : solveB 2 [2, n ^^^ 9] [7, n ^^^ 18] [[], []] = some [[1, n], [3, 9]] := f_back n _ _ _ _ (.inr rfl) (.inr rfl) (.inl rfl) (.inl rfl) (Nat.le_of_ble_eq_true rfl)
theorem f4 : solveB 2 [2, n ^^^ 9] [] [[1, n], []] = some [[1, n], [3, 9]] := f_back n _ _ _ _ (.inr rfl) (.inl rfl) (.inr rfl) (.inl rfl) (Nat.le_of_ble_eq_true rfl)
theorem f5 : solveB 2 [2, n ^^^ 9] [] [[], [3, 9]] = some [[1, n], [3, 9]] := f_back n _ _ _ _ (.inr rfl) (.inl rfl) (.inl rfl) (.inr rfl) (Nat.le_of_ble_eq_true rfl)
theorem f6 : solveB 2 [] [7, n ^^^ 18] [[1, n], []] = some [[1, n], [3, 9]] := f_back n _ _ _ _ (.inl rfl) (.inr rfl) (.inr rfl) (.inl rfl) (Nat.le_of_ble_eq_true rfl)
theorem f7 : solveB 2 [] [7, n ^^^ 18] [[], [3, 9]] = some [[1, n], [3, 9]] := f_back n _ _ _ _ (.inl rfl) (.inr rfl) (.inl rfl) (.inr rfl) (Nat.le_of_ble_eq_true rfl)
theorem f8 : solveB 2 [] [] [[1, n], [3, 9]] = some [[1, n], [3, 9]] := f_back n _ _ _ _ (.inl rfl) (.inl rfl) (.inr rfl) (.inr rfl) (Nat.le_of_ble_eq_true rfl)
theorem f9 : solveB 2 [2, n ^^^ 9] [] [[1, n], [3, 9]] = some [[1, n], [3, 9]] := f_back n _ _ _ _ (.inr rfl) (.inl rfl) (.inr rfl) (.inr rfl) (Nat.le_of_ble_eq_true rfl)
theorem n0 : solveB 2 [] [] [[1, n], []] = none := rfl
theorem n1 : solveB 2 [2, n ^^^ 9] [] [[], []] = none := rfl
theorem n2 : solveB 2 [] [7, n ^^^ 18] [[], []] = none := rfl
theorem n3 : solveB 2 [] [] [[], []] = none := rfl
theorem n4 : solveB 2 [2, n ^^^ 9] [7, n ^^^ 18] [[1, n], [3]] = none := rfl
theorem n5 : solveB 2 [2] [7, n ^^^ 18] [[1, n], [3, 9]] = none := rfl
theorem n6 : solveB 2 [2, n ^^^ 9] [7, n ^^^ 18, 1] [[1, n], [3, 9]] = none := rfl
theorem n7 : solveB 2 [2, n ^^^ 9] [7, n ^^^ 18] [] = none := rfl
theorem n8 : solveB 0 [] [] [[]] = none := rfl
theorem n9 : solveB 2 [2, n ^^^ 9] [7, n ^^^ 18] [[1, n], [1, n], [1, n], [1, n], [1, n], [1, n], [1, n], [1, n], [1, n]] = none := rfl
theorem n10 : missB [[1, n], [], [3, 9], []] = [1, 3] := rfl
end
end Go.Proofs.Ytfbfodcjfcnfoaa
