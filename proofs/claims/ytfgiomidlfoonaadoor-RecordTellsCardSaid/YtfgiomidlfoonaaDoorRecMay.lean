/- What record's small questions answer: unlikeSector, may, meets. -/
import Derived.Test.YtfgiomidlfoonaaDoorRecBox
set_option linter.unusedVariables false
set_option linter.unusedSimpArgs false
namespace Go.Proofs.YtfgiomidlfoonaaDoor
open Go.RowKit

theorem unlike_any (A : Option Addr) (n c : Nat) (w : World) (r : Bool) (hr : ((n : Int) != 32) = r) :
    Calls Tryd.prog 27 #[.slice A n c] w fun e w' => e = .returned (.bool r) ∧ w' = w := by
  subst hr
  go_enter Tryd.func27, Tryd.ntmps27
  go_wp2
  go_ret
  exact ⟨rfl, rfl⟩
theorem may_any (x : It) (A : Option Addr) (n c : Nat) (w : World) (hn : x.b.length = n) (h : It64 x) :
    Calls Tryd.prog 23 #[.agg #[.int .i64 x.d, .int .i64 x.a, .slice A n c]] w fun e w' => e = .returned (.bool (mayB x)) ∧ Below w.heap.size w w' := by
  have HM := Lib.hid (mayB_iff x)
  obtain ⟨hd, ha⟩ := h
  rw [hn] at HM
  obtain ⟨d, a, b⟩ := x
  dsimp only at *
  have hn' := Lib.hid hn
  clear hn
  generalize mayB ⟨d, a, b⟩ = m at HM
  have B1 := Lib.hid (below1 w (.cells #[.int .i64 d, .int .i64 a, .slice A n c] 29))
  have HY : Hid ((0 ≤ d ∧ d < 8 ∧ 36 ≤ a ∧ a < 52 ∧ n = 32) → m = true) := fun q => HM.out.2 q
  have HN : Hid (¬ (0 ≤ d ∧ d < 8 ∧ 36 ≤ a ∧ a < 52 ∧ n = 32) → m = false) := fun q => by
    rw [← Bool.not_eq_true]; exact fun e => q (HM.out.1 e)
  clear HM
  by_cases h1 : 0 ≤ d
  · by_cases h2 : d < 8
    · by_cases h3 : 36 ≤ a
      · by_cases h4 : a < 52
        · by_cases h5 : n = 32
          · have R := Lib.hid (HY.out ⟨h1, h2, h3, h4, h5⟩)
            have CU := Lib.hid fun W => unlike_any A n c W false (by rw [h5]; rfl)
            clear h5
            go_enter Tryd.func23, Tryd.ntmps23
            go_wp2_with (go_at_call 27; refine (CU.out _).mono ?_; rintro e w' ⟨rfl, rfl⟩)
            go_ret
            exact ⟨by rw [R.out]; rfl, B1.out⟩
          · have R := Lib.hid (HN.out (by omega))
            have CU := Lib.hid fun W => unlike_any A n c W true (by rw [bne_iff_ne]; omega)
            clear h5
            go_enter Tryd.func23, Tryd.ntmps23
            go_wp2_with (go_at_call 27; refine (CU.out _).mono ?_; rintro e w' ⟨rfl, rfl⟩)
            go_ret
            exact ⟨by rw [R.out]; rfl, B1.out⟩
        · have R := Lib.hid (HN.out (by omega))
          go_enter Tryd.func23, Tryd.ntmps23
          go_wp2
          go_ret
          exact ⟨by rw [R.out]; rfl, B1.out⟩
      · have R := Lib.hid (HN.out (by omega))
        go_enter Tryd.func23, Tryd.ntmps23
        go_wp2
        go_ret
        exact ⟨by rw [R.out]; rfl, B1.out⟩
    · have R := Lib.hid (HN.out (by omega))
      go_enter Tryd.func23, Tryd.ntmps23
      go_wp2
      go_ret
      exact ⟨by rw [R.out]; rfl, B1.out⟩
  · have R := Lib.hid (HN.out (by omega))
    go_enter Tryd.func23, Tryd.ntmps23
    go_wp2
    go_ret
    exact ⟨by rw [R.out]; rfl, B1.out⟩
theorem meets_any (x y : It) (A A' : Option Addr) (n c n' c' : Nat) (w : World) :
    Calls Tryd.prog 25 #[.agg #[.int .i64 x.d, .int .i64 x.a, .slice A n c], .agg #[.int .i64 y.d, .int .i64 y.a, .slice A' n' c']] w fun e w' => e = .returned (.bool (meetsB x y)) ∧ Below w.heap.size w w' := by
  have HM := Lib.hid (meetsB_iff x y)
  obtain ⟨d, a, b⟩ := x
  obtain ⟨d', a', b'⟩ := y
  dsimp only at *
  generalize meetsB ⟨d, a, b⟩ ⟨d', a', b'⟩ = m at HM
  have B1 := Lib.hid (below2 w (.cells #[.int .i64 d, .int .i64 a, .slice A n c] 29) (.cells #[.int .i64 d', .int .i64 a', .slice A' n' c'] 29))
  have HN : Hid (¬ (d = d' ∧ a = a') → m = false) := fun q => by
    rw [← Bool.not_eq_true]; exact fun e => q (HM.out.1 e)
  by_cases h1 : d = d'
  · by_cases h2 : a = a'
    · have R := Lib.hid (HM.out.2 ⟨h1, h2⟩)
      have e1 : (d == d') = true := by rw [h1]; exact beq_self_eq_true _
      have e2 : (a == a') = true := by rw [h2]; exact beq_self_eq_true _
      clear h1 h2
      go_enter Tryd.func25, Tryd.ntmps25
      go_wp2
      go_ret
      exact ⟨by rw [R.out]; rfl, B1.out⟩
    · have R := Lib.hid (HN.out (fun q => h2 q.2))
      have e1 : (d == d') = true := by rw [h1]; exact beq_self_eq_true _
      have e2 : (a == a') = false := beq_eq_false_iff_ne.2 h2
      clear h1 h2
      go_enter Tryd.func25, Tryd.ntmps25
      go_wp2
      go_ret
      exact ⟨by rw [R.out]; rfl, B1.out⟩
  · have R := Lib.hid (HN.out (fun q => h1 q.1))
    have e1 : (d == d') = false := beq_eq_false_iff_ne.2 h1
    clear h1
    go_enter Tryd.func25, Tryd.ntmps25
    go_wp2
    go_ret
    exact ⟨by rw [R.out]; rfl, B1.out⟩
end Go.Proofs.YtfgiomidlfoonaaDoor
