/- Within: any number as one below another. -/
import Derived.Test.YtabeadbnoifedaaProg
import Derived.Test.YtabeadbnoifedaaMem
namespace Go.Proofs.Ytabeadbnoifedaa
open Go.RowKit

def withinI (v n : Int) : Int := if n < 1 then 0 else v % n
theorem withinI_bd (v n : Int) (hn : 1 ≤ n) : 0 ≤ withinI v n ∧ withinI v n < n := by
  unfold withinI
  rw [if_neg (by omega)]
  exact ⟨Int.emod_nonneg _ (by omega), Int.emod_lt_of_pos _ (by omega)⟩
theorem tmod_within (v n : Int) (hn : 1 ≤ n) : withinI v n = if v.tmod n < 0 then v.tmod n + n else v.tmod n := by
  have h0 := Int.emod_nonneg v (show n ≠ 0 by omega)
  have h1 := Int.emod_lt_of_pos v (show 0 < n by omega)
  unfold withinI
  rw [if_neg (by omega), Int.tmod_eq_emod]
  split <;> split <;> omega
theorem within_any (v n : Int) (w : World) (hv : -9223372036854775808 ≤ v ∧ v ≤ 9223372036854775807) (hn : 1 ≤ n ∧ n ≤ 140737488355329) :
    Calls Try.prog 25 #[.int .i64 v, .int .i64 n] w fun e w' => e = .returned (.int .i64 (withinI v n)) ∧ w' = w := by
  obtain ⟨h1, h2⟩ := hn
  obtain ⟨h3, h4⟩ := hv
  have Ht := Lib.hid (tmod_within v n h1)
  have hlo : -n < v.tmod n := Int.lt_tmod_of_pos _ (by omega)
  have hhi : v.tmod n < n := Int.tmod_lt_of_pos _ (by omega)
  by_cases hneg : v.tmod n < 0
  · go_enter Try.func25, Try.ntmps25
    go_wp2
    go_ret
    exact ⟨by rw [Ht.out, if_pos hneg]; rfl, rfl⟩
  · go_enter Try.func25, Try.ntmps25
    go_wp2
    go_ret
    exact ⟨by rw [Ht.out, if_neg (by omega)]; rfl, rfl⟩
theorem within_all (v n : Int) (w : World) (hv : -9223372036854775808 ≤ v ∧ v ≤ 9223372036854775807) (hn : -9223372036854775808 ≤ n ∧ n ≤ 9223372036854775807) :
    Calls Try.prog 25 #[.int .i64 v, .int .i64 n] w fun e w' => e = .returned (.int .i64 (withinI v n)) ∧ w' = w := by
  obtain ⟨h3, h4⟩ := hv
  obtain ⟨h5, h2⟩ := hn
  by_cases h1 : 1 ≤ n
  · have Ht := Lib.hid (tmod_within v n h1)
    have hlo : -n < v.tmod n := Int.lt_tmod_of_pos _ (by omega)
    have hhi : v.tmod n < n := Int.tmod_lt_of_pos _ (by omega)
    by_cases hneg : v.tmod n < 0
    · go_enter Try.func25, Try.ntmps25
      go_wp2
      go_ret
      exact ⟨by rw [Ht.out, if_pos hneg]; rfl, rfl⟩
    · go_enter Try.func25, Try.ntmps25
      go_wp2
      go_ret
      exact ⟨by rw [Ht.out, if_neg (by omega)]; rfl, rfl⟩
  · have h1' : n < 1 := by omega
    have Ht := Lib.hid (show withinI v n = 0 by unfold withinI; rw [if_pos h1'])
    clear h1
    go_enter Try.func25, Try.ntmps25
    go_wp2
    go_ret
    exact ⟨by rw [Ht.out]; rfl, rfl⟩
end Go.Proofs.Ytabeadbnoifedaa
