/- A number less what is over of five: a multiple of five. Of no program. -/
namespace Go.Proofs.Ytfbfodcjfcnfoaa

theorem sub_mod5 (n : Int) : (n - n.tmod 5).tmod 5 = 0 := by
  have h := Int.mul_tdiv_add_tmod n 5
  have e : n - n.tmod 5 = 5 * n.tdiv 5 := by omega
  rw [e]
  exact Int.mul_tmod_right 5 _
theorem sub_mod5_bd (n : Int) (hn : -9223372036854775808 ≤ n ∧ n ≤ 9223372036854775807) : -9223372036854775808 ≤ n - n.tmod 5 ∧ n - n.tmod 5 ≤ 9223372036854775807 := by
  have h := Int.mul_tdiv_add_tmod n 5
  have h1 : -5 < n.tmod 5 := Int.lt_tmod_of_pos _ (by omega)
  have h2 : n.tmod 5 < 5 := Int.tmod_lt_of_pos _ (by omega)
  rcases Int.lt_or_le n 0 with hneg | hpos
  · have : n.tmod 5 ≤ 0 := by
      have := Int.neg_tmod (-n) 5
      have h3 : 0 ≤ (-n).tmod 5 := Int.tmod_nonneg _ (by omega)
      rw [Int.neg_neg] at this
      omega
    omega
  · have := Int.tmod_nonneg 5 hpos
    omega
end Go.Proofs.Ytfbfodcjfcnfoaa
