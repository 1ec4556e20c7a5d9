/- The example of the document, as each law of erase runs it. -/
import Derived.Test.YtfbfodcjfcnfoaaSolve
namespace Go.Proofs.Ytfbfodcjfcnfoaa
open Go.RowKit

set_option maxHeartbeats 400000 in
theorem wakesErase_any (w : World) : Calls Try.prog 10 #[] w fun e w' => e = .returned (.bool true) ∧ Below w.heap.size w w' := by
  have Hm := Lib.hid (show solveB 1 [3] [] [[1], []] = some [[1], [2]] by decide +kernel)
  go_enter Try.func10, Try.ntmps10
  go_wp2_with fail
  have B3 := below3 w (.cells #[.int .u8 3] 5) (.cells #[.int .u8 1] 5) (.cells #[.slice (some ⟨w.heap.size + 1, 0, none⟩) 1 1, .slice none 0 0] 22)
  have hs3 := B3.size
  refine (solve_any _ none _ [3] [] [[1], []] 1 1 0 0 2 2 1 _ rfl rfl rfl (by decide) (rdb_lit (by rw [hp_old _ _ _ (by simp; omega), hp_old _ _ _ (by simp)]; exact hp_new _ _ _ rfl) (by simp) rfl) (RdB.nil _ _ _)
    (rdr_block2 (hp_new _ _ _ (by simp)) rfl rfl (rdb_lit (by rw [hp_old _ _ _ (by simp)]; exact hp_new _ _ _ (by simp)) (by simp) rfl) (RdB.nil _ _ _) (Nat.le_refl _))).mono ?_
  rw [Hm.out]
  rintro e w4 ⟨g, c, rfl, ho, hb⟩
  have B4 := B3.trans (hb.mono hs3)
  obtain ⟨A, d, h1, h2, _⟩ := ho.cell 1 (by decide)
  have hg := ho.lt
  go_wp2_with fail
  refine (same_any A _ 1 1 d 1 _ [2] [2] _ rfl rfl ((h2.rdb.below (below1 w4 _) (Nat.le_refl _)).more (by simp)) (rdb_lit (hp_new _ _ _ rfl) (by simp) rfl)).mono ?_
  rintro e w5 ⟨rfl, m, rfl⟩
  rw [decide_eq_true rfl]
  go_wp2
  go_ret
  exact ⟨rfl, (B4.alloc B4.size _).trans (belowN _ _ _)⟩
end Go.Proofs.Ytfbfodcjfcnfoaa
