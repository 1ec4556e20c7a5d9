/- The example of the document, as each law of synd runs it. -/
import Derived.Test.YtfhbdfhndgfneaaSyndQ
import Derived.Test.YtfhbdfhndgfneaaRows2
namespace Go.Proofs.Ytfhbdfhndgfneaa
open Go.RowKit

theorem wakesSynd_any (w : World) : Calls Try.prog 13 #[] w fun e w' => e = .returned (.bool true) ∧ Below w.heap.size w w' := by
  have Hm := Lib.hid (show pB [[1], [2], [3]] = [0] by decide +kernel)
  go_enter Try.func13, Try.ntmps13
  go_wp2_with fail
  refine (p_any _ [[1], [2], [3]] 3 3 _ rfl (rdr_block3 (hp_new _ _ _ (by simp)) rfl rfl rfl
    (rdb_lit (by rw [hp_old _ _ _ (by simp; omega), hp_old _ _ _ (by simp; omega), hp_old _ _ _ (by simp)]; exact hp_new _ _ _ rfl) (by simp) rfl)
    (rdb_lit (by rw [hp_old _ _ _ (by simp), hp_old _ _ _ (by simp)]; exact hp_new _ _ _ (by simp)) (by simp) rfl)
    (rdb_lit (by rw [hp_old _ _ _ (by simp)]; exact hp_new _ _ _ (by simp)) (by simp) rfl) (Nat.le_refl _))).mono ?_
  rintro e w1 ⟨v, rfl, ho, hb⟩
  have hb1 := (below4 w _ _ _ _).trans (hb.mono (by simp; omega))
  rw [Hm.out] at ho
  obtain ⟨A, c, rfl, _, hr⟩ := ho.rd
  go_wp2_with fail
  refine (same_any _ _ 1 1 c 1 _ [0] [0] _ rfl rfl ((hr.below (below1 w1 _) (Nat.le_refl _)).more (by simp)) (rdb_lit (hp_new _ _ _ rfl) (by simp) rfl)).mono ?_
  rintro e w2 ⟨rfl, m, rfl⟩
  rw [decide_eq_true rfl]
  go_wp2
  go_ret
  exact ⟨rfl, (hb1.alloc hb1.size _).trans (belowN _ _ _)⟩
end Go.Proofs.Ytfhbdfhndgfneaa
