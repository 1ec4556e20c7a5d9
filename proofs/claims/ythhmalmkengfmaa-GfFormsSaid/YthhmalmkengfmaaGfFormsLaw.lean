/- GfForms walked. -/
import Derived.Test.YthhmalmkengfmaaGfFieldLaw
namespace Go.Proofs.Ythhmalmkengfmaa
open Go.RowKit

def gits : List (Nat × Nat × Nat) := [(2, 2, 4), (128, 2, 29), (29, 2, 58), (3, 3, 5), (255, 255, 226), (7, 1, 7), (0, 99, 0)]
def GItems (w : World) (g : Nat) : Prop := ∀ j, j < 7 → w.cell? ⟨g, j * 3, none⟩ = some (.int .u8 ((gits.getD j (0, 0, 0)).1 : Nat)) ∧ w.cell? ⟨g, j * 3 + 1, none⟩ = some (.int .u8 ((gits.getD j (0, 0, 0)).2.1 : Nat)) ∧ w.cell? ⟨g, j * 3 + 2, none⟩ = some (.int .u8 ((gits.getD j (0, 0, 0)).2.2 : Nat))
theorem gits_ok : ∀ j, j < 7 → (gits.getD j (0, 0, 0)).1 < 256 ∧ (gits.getD j (0, 0, 0)).2.1 < 256 ∧ (gits.getD j (0, 0, 0)).2.2 < 256 ∧ (gits.getD j (0, 0, 0)).2.1 ≠ 0 ∧ gmul (gits.getD j (0, 0, 0)).1 (gits.getD j (0, 0, 0)).2.1 = (gits.getD j (0, 0, 0)).2.2 ∧ gdiv (gits.getD j (0, 0, 0)).2.2 (gits.getD j (0, 0, 0)).2.1 = (gits.getD j (0, 0, 0)).1 := by decide +kernel
theorem GItems.below {w w' : World} {g : Nat} (h : GItems w g) {B : Nat} (hb : Below B w w') (hB : g + 1 ≤ B) : GItems w' g := fun j hj => by
  obtain ⟨h1, h2, h3⟩ := h j hj
  exact ⟨(hb.cell (p := ⟨g, j * 3, none⟩) (by exact hB)).trans h1, (hb.cell (p := ⟨g, j * 3 + 1, none⟩) (by exact hB)).trans h2, (hb.cell (p := ⟨g, j * 3 + 2, none⟩) (by exact hB)).trans h3⟩
theorem gitems_start (w : World) (t : TypeId) : GItems (w.alloc (.cells #[.int .u8 2, .int .u8 2, .int .u8 4, .int .u8 128, .int .u8 2, .int .u8 29, .int .u8 29, .int .u8 2, .int .u8 58, .int .u8 3, .int .u8 3, .int .u8 5, .int .u8 255, .int .u8 255, .int .u8 226, .int .u8 7, .int .u8 1, .int .u8 7, .int .u8 0, .int .u8 99, .int .u8 0] t)) w.heap.size := by
  intro j hj
  have c4 := fun i => cell_of_row _ _ i _ _ _ (heap_alloc_new w (.cells #[.int .u8 2, .int .u8 2, .int .u8 4, .int .u8 128, .int .u8 2, .int .u8 29, .int .u8 29, .int .u8 2, .int .u8 58, .int .u8 3, .int .u8 3, .int .u8 5, .int .u8 255, .int .u8 255, .int .u8 226, .int .u8 7, .int .u8 1, .int .u8 7, .int .u8 0, .int .u8 99, .int .u8 0] t))
  match j, hj with
  | 0, _ => exact ⟨c4 0, c4 1, c4 2⟩
  | 1, _ => exact ⟨c4 3, c4 4, c4 5⟩
  | 2, _ => exact ⟨c4 6, c4 7, c4 8⟩
  | 3, _ => exact ⟨c4 9, c4 10, c4 11⟩
  | 4, _ => exact ⟨c4 12, c4 13, c4 14⟩
  | 5, _ => exact ⟨c4 15, c4 16, c4 17⟩
  | 6, _ => exact ⟨c4 18, c4 19, c4 20⟩
theorem gpow_round (n : Int) : gpow n = gpow (n + 255) := by unfold gpow; exact congrArg gE (by omega)
theorem inv_two_any (w : World) : Calls Try.prog 11 #[.int .u8 2] w fun e w' => e = .returned (.int .u8 142) ∧ w' = w := by
  have := inv_any 2 (by decide) w
  rw [show ginv 2 = 142 from by decide +kernel] at this
  exact this
theorem inv_zero_any (w : World) : Calls Try.prog 11 #[.int .u8 0] w fun e w' => e = .returned (.int .u8 0) ∧ w' = w := by
  have := inv_any 0 (by decide) w
  rw [show ginv 0 = 0 from by decide +kernel] at this
  exact this
theorem inv_one_any (w : World) : Calls Try.prog 11 #[.int .u8 1] w fun e w' => e = .returned (.int .u8 1) ∧ w' = w := by
  have := inv_any 1 (by decide) w
  rw [show ginv 1 = 1 from by decide +kernel] at this
  exact this
theorem log_29_any (w : World) : Calls Try.prog 12 #[.int .u8 29] w fun e w' => e = .returned (.int .i64 8) ∧ w' = w := by
  have := log_any 29 (by decide) w
  rw [show glog 29 = 8 from by decide +kernel] at this
  exact this
theorem log_one_any (w : World) : Calls Try.prog 12 #[.int .u8 1] w fun e w' => e = .returned (.int .i64 0) ∧ w' = w := by
  have := log_any 1 (by decide) w
  rw [show glog 1 = 0 from by decide +kernel] at this
  exact this
theorem log_two_any (w : World) : Calls Try.prog 12 #[.int .u8 2] w fun e w' => e = .returned (.int .i64 1) ∧ w' = w := by
  have := log_any 2 (by decide) w
  rw [show glog 2 = 1 from by decide +kernel] at this
  exact this
set_option maxRecDepth 100000 in
set_option maxHeartbeats 1000000 in
theorem gfforms (n : Int) (w : World) (_ : -9223372036854775808 ≤ n ∧ n ≤ 9223372036854775807) :
    Calls Try.prog 3 #[.int .i64 n] w fun e w' => e = .returned (.bool true) ∧ Below w.heap.size w w' := by
  have n1 : -1000 < n.tmod 1000 := Int.lt_tmod_of_pos _ (by omega)
  have n2 : n.tmod 1000 < 1000 := Int.tmod_lt_of_pos _ (by omega)
  go_enter Try.func3, Try.ntmps3
  go_wp2_with fail
  go_loopw [16] (fun i wr => ∃ k : Nat, k ≤ 7 ∧ i = .int .i64 k ∧ GItems wr w.heap.size ∧ w.heap.size < wr.heap.size ∧ Below w.heap.size w wr) (fun i _ => 7 - (intOf i).toNat)
  case atStart => exact ⟨0, by omega, rfl, gitems_start w _, by simp, below1 _ _⟩
  case round =>
    obtain ⟨k, hk, rfl, hI, hlt0, hB⟩ := hrel
    by_cases hlt : k < 7
    · obtain ⟨h1, h2, h3⟩ := hI k hlt
      obtain ⟨l1, l2, l3, l4, l5, l6⟩ := gits_ok k hlt
      generalize gits.getD k (0, 0, 0) = it at h1 h2 h3 l1 l2 l3 l4 l5 l6
      obtain ⟨a, b, c⟩ := it
      simp only at h1 h2 h3 l1 l2 l3 l4 l5 l6
      have f1 := bne_no l5
      have f2 := bne_no l6
      have f3 : ((b : Int) != 0) = true := by simp; omega
      clear l5 l6 l4
      go_wp2_with fail
      go_name_world wa hwa
      have ca : wa.cell? ⟨wr.heap.size, 0, none⟩ = some (.int .u8 (a : Int)) := by rw [← hwa]; simp [World.cell?_alloc_new]
      have cb : wa.cell? ⟨wr.heap.size, 1, none⟩ = some (.int .u8 (b : Int)) := by rw [← hwa]; simp [World.cell?_alloc_new]
      have cc : wa.cell? ⟨wr.heap.size, 2, none⟩ = some (.int .u8 (c : Int)) := by rw [← hwa]; simp [World.cell?_alloc_new]
      have hab : Below wr.heap.size wr wa := by rw [← hwa]; go_grown
      clear hwa
      go_quiet ((first | (go_at_call 8; exact Calls.quiet_of_same (mul_any a b l1 l2 _)) | (go_at_call 9; exact Calls.quiet_of_same (div_any c b l3 l2 _))))
      have F := hab.trans (belowN wr.heap.size wa nq)
      have hz := hB.size
      go_wp2
      go_roundw
      case rel => exact ⟨k + 1, by omega, by go_num, hI.below F (by omega), Nat.lt_of_lt_of_le hlt0 F.size, hB.trans (F.mono hz)⟩
      case measure => simp [intOf]; omega
    · obtain rfl : k = 7 := by omega
      have g1 : (((gpow 8 : Nat) : Int) == 29) = true := by decide +kernel
      have g2 : (((gpow (-1) : Nat) : Int) == 142) = true := by decide +kernel
      have g3 := beq_yes (gpow_round (n.tmod 1000))
      have g4 : (((gpow (n.tmod 1000) : Nat) : Int) != 0) = true := by have := gpow_ne (n.tmod 1000); simp; omega
      go_wp2_with (first
        | (go_at_call 10; (with_reducible refine (pow_any _ (by omega) _).mono ?_); rintro e w' ⟨rfl, rfl⟩)
        | (go_at_call 11; (with_reducible refine (inv_two_any _).mono ?_); rintro e w' ⟨rfl, rfl⟩)
        | (go_at_call 11; (with_reducible refine (inv_zero_any _).mono ?_); rintro e w' ⟨rfl, rfl⟩)
        | (go_at_call 11; (with_reducible refine (inv_one_any _).mono ?_); rintro e w' ⟨rfl, rfl⟩)
        | (go_at_call 12; (with_reducible refine (log_29_any _).mono ?_); rintro e w' ⟨rfl, rfl⟩)
        | (go_at_call 12; (with_reducible refine (log_one_any _).mono ?_); rintro e w' ⟨rfl, rfl⟩)
        | (go_at_call 12; (with_reducible refine (log_two_any _).mono ?_); rintro e w' ⟨rfl, rfl⟩)
        | (go_at_call 13; (with_reducible refine (wakesGf_any _).mono ?_); rintro e w' ⟨rfl, rfl⟩))
      go_ret
      exact ⟨rfl, hB⟩
end Go.Proofs.Ythhmalmkengfmaa
