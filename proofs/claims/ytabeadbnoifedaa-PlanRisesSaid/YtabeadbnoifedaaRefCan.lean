/- The document's own answer of which geometry may become which. -/
import Derived.Test.YtabeadbnoifedaaRefGeo
import Derived.Test.YtabeadbnoifedaaOrdSkip
set_option linter.unusedVariables false
set_option linter.unusedSimpArgs false
namespace Go.Proofs.Ytabeadbnoifedaa
open Go.RowKit

set_option maxRecDepth 100000 in
set_option maxHeartbeats 1000000 in
theorem refCan_a (l d c l' d' c' : Int) (w : World) (HC : (Hid (∀ W, Calls Try.prog 30 #[.agg #[.int .i64 l, .int .i64 d, .int .i64 c]] W fun e w' => e = .returned (.bool false) ∧ Below W.heap.size W w'))) :
    Calls Try.prog 26 #[.agg #[.int .i64 l, .int .i64 d, .int .i64 c], .agg #[.int .i64 l', .int .i64 d', .int .i64 c']] w fun e w' => e = .returned (.bool false) ∧ Below w.heap.size w w' := by
  have S0 := gs2_start w l d c l' d' c' 23 23 (0, 0) (0, 0)
  go_enter Try.func26, Try.ntmps26
  go_wp2_with fail
  go_name_world wz hwz
  rw [hwz] at S0
  clear hwz
  refine wp_region_noPanic (region_ord 33 [] (fun V => GS2 w w.heap.size w.heap.size (w.heap.size + 1) l d c l' d' c' V) (by kernel_rfl) (by kernel_rfl) (fun _ _ _ _ _ h => h) fun R => ?_)
  change anyI _ _ _ _ _ _ 33 _ _ wz.drew
  have HS0 := Lib.hid (show (fun V => GS2 w w.heap.size w.heap.size (w.heap.size + 1) l d c l' d' c' V) wz.drew from GS2.drew S0)
  refine' anyI_take R 0 rfl (v := ?_) (by kernel_rfl) (by rfl) (fun V hV => ?hy) HS0.out ?_
  case hy => ((try dsimp only at hV);  obtain ⟨q1, q2, q3, q4, q5, q6, _⟩ := hV; go_simp; try with_reducible rfl)
  try simp only [Act.put, List.getElem_toArray, List.getElem_cons_succ, List.getElem_cons_zero, List.setIfInBounds_toArray, List.set_cons_zero, List.set_cons_succ]
  refine anyI_one 1 (by kernel_rfl) rfl ?_
  try simp only [List.getElem_toArray, List.getElem_cons_succ, List.getElem_cons_zero]
  refine opE_step ?_
  rw [if_pos (by rfl)]
  go_simp
  go_at_call 30
  refine (HC.out _).mono ?_
  rintro e w1 ⟨rfl, hb⟩
  replace HS0 := Lib.hid (GS2.later HS0.out hb)
  clear hb
  dsimp only
  refine ⟨HS0.out, ?_⟩
  try simp only [Act.put, List.getElem_toArray, List.getElem_cons_succ, List.getElem_cons_zero, List.setIfInBounds_toArray, List.set_cons_zero, List.set_cons_succ]
  refine' anyI_take R 2 rfl (v := ?_) (by kernel_rfl) (by rfl) (fun V hV => ?hy) HS0.out ?_
  case hy => ((try dsimp only at hV);  obtain ⟨q1, q2, q3, q4, q5, q6, _⟩ := hV; go_simp; try with_reducible rfl)
  try simp only [Act.put, List.getElem_toArray, List.getElem_cons_succ, List.getElem_cons_zero, List.setIfInBounds_toArray, List.set_cons_zero, List.set_cons_succ]
  refine anyI_skip R 3 rfl (by kernel_rfl) (by rfl) HS0.out ?_
  try simp only [Act.put, List.getElem_toArray, List.getElem_cons_succ, List.getElem_cons_zero, List.setIfInBounds_toArray, List.set_cons_zero, List.set_cons_succ]
  refine anyI_skip R 4 rfl (by kernel_rfl) (by rfl) HS0.out ?_
  try simp only [Act.put, List.getElem_toArray, List.getElem_cons_succ, List.getElem_cons_zero, List.setIfInBounds_toArray, List.set_cons_zero, List.set_cons_succ]
  refine' anyI_take R 5 rfl (v := ?_) (by kernel_rfl) (by rfl) (fun V hV => ?hy) HS0.out ?_
  case hy => ((try dsimp only at hV);  obtain ⟨q1, q2, q3, q4, q5, q6, _⟩ := hV; go_simp; try with_reducible rfl)
  try simp only [Act.put, List.getElem_toArray, List.getElem_cons_succ, List.getElem_cons_zero, List.setIfInBounds_toArray, List.set_cons_zero, List.set_cons_succ]
  refine' anyI_take R 6 rfl (v := ?_) (by kernel_rfl) (by rfl) (fun V hV => ?hy) HS0.out ?_
  case hy => ((try dsimp only at hV);  obtain ⟨q1, q2, q3, q4, q5, q6, _⟩ := hV; go_simp; try with_reducible rfl)
  try simp only [Act.put, List.getElem_toArray, List.getElem_cons_succ, List.getElem_cons_zero, List.setIfInBounds_toArray, List.set_cons_zero, List.set_cons_succ]
  refine anyI_skip R 7 rfl (by kernel_rfl) (by rfl) HS0.out ?_
  try simp only [Act.put, List.getElem_toArray, List.getElem_cons_succ, List.getElem_cons_zero, List.setIfInBounds_toArray, List.set_cons_zero, List.set_cons_succ]
  refine anyI_skip R 8 rfl (by kernel_rfl) (by rfl) HS0.out ?_
  try simp only [Act.put, List.getElem_toArray, List.getElem_cons_succ, List.getElem_cons_zero, List.setIfInBounds_toArray, List.set_cons_zero, List.set_cons_succ]
  refine anyI_skip R 9 rfl (by kernel_rfl) (by rfl) HS0.out ?_
  try simp only [Act.put, List.getElem_toArray, List.getElem_cons_succ, List.getElem_cons_zero, List.setIfInBounds_toArray, List.set_cons_zero, List.set_cons_succ]
  refine' anyI_take R 10 rfl (v := ?_) (by kernel_rfl) (by rfl) (fun V hV => ?hy) HS0.out ?_
  case hy => ((try dsimp only at hV);  obtain ⟨q1, q2, q3, q4, q5, q6, _⟩ := hV; go_simp; try with_reducible rfl)
  try simp only [Act.put, List.getElem_toArray, List.getElem_cons_succ, List.getElem_cons_zero, List.setIfInBounds_toArray, List.set_cons_zero, List.set_cons_succ]
  refine' anyI_take R 11 rfl (v := ?_) (by kernel_rfl) (by rfl) (fun V hV => ?hy) HS0.out ?_
  case hy => ((try dsimp only at hV);  obtain ⟨q1, q2, q3, q4, q5, q6, _⟩ := hV; go_simp; try with_reducible rfl)
  try simp only [Act.put, List.getElem_toArray, List.getElem_cons_succ, List.getElem_cons_zero, List.setIfInBounds_toArray, List.set_cons_zero, List.set_cons_succ]
  refine anyI_skip R 12 rfl (by kernel_rfl) (by rfl) HS0.out ?_
  try simp only [Act.put, List.getElem_toArray, List.getElem_cons_succ, List.getElem_cons_zero, List.setIfInBounds_toArray, List.set_cons_zero, List.set_cons_succ]
  refine anyI_skip R 13 rfl (by kernel_rfl) (by rfl) HS0.out ?_
  try simp only [Act.put, List.getElem_toArray, List.getElem_cons_succ, List.getElem_cons_zero, List.setIfInBounds_toArray, List.set_cons_zero, List.set_cons_succ]
  refine anyI_skip R 14 rfl (by kernel_rfl) (by rfl) HS0.out ?_
  try simp only [Act.put, List.getElem_toArray, List.getElem_cons_succ, List.getElem_cons_zero, List.setIfInBounds_toArray, List.set_cons_zero, List.set_cons_succ]
  refine anyI_skip R 15 rfl (by kernel_rfl) (by rfl) HS0.out ?_
  try simp only [Act.put, List.getElem_toArray, List.getElem_cons_succ, List.getElem_cons_zero, List.setIfInBounds_toArray, List.set_cons_zero, List.set_cons_succ]
  refine anyI_skip R 16 rfl (by kernel_rfl) (by rfl) HS0.out ?_
  try simp only [Act.put, List.getElem_toArray, List.getElem_cons_succ, List.getElem_cons_zero, List.setIfInBounds_toArray, List.set_cons_zero, List.set_cons_succ]
  refine' anyI_take R 17 rfl (v := ?_) (by kernel_rfl) (by rfl) (fun V hV => ?hy) HS0.out ?_
  case hy => ((try dsimp only at hV);  obtain ⟨q1, q2, q3, q4, q5, q6, _⟩ := hV; go_simp; try with_reducible rfl)
  try simp only [Act.put, List.getElem_toArray, List.getElem_cons_succ, List.getElem_cons_zero, List.setIfInBounds_toArray, List.set_cons_zero, List.set_cons_succ]
  refine' anyI_take R 18 rfl (v := ?_) (by kernel_rfl) (by rfl) (fun V hV => ?hy) HS0.out ?_
  case hy => ((try dsimp only at hV);  obtain ⟨q1, q2, q3, q4, q5, q6, _⟩ := hV; go_simp; try with_reducible rfl)
  try simp only [Act.put, List.getElem_toArray, List.getElem_cons_succ, List.getElem_cons_zero, List.setIfInBounds_toArray, List.set_cons_zero, List.set_cons_succ]
  refine anyI_skip R 19 rfl (by kernel_rfl) (by rfl) HS0.out ?_
  try simp only [Act.put, List.getElem_toArray, List.getElem_cons_succ, List.getElem_cons_zero, List.setIfInBounds_toArray, List.set_cons_zero, List.set_cons_succ]
  refine anyI_skip R 20 rfl (by kernel_rfl) (by rfl) HS0.out ?_
  try simp only [Act.put, List.getElem_toArray, List.getElem_cons_succ, List.getElem_cons_zero, List.setIfInBounds_toArray, List.set_cons_zero, List.set_cons_succ]
  refine anyI_skip R 21 rfl (by kernel_rfl) (by rfl) HS0.out ?_
  try simp only [Act.put, List.getElem_toArray, List.getElem_cons_succ, List.getElem_cons_zero, List.setIfInBounds_toArray, List.set_cons_zero, List.set_cons_succ]
  refine anyI_skip R 22 rfl (by kernel_rfl) (by rfl) HS0.out ?_
  try simp only [Act.put, List.getElem_toArray, List.getElem_cons_succ, List.getElem_cons_zero, List.setIfInBounds_toArray, List.set_cons_zero, List.set_cons_succ]
  refine anyI_skip R 23 rfl (by kernel_rfl) (by rfl) HS0.out ?_
  try simp only [Act.put, List.getElem_toArray, List.getElem_cons_succ, List.getElem_cons_zero, List.setIfInBounds_toArray, List.set_cons_zero, List.set_cons_succ]
  refine' anyI_take R 24 rfl (v := ?_) (by kernel_rfl) (by rfl) (fun V hV => ?hy) HS0.out ?_
  case hy => ((try dsimp only at hV);  obtain ⟨q1, q2, q3, q4, q5, q6, _⟩ := hV; go_simp; try with_reducible rfl)
  try simp only [Act.put, List.getElem_toArray, List.getElem_cons_succ, List.getElem_cons_zero, List.setIfInBounds_toArray, List.set_cons_zero, List.set_cons_succ]
  refine' anyI_take R 25 rfl (v := ?_) (by kernel_rfl) (by rfl) (fun V hV => ?hy) HS0.out ?_
  case hy => ((try dsimp only at hV);  obtain ⟨q1, q2, q3, q4, q5, q6, _⟩ := hV; go_simp; try with_reducible rfl)
  try simp only [Act.put, List.getElem_toArray, List.getElem_cons_succ, List.getElem_cons_zero, List.setIfInBounds_toArray, List.set_cons_zero, List.set_cons_succ]
  refine anyI_skip R 26 rfl (by kernel_rfl) (by rfl) HS0.out ?_
  try simp only [Act.put, List.getElem_toArray, List.getElem_cons_succ, List.getElem_cons_zero, List.setIfInBounds_toArray, List.set_cons_zero, List.set_cons_succ]
  refine anyI_skip R 27 rfl (by kernel_rfl) (by rfl) HS0.out ?_
  try simp only [Act.put, List.getElem_toArray, List.getElem_cons_succ, List.getElem_cons_zero, List.setIfInBounds_toArray, List.set_cons_zero, List.set_cons_succ]
  refine anyI_skip R 28 rfl (by kernel_rfl) (by rfl) HS0.out ?_
  try simp only [Act.put, List.getElem_toArray, List.getElem_cons_succ, List.getElem_cons_zero, List.setIfInBounds_toArray, List.set_cons_zero, List.set_cons_succ]
  refine anyI_skip R 29 rfl (by kernel_rfl) (by rfl) HS0.out ?_
  try simp only [Act.put, List.getElem_toArray, List.getElem_cons_succ, List.getElem_cons_zero, List.setIfInBounds_toArray, List.set_cons_zero, List.set_cons_succ]
  refine anyI_skip R 30 rfl (by kernel_rfl) (by rfl) HS0.out ?_
  try simp only [Act.put, List.getElem_toArray, List.getElem_cons_succ, List.getElem_cons_zero, List.setIfInBounds_toArray, List.set_cons_zero, List.set_cons_succ]
  refine' anyI_take R 31 rfl (v := ?_) (by kernel_rfl) (by rfl) (fun V hV => ?hy) HS0.out ?_
  case hy => ((try dsimp only at hV);  obtain ⟨q1, q2, q3, q4, q5, q6, _⟩ := hV; go_simp; try with_reducible rfl)
  try simp only [Act.put, List.getElem_toArray, List.getElem_cons_succ, List.getElem_cons_zero, List.setIfInBounds_toArray, List.set_cons_zero, List.set_cons_succ]
  refine' anyI_take R 32 rfl (v := ?_) (by kernel_rfl) (by rfl) (fun V hV => ?hy) HS0.out ?_
  case hy => ((try dsimp only at hV);  obtain ⟨q1, q2, q3, q4, q5, q6, _⟩ := hV; go_simp; try with_reducible rfl)
  try simp only [Act.put, List.getElem_toArray, List.getElem_cons_succ, List.getElem_cons_zero, List.setIfInBounds_toArray, List.set_cons_zero, List.set_cons_succ]
  refine anyI_tail (by kernel_rfl) ?_
  try simp only [List.drop_succ_cons, List.drop_zero]
  clear R
  go_wp2_with fail
  refine NoPanic.normal ?_
  go_wp2_with fail
  go_ret
  exact ⟨rfl, HS0.out.2.2.2.2.2.2⟩
set_option maxRecDepth 100000 in
set_option maxHeartbeats 1000000 in
theorem refCan_b (l d c l' d' c' : Int) (w : World) (HC : (Hid (∀ W, Calls Try.prog 30 #[.agg #[.int .i64 l, .int .i64 d, .int .i64 c]] W fun e w' => e = .returned (.bool true) ∧ Below W.heap.size W w'))) (HC' : (Hid (∀ W, Calls Try.prog 30 #[.agg #[.int .i64 l', .int .i64 d', .int .i64 c']] W fun e w' => e = .returned (.bool false) ∧ Below W.heap.size W w'))) :
    Calls Try.prog 26 #[.agg #[.int .i64 l, .int .i64 d, .int .i64 c], .agg #[.int .i64 l', .int .i64 d', .int .i64 c']] w fun e w' => e = .returned (.bool false) ∧ Below w.heap.size w w' := by
  have S0 := gs2_start w l d c l' d' c' 23 23 (0, 0) (0, 0)
  go_enter Try.func26, Try.ntmps26
  go_wp2_with fail
  go_name_world wz hwz
  rw [hwz] at S0
  clear hwz
  refine wp_region_noPanic (region_ord 33 [] (fun V => GS2 w w.heap.size w.heap.size (w.heap.size + 1) l d c l' d' c' V) (by kernel_rfl) (by kernel_rfl) (fun _ _ _ _ _ h => h) fun R => ?_)
  change anyI _ _ _ _ _ _ 33 _ _ wz.drew
  have HS0 := Lib.hid (show (fun V => GS2 w w.heap.size w.heap.size (w.heap.size + 1) l d c l' d' c' V) wz.drew from GS2.drew S0)
  refine' anyI_take R 0 rfl (v := ?_) (by kernel_rfl) (by rfl) (fun V hV => ?hy) HS0.out ?_
  case hy => ((try dsimp only at hV);  obtain ⟨q1, q2, q3, q4, q5, q6, _⟩ := hV; go_simp; try with_reducible rfl)
  try simp only [Act.put, List.getElem_toArray, List.getElem_cons_succ, List.getElem_cons_zero, List.setIfInBounds_toArray, List.set_cons_zero, List.set_cons_succ]
  refine anyI_one 1 (by kernel_rfl) rfl ?_
  try simp only [List.getElem_toArray, List.getElem_cons_succ, List.getElem_cons_zero]
  refine opE_step ?_
  rw [if_pos (by rfl)]
  go_simp
  go_at_call 30
  refine (HC.out _).mono ?_
  rintro e w1 ⟨rfl, hb⟩
  replace HS0 := Lib.hid (GS2.later HS0.out hb)
  clear hb
  dsimp only
  refine ⟨HS0.out, ?_⟩
  try simp only [Act.put, List.getElem_toArray, List.getElem_cons_succ, List.getElem_cons_zero, List.setIfInBounds_toArray, List.set_cons_zero, List.set_cons_succ]
  refine' anyI_take R 2 rfl (v := ?_) (by kernel_rfl) (by rfl) (fun V hV => ?hy) HS0.out ?_
  case hy => ((try dsimp only at hV);  obtain ⟨q1, q2, q3, q4, q5, q6, _⟩ := hV; go_simp; try with_reducible rfl)
  try simp only [Act.put, List.getElem_toArray, List.getElem_cons_succ, List.getElem_cons_zero, List.setIfInBounds_toArray, List.set_cons_zero, List.set_cons_succ]
  refine' anyI_take R 3 rfl (v := ?_) (by kernel_rfl) (by rfl) (fun V hV => ?hy) HS0.out ?_
  case hy => ((try dsimp only at hV);  obtain ⟨q1, q2, q3, q4, q5, q6, _⟩ := hV; go_simp; try with_reducible rfl)
  try simp only [Act.put, List.getElem_toArray, List.getElem_cons_succ, List.getElem_cons_zero, List.setIfInBounds_toArray, List.set_cons_zero, List.set_cons_succ]
  refine anyI_one 4 (by kernel_rfl) rfl ?_
  try simp only [List.getElem_toArray, List.getElem_cons_succ, List.getElem_cons_zero]
  refine opE_step ?_
  rw [if_pos (by rfl)]
  go_simp
  go_at_call 30
  refine (HC'.out _).mono ?_
  rintro e w4 ⟨rfl, hb⟩
  replace HS0 := Lib.hid (GS2.later HS0.out hb)
  clear hb
  dsimp only
  refine ⟨HS0.out, ?_⟩
  try simp only [Act.put, List.getElem_toArray, List.getElem_cons_succ, List.getElem_cons_zero, List.setIfInBounds_toArray, List.set_cons_zero, List.set_cons_succ]
  refine' anyI_take R 5 rfl (v := ?_) (by kernel_rfl) (by rfl) (fun V hV => ?hy) HS0.out ?_
  case hy => ((try dsimp only at hV);  obtain ⟨q1, q2, q3, q4, q5, q6, _⟩ := hV; go_simp; try with_reducible rfl)
  try simp only [Act.put, List.getElem_toArray, List.getElem_cons_succ, List.getElem_cons_zero, List.setIfInBounds_toArray, List.set_cons_zero, List.set_cons_succ]
  refine' anyI_take R 6 rfl (v := ?_) (by kernel_rfl) (by rfl) (fun V hV => ?hy) HS0.out ?_
  case hy => ((try dsimp only at hV);  obtain ⟨q1, q2, q3, q4, q5, q6, _⟩ := hV; go_simp; try with_reducible rfl)
  try simp only [Act.put, List.getElem_toArray, List.getElem_cons_succ, List.getElem_cons_zero, List.setIfInBounds_toArray, List.set_cons_zero, List.set_cons_succ]
  refine anyI_skip R 7 rfl (by kernel_rfl) (by rfl) HS0.out ?_
  try simp only [Act.put, List.getElem_toArray, List.getElem_cons_succ, List.getElem_cons_zero, List.setIfInBounds_toArray, List.set_cons_zero, List.set_cons_succ]
  refine anyI_skip R 8 rfl (by kernel_rfl) (by rfl) HS0.out ?_
  try simp only [Act.put, List.getElem_toArray, List.getElem_cons_succ, List.getElem_cons_zero, List.setIfInBounds_toArray, List.set_cons_zero, List.set_cons_succ]
  refine anyI_skip R 9 rfl (by kernel_rfl) (by rfl) HS0.out ?_
  try simp only [Act.put, List.getElem_toArray, List.getElem_cons_succ, List.getElem_cons_zero, List.setIfInBounds_toArray, List.set_cons_zero, List.set_cons_succ]
  refine' anyI_take R 10 rfl (v := ?_) (by kernel_rfl) (by rfl) (fun V hV => ?hy) HS0.out ?_
  case hy => ((try dsimp only at hV);  obtain ⟨q1, q2, q3, q4, q5, q6, _⟩ := hV; go_simp; try with_reducible rfl)
  try simp only [Act.put, List.getElem_toArray, List.getElem_cons_succ, List.getElem_cons_zero, List.setIfInBounds_toArray, List.set_cons_zero, List.set_cons_succ]
  refine' anyI_take R 11 rfl (v := ?_) (by kernel_rfl) (by rfl) (fun V hV => ?hy) HS0.out ?_
  case hy => ((try dsimp only at hV);  obtain ⟨q1, q2, q3, q4, q5, q6, _⟩ := hV; go_simp; try with_reducible rfl)
  try simp only [Act.put, List.getElem_toArray, List.getElem_cons_succ, List.getElem_cons_zero, List.setIfInBounds_toArray, List.set_cons_zero, List.set_cons_succ]
  refine anyI_skip R 12 rfl (by kernel_rfl) (by rfl) HS0.out ?_
  try simp only [Act.put, List.getElem_toArray, List.getElem_cons_succ, List.getElem_cons_zero, List.setIfInBounds_toArray, List.set_cons_zero, List.set_cons_succ]
  refine anyI_skip R 13 rfl (by kernel_rfl) (by rfl) HS0.out ?_
  try simp only [Act.put, List.getElem_toArray, List.getElem_cons_succ, List.getElem_cons_zero, List.setIfInBounds_toArray, List.set_cons_zero, List.set_cons_succ]
  refine anyI_skip R 14 rfl (by kernel_rfl) (by rfl) HS0.out ?_
  try simp only [Act.put, List.getElem_toArray, List.getElem_cons_succ, List.getElem_cons_zero, List.setIfInBounds_toArray, List.set_cons_zero, List.set_cons_succ]
  refine anyI_skip R 15 rfl (by kernel_rfl) (by rfl) HS0.out ?_
  try simp only [Act.put, List.getElem_toArray, List.getElem_cons_succ, List.getElem_cons_zero, List.setIfInBounds_toArray, List.set_cons_zero, List.set_cons_succ]
  refine anyI_skip R 16 rfl (by kernel_rfl) (by rfl) HS0.out ?_
  try simp only [Act.put, List.getElem_toArray, List.getElem_cons_succ, List.getElem_cons_zero, List.setIfInBounds_toArray, List.set_cons_zero, List.set_cons_succ]
  refine' anyI_take R 17 rfl (v := ?_) (by kernel_rfl) (by rfl) (fun V hV => ?hy) HS0.out ?_
  case hy => ((try dsimp only at hV);  obtain ⟨q1, q2, q3, q4, q5, q6, _⟩ := hV; go_simp; try with_reducible rfl)
  try simp only [Act.put, List.getElem_toArray, List.getElem_cons_succ, List.getElem_cons_zero, List.setIfInBounds_toArray, List.set_cons_zero, List.set_cons_succ]
  refine' anyI_take R 18 rfl (v := ?_) (by kernel_rfl) (by rfl) (fun V hV => ?hy) HS0.out ?_
  case hy => ((try dsimp only at hV);  obtain ⟨q1, q2, q3, q4, q5, q6, _⟩ := hV; go_simp; try with_reducible rfl)
  try simp only [Act.put, List.getElem_toArray, List.getElem_cons_succ, List.getElem_cons_zero, List.setIfInBounds_toArray, List.set_cons_zero, List.set_cons_succ]
  refine anyI_skip R 19 rfl (by kernel_rfl) (by rfl) HS0.out ?_
  try simp only [Act.put, List.getElem_toArray, List.getElem_cons_succ, List.getElem_cons_zero, List.setIfInBounds_toArray, List.set_cons_zero, List.set_cons_succ]
  refine anyI_skip R 20 rfl (by kernel_rfl) (by rfl) HS0.out ?_
  try simp only [Act.put, List.getElem_toArray, List.getElem_cons_succ, List.getElem_cons_zero, List.setIfInBounds_toArray, List.set_cons_zero, List.set_cons_succ]
  refine anyI_skip R 21 rfl (by kernel_rfl) (by rfl) HS0.out ?_
  try simp only [Act.put, List.getElem_toArray, List.getElem_cons_succ, List.getElem_cons_zero, List.setIfInBounds_toArray, List.set_cons_zero, List.set_cons_succ]
  refine anyI_skip R 22 rfl (by kernel_rfl) (by rfl) HS0.out ?_
  try simp only [Act.put, List.getElem_toArray, List.getElem_cons_succ, List.getElem_cons_zero, List.setIfInBounds_toArray, List.set_cons_zero, List.set_cons_succ]
  refine anyI_skip R 23 rfl (by kernel_rfl) (by rfl) HS0.out ?_
  try simp only [Act.put, List.getElem_toArray, List.getElem_cons_succ, List.getElem_cons_zero, List.setIfInBounds_toArray, List.set_cons_zero, List.set_cons_succ]
  refine' anyI_take R 24 rfl (v := ?_) (by kernel_rfl) (by rfl) (fun V hV => ?hy) HS0.out ?_
  case hy => ((try dsimp only at hV);  obtain ⟨q1, q2, q3, q4, q5, q6, _⟩ := hV; go_simp; try with_reducible rfl)
  try simp only [Act.put, List.getElem_toArray, List.getElem_cons_succ, List.getElem_cons_zero, List.setIfInBounds_toArray, List.set_cons_zero, List.set_cons_succ]
  refine' anyI_take R 25 rfl (v := ?_) (by kernel_rfl) (by rfl) (fun V hV => ?hy) HS0.out ?_
  case hy => ((try dsimp only at hV);  obtain ⟨q1, q2, q3, q4, q5, q6, _⟩ := hV; go_simp; try with_reducible rfl)
  try simp only [Act.put, List.getElem_toArray, List.getElem_cons_succ, List.getElem_cons_zero, List.setIfInBounds_toArray, List.set_cons_zero, List.set_cons_succ]
  refine anyI_skip R 26 rfl (by kernel_rfl) (by rfl) HS0.out ?_
  try simp only [Act.put, List.getElem_toArray, List.getElem_cons_succ, List.getElem_cons_zero, List.setIfInBounds_toArray, List.set_cons_zero, List.set_cons_succ]
  refine anyI_skip R 27 rfl (by kernel_rfl) (by rfl) HS0.out ?_
  try simp only [Act.put, List.getElem_toArray, List.getElem_cons_succ, List.getElem_cons_zero, List.setIfInBounds_toArray, List.set_cons_zero, List.set_cons_succ]
  refine anyI_skip R 28 rfl (by kernel_rfl) (by rfl) HS0.out ?_
  try simp only [Act.put, List.getElem_toArray, List.getElem_cons_succ, List.getElem_cons_zero, List.setIfInBounds_toArray, List.set_cons_zero, List.set_cons_succ]
  refine anyI_skip R 29 rfl (by kernel_rfl) (by rfl) HS0.out ?_
  try simp only [Act.put, List.getElem_toArray, List.getElem_cons_succ, List.getElem_cons_zero, List.setIfInBounds_toArray, List.set_cons_zero, List.set_cons_succ]
  refine anyI_skip R 30 rfl (by kernel_rfl) (by rfl) HS0.out ?_
  try simp only [Act.put, List.getElem_toArray, List.getElem_cons_succ, List.getElem_cons_zero, List.setIfInBounds_toArray, List.set_cons_zero, List.set_cons_succ]
  refine' anyI_take R 31 rfl (v := ?_) (by kernel_rfl) (by rfl) (fun V hV => ?hy) HS0.out ?_
  case hy => ((try dsimp only at hV);  obtain ⟨q1, q2, q3, q4, q5, q6, _⟩ := hV; go_simp; try with_reducible rfl)
  try simp only [Act.put, List.getElem_toArray, List.getElem_cons_succ, List.getElem_cons_zero, List.setIfInBounds_toArray, List.set_cons_zero, List.set_cons_succ]
  refine' anyI_take R 32 rfl (v := ?_) (by kernel_rfl) (by rfl) (fun V hV => ?hy) HS0.out ?_
  case hy => ((try dsimp only at hV);  obtain ⟨q1, q2, q3, q4, q5, q6, _⟩ := hV; go_simp; try with_reducible rfl)
  try simp only [Act.put, List.getElem_toArray, List.getElem_cons_succ, List.getElem_cons_zero, List.setIfInBounds_toArray, List.set_cons_zero, List.set_cons_succ]
  refine anyI_tail (by kernel_rfl) ?_
  try simp only [List.drop_succ_cons, List.drop_zero]
  clear R
  go_wp2_with fail
  refine NoPanic.normal ?_
  go_wp2_with fail
  go_ret
  exact ⟨rfl, HS0.out.2.2.2.2.2.2⟩
set_option maxRecDepth 100000 in
set_option maxHeartbeats 1000000 in
theorem refCan_d (l d c l' d' c' : Int) (w : World) (HC : (Hid (∀ W, Calls Try.prog 30 #[.agg #[.int .i64 l, .int .i64 d, .int .i64 c]] W fun e w' => e = .returned (.bool true) ∧ Below W.heap.size W w'))) (HC' : (Hid (∀ W, Calls Try.prog 30 #[.agg #[.int .i64 l', .int .i64 d', .int .i64 c']] W fun e w' => e = .returned (.bool true) ∧ Below W.heap.size W w'))) (HE : Hid (¬ l = l' ∨ (l = l' ∧ ¬ d = d') ∨ (l = l' ∧ d = d' ∧ ¬ c = c'))) (hdd : ¬ d ≤ d') :
    Calls Try.prog 26 #[.agg #[.int .i64 l, .int .i64 d, .int .i64 c], .agg #[.int .i64 l', .int .i64 d', .int .i64 c']] w fun e w' => e = .returned (.bool false) ∧ Below w.heap.size w w' := by
  have S0 := gs2_start w l d c l' d' c' 23 23 (0, 0) (0, 0)
  go_enter Try.func26, Try.ntmps26
  go_wp2_with fail
  go_name_world wz hwz
  rw [hwz] at S0
  clear hwz
  refine wp_region_noPanic (region_ord 33 [] (fun V => GS2 w w.heap.size w.heap.size (w.heap.size + 1) l d c l' d' c' V) (by kernel_rfl) (by kernel_rfl) (fun _ _ _ _ _ h => h) fun R => ?_)
  change anyI _ _ _ _ _ _ 33 _ _ wz.drew
  have HS0 := Lib.hid (show (fun V => GS2 w w.heap.size w.heap.size (w.heap.size + 1) l d c l' d' c' V) wz.drew from GS2.drew S0)
  refine' anyI_take R 0 rfl (v := ?_) (by kernel_rfl) (by rfl) (fun V hV => ?hy) HS0.out ?_
  case hy => ((try dsimp only at hV);  obtain ⟨q1, q2, q3, q4, q5, q6, _⟩ := hV; go_simp; try with_reducible rfl)
  try simp only [Act.put, List.getElem_toArray, List.getElem_cons_succ, List.getElem_cons_zero, List.setIfInBounds_toArray, List.set_cons_zero, List.set_cons_succ]
  refine anyI_one 1 (by kernel_rfl) rfl ?_
  try simp only [List.getElem_toArray, List.getElem_cons_succ, List.getElem_cons_zero]
  refine opE_step ?_
  rw [if_pos (by rfl)]
  go_simp
  go_at_call 30
  refine (HC.out _).mono ?_
  rintro e w1 ⟨rfl, hb⟩
  replace HS0 := Lib.hid (GS2.later HS0.out hb)
  clear hb
  dsimp only
  refine ⟨HS0.out, ?_⟩
  try simp only [Act.put, List.getElem_toArray, List.getElem_cons_succ, List.getElem_cons_zero, List.setIfInBounds_toArray, List.set_cons_zero, List.set_cons_succ]
  refine' anyI_take R 2 rfl (v := ?_) (by kernel_rfl) (by rfl) (fun V hV => ?hy) HS0.out ?_
  case hy => ((try dsimp only at hV);  obtain ⟨q1, q2, q3, q4, q5, q6, _⟩ := hV; go_simp; try with_reducible rfl)
  try simp only [Act.put, List.getElem_toArray, List.getElem_cons_succ, List.getElem_cons_zero, List.setIfInBounds_toArray, List.set_cons_zero, List.set_cons_succ]
  refine' anyI_take R 3 rfl (v := ?_) (by kernel_rfl) (by rfl) (fun V hV => ?hy) HS0.out ?_
  case hy => ((try dsimp only at hV);  obtain ⟨q1, q2, q3, q4, q5, q6, _⟩ := hV; go_simp; try with_reducible rfl)
  try simp only [Act.put, List.getElem_toArray, List.getElem_cons_succ, List.getElem_cons_zero, List.setIfInBounds_toArray, List.set_cons_zero, List.set_cons_succ]
  refine anyI_one 4 (by kernel_rfl) rfl ?_
  try simp only [List.getElem_toArray, List.getElem_cons_succ, List.getElem_cons_zero]
  refine opE_step ?_
  rw [if_pos (by rfl)]
  go_simp
  go_at_call 30
  refine (HC'.out _).mono ?_
  rintro e w4 ⟨rfl, hb⟩
  replace HS0 := Lib.hid (GS2.later HS0.out hb)
  clear hb
  dsimp only
  refine ⟨HS0.out, ?_⟩
  try simp only [Act.put, List.getElem_toArray, List.getElem_cons_succ, List.getElem_cons_zero, List.setIfInBounds_toArray, List.set_cons_zero, List.set_cons_succ]
  refine' anyI_take R 5 rfl (v := ?_) (by kernel_rfl) (by rfl) (fun V hV => ?hy) HS0.out ?_
  case hy => ((try dsimp only at hV);  obtain ⟨q1, q2, q3, q4, q5, q6, _⟩ := hV; go_simp; try with_reducible rfl)
  try simp only [Act.put, List.getElem_toArray, List.getElem_cons_succ, List.getElem_cons_zero, List.setIfInBounds_toArray, List.set_cons_zero, List.set_cons_succ]
  refine' anyI_take R 6 rfl (v := ?_) (by kernel_rfl) (by rfl) (fun V hV => ?hy) HS0.out ?_
  case hy => ((try dsimp only at hV);  obtain ⟨q1, q2, q3, q4, q5, q6, _⟩ := hV; go_simp; try with_reducible rfl)
  try simp only [Act.put, List.getElem_toArray, List.getElem_cons_succ, List.getElem_cons_zero, List.setIfInBounds_toArray, List.set_cons_zero, List.set_cons_succ]
  refine' anyI_take R 7 rfl (v := ?_) (by kernel_rfl) (by rfl) (fun V hV => ?hy) HS0.out ?_
  case hy => ((try dsimp only at hV);  obtain ⟨q1, q2, q3, q4, q5, q6, _⟩ := hV; go_simp; try with_reducible rfl)
  try simp only [Act.put, List.getElem_toArray, List.getElem_cons_succ, List.getElem_cons_zero, List.setIfInBounds_toArray, List.set_cons_zero, List.set_cons_succ]
  refine' anyI_take R 8 rfl (v := ?_) (by kernel_rfl) (by rfl) (fun V hV => ?hy) HS0.out ?_
  case hy => ((try dsimp only at hV);  obtain ⟨q1, q2, q3, q4, q5, q6, _⟩ := hV; go_simp; try with_reducible rfl)
  try simp only [Act.put, List.getElem_toArray, List.getElem_cons_succ, List.getElem_cons_zero, List.setIfInBounds_toArray, List.set_cons_zero, List.set_cons_succ]
  refine anyI_take R 9 rfl (v := .bool true) (by kernel_rfl) (by rfl) (fun V hV => ?_) HS0.out ?_
  · (try dsimp only at hV); obtain ⟨q1, q2, q3, q4, q5, q6, _⟩ := hV; rcases HE.out with h1 | ⟨rfl, h1⟩ | ⟨rfl, rfl, h1⟩ <;> go_simp
  try simp only [Act.put, List.getElem_toArray, List.getElem_cons_succ, List.getElem_cons_zero, List.setIfInBounds_toArray, List.set_cons_zero, List.set_cons_succ]
  refine' anyI_take R 10 rfl (v := ?_) (by kernel_rfl) (by rfl) (fun V hV => ?hy) HS0.out ?_
  case hy => ((try dsimp only at hV);  obtain ⟨q1, q2, q3, q4, q5, q6, _⟩ := hV; go_simp; try with_reducible rfl)
  try simp only [Act.put, List.getElem_toArray, List.getElem_cons_succ, List.getElem_cons_zero, List.setIfInBounds_toArray, List.set_cons_zero, List.set_cons_succ]
  refine' anyI_take R 11 rfl (v := ?_) (by kernel_rfl) (by rfl) (fun V hV => ?hy) HS0.out ?_
  case hy => ((try dsimp only at hV);  obtain ⟨q1, q2, q3, q4, q5, q6, _⟩ := hV; go_simp; try with_reducible rfl)
  try simp only [Act.put, List.getElem_toArray, List.getElem_cons_succ, List.getElem_cons_zero, List.setIfInBounds_toArray, List.set_cons_zero, List.set_cons_succ]
  refine' anyI_take R 12 rfl (v := ?_) (by kernel_rfl) (by rfl) (fun V hV => ?hy) HS0.out ?_
  case hy => ((try dsimp only at hV);  obtain ⟨q1, q2, q3, q4, q5, q6, _⟩ := hV; go_simp; try with_reducible rfl)
  try simp only [Act.put, List.getElem_toArray, List.getElem_cons_succ, List.getElem_cons_zero, List.setIfInBounds_toArray, List.set_cons_zero, List.set_cons_succ]
  refine' anyI_take R 13 rfl (v := ?_) (by kernel_rfl) (by rfl) (fun V hV => ?hy) HS0.out ?_
  case hy => ((try dsimp only at hV);  obtain ⟨q1, q2, q3, q4, q5, q6, _⟩ := hV; go_simp; try with_reducible rfl)
  try simp only [Act.put, List.getElem_toArray, List.getElem_cons_succ, List.getElem_cons_zero, List.setIfInBounds_toArray, List.set_cons_zero, List.set_cons_succ]
  refine' anyI_take R 14 rfl (v := ?_) (by kernel_rfl) (by rfl) (fun V hV => ?hy) HS0.out ?_
  case hy => ((try dsimp only at hV);  obtain ⟨q1, q2, q3, q4, q5, q6, _⟩ := hV; go_simp; try with_reducible rfl)
  try simp only [Act.put, List.getElem_toArray, List.getElem_cons_succ, List.getElem_cons_zero, List.setIfInBounds_toArray, List.set_cons_zero, List.set_cons_succ]
  refine' anyI_take R 15 rfl (v := ?_) (by kernel_rfl) (by rfl) (fun V hV => ?hy) HS0.out ?_
  case hy => ((try dsimp only at hV);  obtain ⟨q1, q2, q3, q4, q5, q6, _⟩ := hV; go_simp; try with_reducible rfl)
  try simp only [Act.put, List.getElem_toArray, List.getElem_cons_succ, List.getElem_cons_zero, List.setIfInBounds_toArray, List.set_cons_zero, List.set_cons_succ]
  refine anyI_take R 16 rfl (v := .bool false) (by kernel_rfl) (by rfl) (fun V hV => ?_) HS0.out ?_
  · (try dsimp only at hV); obtain ⟨q1, q2, q3, q4, q5, q6, _⟩ := hV; go_simp; try (simp [hdd]; done)
  try simp only [Act.put, List.getElem_toArray, List.getElem_cons_succ, List.getElem_cons_zero, List.setIfInBounds_toArray, List.set_cons_zero, List.set_cons_succ]
  refine' anyI_take R 17 rfl (v := ?_) (by kernel_rfl) (by rfl) (fun V hV => ?hy) HS0.out ?_
  case hy => ((try dsimp only at hV);  obtain ⟨q1, q2, q3, q4, q5, q6, _⟩ := hV; go_simp; try with_reducible rfl)
  try simp only [Act.put, List.getElem_toArray, List.getElem_cons_succ, List.getElem_cons_zero, List.setIfInBounds_toArray, List.set_cons_zero, List.set_cons_succ]
  refine' anyI_take R 18 rfl (v := ?_) (by kernel_rfl) (by rfl) (fun V hV => ?hy) HS0.out ?_
  case hy => ((try dsimp only at hV);  obtain ⟨q1, q2, q3, q4, q5, q6, _⟩ := hV; go_simp; try with_reducible rfl)
  try simp only [Act.put, List.getElem_toArray, List.getElem_cons_succ, List.getElem_cons_zero, List.setIfInBounds_toArray, List.set_cons_zero, List.set_cons_succ]
  refine anyI_skip R 19 rfl (by kernel_rfl) (by rfl) HS0.out ?_
  try simp only [Act.put, List.getElem_toArray, List.getElem_cons_succ, List.getElem_cons_zero, List.setIfInBounds_toArray, List.set_cons_zero, List.set_cons_succ]
  refine anyI_skip R 20 rfl (by kernel_rfl) (by rfl) HS0.out ?_
  try simp only [Act.put, List.getElem_toArray, List.getElem_cons_succ, List.getElem_cons_zero, List.setIfInBounds_toArray, List.set_cons_zero, List.set_cons_succ]
  refine anyI_skip R 21 rfl (by kernel_rfl) (by rfl) HS0.out ?_
  try simp only [Act.put, List.getElem_toArray, List.getElem_cons_succ, List.getElem_cons_zero, List.setIfInBounds_toArray, List.set_cons_zero, List.set_cons_succ]
  refine anyI_skip R 22 rfl (by kernel_rfl) (by rfl) HS0.out ?_
  try simp only [Act.put, List.getElem_toArray, List.getElem_cons_succ, List.getElem_cons_zero, List.setIfInBounds_toArray, List.set_cons_zero, List.set_cons_succ]
  refine anyI_skip R 23 rfl (by kernel_rfl) (by rfl) HS0.out ?_
  try simp only [Act.put, List.getElem_toArray, List.getElem_cons_succ, List.getElem_cons_zero, List.setIfInBounds_toArray, List.set_cons_zero, List.set_cons_succ]
  refine' anyI_take R 24 rfl (v := ?_) (by kernel_rfl) (by rfl) (fun V hV => ?hy) HS0.out ?_
  case hy => ((try dsimp only at hV);  obtain ⟨q1, q2, q3, q4, q5, q6, _⟩ := hV; go_simp; try with_reducible rfl)
  try simp only [Act.put, List.getElem_toArray, List.getElem_cons_succ, List.getElem_cons_zero, List.setIfInBounds_toArray, List.set_cons_zero, List.set_cons_succ]
  refine' anyI_take R 25 rfl (v := ?_) (by kernel_rfl) (by rfl) (fun V hV => ?hy) HS0.out ?_
  case hy => ((try dsimp only at hV);  obtain ⟨q1, q2, q3, q4, q5, q6, _⟩ := hV; go_simp; try with_reducible rfl)
  try simp only [Act.put, List.getElem_toArray, List.getElem_cons_succ, List.getElem_cons_zero, List.setIfInBounds_toArray, List.set_cons_zero, List.set_cons_succ]
  refine anyI_skip R 26 rfl (by kernel_rfl) (by rfl) HS0.out ?_
  try simp only [Act.put, List.getElem_toArray, List.getElem_cons_succ, List.getElem_cons_zero, List.setIfInBounds_toArray, List.set_cons_zero, List.set_cons_succ]
  refine anyI_skip R 27 rfl (by kernel_rfl) (by rfl) HS0.out ?_
  try simp only [Act.put, List.getElem_toArray, List.getElem_cons_succ, List.getElem_cons_zero, List.setIfInBounds_toArray, List.set_cons_zero, List.set_cons_succ]
  refine anyI_skip R 28 rfl (by kernel_rfl) (by rfl) HS0.out ?_
  try simp only [Act.put, List.getElem_toArray, List.getElem_cons_succ, List.getElem_cons_zero, List.setIfInBounds_toArray, List.set_cons_zero, List.set_cons_succ]
  refine anyI_skip R 29 rfl (by kernel_rfl) (by rfl) HS0.out ?_
  try simp only [Act.put, List.getElem_toArray, List.getElem_cons_succ, List.getElem_cons_zero, List.setIfInBounds_toArray, List.set_cons_zero, List.set_cons_succ]
  refine anyI_skip R 30 rfl (by kernel_rfl) (by rfl) HS0.out ?_
  try simp only [Act.put, List.getElem_toArray, List.getElem_cons_succ, List.getElem_cons_zero, List.setIfInBounds_toArray, List.set_cons_zero, List.set_cons_succ]
  refine' anyI_take R 31 rfl (v := ?_) (by kernel_rfl) (by rfl) (fun V hV => ?hy) HS0.out ?_
  case hy => ((try dsimp only at hV);  obtain ⟨q1, q2, q3, q4, q5, q6, _⟩ := hV; go_simp; try with_reducible rfl)
  try simp only [Act.put, List.getElem_toArray, List.getElem_cons_succ, List.getElem_cons_zero, List.setIfInBounds_toArray, List.set_cons_zero, List.set_cons_succ]
  refine' anyI_take R 32 rfl (v := ?_) (by kernel_rfl) (by rfl) (fun V hV => ?hy) HS0.out ?_
  case hy => ((try dsimp only at hV);  obtain ⟨q1, q2, q3, q4, q5, q6, _⟩ := hV; go_simp; try with_reducible rfl)
  try simp only [Act.put, List.getElem_toArray, List.getElem_cons_succ, List.getElem_cons_zero, List.setIfInBounds_toArray, List.set_cons_zero, List.set_cons_succ]
  refine anyI_tail (by kernel_rfl) ?_
  try simp only [List.drop_succ_cons, List.drop_zero]
  clear R
  go_wp2_with fail
  refine NoPanic.normal ?_
  go_wp2_with fail
  go_ret
  exact ⟨rfl, HS0.out.2.2.2.2.2.2⟩
set_option maxRecDepth 100000 in
set_option maxHeartbeats 1000000 in
theorem refCan_e (l d c l' d' c' : Int) (w : World) (HC : (Hid (∀ W, Calls Try.prog 30 #[.agg #[.int .i64 l, .int .i64 d, .int .i64 c]] W fun e w' => e = .returned (.bool true) ∧ Below W.heap.size W w'))) (HC' : (Hid (∀ W, Calls Try.prog 30 #[.agg #[.int .i64 l', .int .i64 d', .int .i64 c']] W fun e w' => e = .returned (.bool true) ∧ Below W.heap.size W w'))) (HE : Hid (¬ l = l' ∨ (l = l' ∧ ¬ d = d') ∨ (l = l' ∧ d = d' ∧ ¬ c = c'))) (hdd : d ≤ d') (hll : ¬ l ≤ l') :
    Calls Try.prog 26 #[.agg #[.int .i64 l, .int .i64 d, .int .i64 c], .agg #[.int .i64 l', .int .i64 d', .int .i64 c']] w fun e w' => e = .returned (.bool false) ∧ Below w.heap.size w w' := by
  have S0 := gs2_start w l d c l' d' c' 23 23 (0, 0) (0, 0)
  go_enter Try.func26, Try.ntmps26
  go_wp2_with fail
  go_name_world wz hwz
  rw [hwz] at S0
  clear hwz
  refine wp_region_noPanic (region_ord 33 [] (fun V => GS2 w w.heap.size w.heap.size (w.heap.size + 1) l d c l' d' c' V) (by kernel_rfl) (by kernel_rfl) (fun _ _ _ _ _ h => h) fun R => ?_)
  change anyI _ _ _ _ _ _ 33 _ _ wz.drew
  have HS0 := Lib.hid (show (fun V => GS2 w w.heap.size w.heap.size (w.heap.size + 1) l d c l' d' c' V) wz.drew from GS2.drew S0)
  refine' anyI_take R 0 rfl (v := ?_) (by kernel_rfl) (by rfl) (fun V hV => ?hy) HS0.out ?_
  case hy => ((try dsimp only at hV);  obtain ⟨q1, q2, q3, q4, q5, q6, _⟩ := hV; go_simp; try with_reducible rfl)
  try simp only [Act.put, List.getElem_toArray, List.getElem_cons_succ, List.getElem_cons_zero, List.setIfInBounds_toArray, List.set_cons_zero, List.set_cons_succ]
  refine anyI_one 1 (by kernel_rfl) rfl ?_
  try simp only [List.getElem_toArray, List.getElem_cons_succ, List.getElem_cons_zero]
  refine opE_step ?_
  rw [if_pos (by rfl)]
  go_simp
  go_at_call 30
  refine (HC.out _).mono ?_
  rintro e w1 ⟨rfl, hb⟩
  replace HS0 := Lib.hid (GS2.later HS0.out hb)
  clear hb
  dsimp only
  refine ⟨HS0.out, ?_⟩
  try simp only [Act.put, List.getElem_toArray, List.getElem_cons_succ, List.getElem_cons_zero, List.setIfInBounds_toArray, List.set_cons_zero, List.set_cons_succ]
  refine' anyI_take R 2 rfl (v := ?_) (by kernel_rfl) (by rfl) (fun V hV => ?hy) HS0.out ?_
  case hy => ((try dsimp only at hV);  obtain ⟨q1, q2, q3, q4, q5, q6, _⟩ := hV; go_simp; try with_reducible rfl)
  try simp only [Act.put, List.getElem_toArray, List.getElem_cons_succ, List.getElem_cons_zero, List.setIfInBounds_toArray, List.set_cons_zero, List.set_cons_succ]
  refine' anyI_take R 3 rfl (v := ?_) (by kernel_rfl) (by rfl) (fun V hV => ?hy) HS0.out ?_
  case hy => ((try dsimp only at hV);  obtain ⟨q1, q2, q3, q4, q5, q6, _⟩ := hV; go_simp; try with_reducible rfl)
  try simp only [Act.put, List.getElem_toArray, List.getElem_cons_succ, List.getElem_cons_zero, List.setIfInBounds_toArray, List.set_cons_zero, List.set_cons_succ]
  refine anyI_one 4 (by kernel_rfl) rfl ?_
  try simp only [List.getElem_toArray, List.getElem_cons_succ, List.getElem_cons_zero]
  refine opE_step ?_
  rw [if_pos (by rfl)]
  go_simp
  go_at_call 30
  refine (HC'.out _).mono ?_
  rintro e w4 ⟨rfl, hb⟩
  replace HS0 := Lib.hid (GS2.later HS0.out hb)
  clear hb
  dsimp only
  refine ⟨HS0.out, ?_⟩
  try simp only [Act.put, List.getElem_toArray, List.getElem_cons_succ, List.getElem_cons_zero, List.setIfInBounds_toArray, List.set_cons_zero, List.set_cons_succ]
  refine' anyI_take R 5 rfl (v := ?_) (by kernel_rfl) (by rfl) (fun V hV => ?hy) HS0.out ?_
  case hy => ((try dsimp only at hV);  obtain ⟨q1, q2, q3, q4, q5, q6, _⟩ := hV; go_simp; try with_reducible rfl)
  try simp only [Act.put, List.getElem_toArray, List.getElem_cons_succ, List.getElem_cons_zero, List.setIfInBounds_toArray, List.set_cons_zero, List.set_cons_succ]
  refine' anyI_take R 6 rfl (v := ?_) (by kernel_rfl) (by rfl) (fun V hV => ?hy) HS0.out ?_
  case hy => ((try dsimp only at hV);  obtain ⟨q1, q2, q3, q4, q5, q6, _⟩ := hV; go_simp; try with_reducible rfl)
  try simp only [Act.put, List.getElem_toArray, List.getElem_cons_succ, List.getElem_cons_zero, List.setIfInBounds_toArray, List.set_cons_zero, List.set_cons_succ]
  refine' anyI_take R 7 rfl (v := ?_) (by kernel_rfl) (by rfl) (fun V hV => ?hy) HS0.out ?_
  case hy => ((try dsimp only at hV);  obtain ⟨q1, q2, q3, q4, q5, q6, _⟩ := hV; go_simp; try with_reducible rfl)
  try simp only [Act.put, List.getElem_toArray, List.getElem_cons_succ, List.getElem_cons_zero, List.setIfInBounds_toArray, List.set_cons_zero, List.set_cons_succ]
  refine' anyI_take R 8 rfl (v := ?_) (by kernel_rfl) (by rfl) (fun V hV => ?hy) HS0.out ?_
  case hy => ((try dsimp only at hV);  obtain ⟨q1, q2, q3, q4, q5, q6, _⟩ := hV; go_simp; try with_reducible rfl)
  try simp only [Act.put, List.getElem_toArray, List.getElem_cons_succ, List.getElem_cons_zero, List.setIfInBounds_toArray, List.set_cons_zero, List.set_cons_succ]
  refine anyI_take R 9 rfl (v := .bool true) (by kernel_rfl) (by rfl) (fun V hV => ?_) HS0.out ?_
  · (try dsimp only at hV); obtain ⟨q1, q2, q3, q4, q5, q6, _⟩ := hV; rcases HE.out with h1 | ⟨rfl, h1⟩ | ⟨rfl, rfl, h1⟩ <;> go_simp
  try simp only [Act.put, List.getElem_toArray, List.getElem_cons_succ, List.getElem_cons_zero, List.setIfInBounds_toArray, List.set_cons_zero, List.set_cons_succ]
  refine' anyI_take R 10 rfl (v := ?_) (by kernel_rfl) (by rfl) (fun V hV => ?hy) HS0.out ?_
  case hy => ((try dsimp only at hV);  obtain ⟨q1, q2, q3, q4, q5, q6, _⟩ := hV; go_simp; try with_reducible rfl)
  try simp only [Act.put, List.getElem_toArray, List.getElem_cons_succ, List.getElem_cons_zero, List.setIfInBounds_toArray, List.set_cons_zero, List.set_cons_succ]
  refine' anyI_take R 11 rfl (v := ?_) (by kernel_rfl) (by rfl) (fun V hV => ?hy) HS0.out ?_
  case hy => ((try dsimp only at hV);  obtain ⟨q1, q2, q3, q4, q5, q6, _⟩ := hV; go_simp; try with_reducible rfl)
  try simp only [Act.put, List.getElem_toArray, List.getElem_cons_succ, List.getElem_cons_zero, List.setIfInBounds_toArray, List.set_cons_zero, List.set_cons_succ]
  refine' anyI_take R 12 rfl (v := ?_) (by kernel_rfl) (by rfl) (fun V hV => ?hy) HS0.out ?_
  case hy => ((try dsimp only at hV);  obtain ⟨q1, q2, q3, q4, q5, q6, _⟩ := hV; go_simp; try with_reducible rfl)
  try simp only [Act.put, List.getElem_toArray, List.getElem_cons_succ, List.getElem_cons_zero, List.setIfInBounds_toArray, List.set_cons_zero, List.set_cons_succ]
  refine' anyI_take R 13 rfl (v := ?_) (by kernel_rfl) (by rfl) (fun V hV => ?hy) HS0.out ?_
  case hy => ((try dsimp only at hV);  obtain ⟨q1, q2, q3, q4, q5, q6, _⟩ := hV; go_simp; try with_reducible rfl)
  try simp only [Act.put, List.getElem_toArray, List.getElem_cons_succ, List.getElem_cons_zero, List.setIfInBounds_toArray, List.set_cons_zero, List.set_cons_succ]
  refine' anyI_take R 14 rfl (v := ?_) (by kernel_rfl) (by rfl) (fun V hV => ?hy) HS0.out ?_
  case hy => ((try dsimp only at hV);  obtain ⟨q1, q2, q3, q4, q5, q6, _⟩ := hV; go_simp; try with_reducible rfl)
  try simp only [Act.put, List.getElem_toArray, List.getElem_cons_succ, List.getElem_cons_zero, List.setIfInBounds_toArray, List.set_cons_zero, List.set_cons_succ]
  refine' anyI_take R 15 rfl (v := ?_) (by kernel_rfl) (by rfl) (fun V hV => ?hy) HS0.out ?_
  case hy => ((try dsimp only at hV);  obtain ⟨q1, q2, q3, q4, q5, q6, _⟩ := hV; go_simp; try with_reducible rfl)
  try simp only [Act.put, List.getElem_toArray, List.getElem_cons_succ, List.getElem_cons_zero, List.setIfInBounds_toArray, List.set_cons_zero, List.set_cons_succ]
  refine anyI_take R 16 rfl (v := .bool true) (by kernel_rfl) (by rfl) (fun V hV => ?_) HS0.out ?_
  · (try dsimp only at hV); obtain ⟨q1, q2, q3, q4, q5, q6, _⟩ := hV; go_simp; try (simp [hdd]; done)
  try simp only [Act.put, List.getElem_toArray, List.getElem_cons_succ, List.getElem_cons_zero, List.setIfInBounds_toArray, List.set_cons_zero, List.set_cons_succ]
  refine' anyI_take R 17 rfl (v := ?_) (by kernel_rfl) (by rfl) (fun V hV => ?hy) HS0.out ?_
  case hy => ((try dsimp only at hV);  obtain ⟨q1, q2, q3, q4, q5, q6, _⟩ := hV; go_simp; try with_reducible rfl)
  try simp only [Act.put, List.getElem_toArray, List.getElem_cons_succ, List.getElem_cons_zero, List.setIfInBounds_toArray, List.set_cons_zero, List.set_cons_succ]
  refine' anyI_take R 18 rfl (v := ?_) (by kernel_rfl) (by rfl) (fun V hV => ?hy) HS0.out ?_
  case hy => ((try dsimp only at hV);  obtain ⟨q1, q2, q3, q4, q5, q6, _⟩ := hV; go_simp; try with_reducible rfl)
  try simp only [Act.put, List.getElem_toArray, List.getElem_cons_succ, List.getElem_cons_zero, List.setIfInBounds_toArray, List.set_cons_zero, List.set_cons_succ]
  refine' anyI_take R 19 rfl (v := ?_) (by kernel_rfl) (by rfl) (fun V hV => ?hy) HS0.out ?_
  case hy => ((try dsimp only at hV);  obtain ⟨q1, q2, q3, q4, q5, q6, _⟩ := hV; go_simp; try with_reducible rfl)
  try simp only [Act.put, List.getElem_toArray, List.getElem_cons_succ, List.getElem_cons_zero, List.setIfInBounds_toArray, List.set_cons_zero, List.set_cons_succ]
  refine' anyI_take R 20 rfl (v := ?_) (by kernel_rfl) (by rfl) (fun V hV => ?hy) HS0.out ?_
  case hy => ((try dsimp only at hV);  obtain ⟨q1, q2, q3, q4, q5, q6, _⟩ := hV; go_simp; try with_reducible rfl)
  try simp only [Act.put, List.getElem_toArray, List.getElem_cons_succ, List.getElem_cons_zero, List.setIfInBounds_toArray, List.set_cons_zero, List.set_cons_succ]
  refine' anyI_take R 21 rfl (v := ?_) (by kernel_rfl) (by rfl) (fun V hV => ?hy) HS0.out ?_
  case hy => ((try dsimp only at hV);  obtain ⟨q1, q2, q3, q4, q5, q6, _⟩ := hV; go_simp; try with_reducible rfl)
  try simp only [Act.put, List.getElem_toArray, List.getElem_cons_succ, List.getElem_cons_zero, List.setIfInBounds_toArray, List.set_cons_zero, List.set_cons_succ]
  refine' anyI_take R 22 rfl (v := ?_) (by kernel_rfl) (by rfl) (fun V hV => ?hy) HS0.out ?_
  case hy => ((try dsimp only at hV);  obtain ⟨q1, q2, q3, q4, q5, q6, _⟩ := hV; go_simp; try with_reducible rfl)
  try simp only [Act.put, List.getElem_toArray, List.getElem_cons_succ, List.getElem_cons_zero, List.setIfInBounds_toArray, List.set_cons_zero, List.set_cons_succ]
  refine anyI_take R 23 rfl (v := .bool false) (by kernel_rfl) (by rfl) (fun V hV => ?_) HS0.out ?_
  · (try dsimp only at hV); obtain ⟨q1, q2, q3, q4, q5, q6, _⟩ := hV; go_simp; try (simp [hll]; done)
  try simp only [Act.put, List.getElem_toArray, List.getElem_cons_succ, List.getElem_cons_zero, List.setIfInBounds_toArray, List.set_cons_zero, List.set_cons_succ]
  refine' anyI_take R 24 rfl (v := ?_) (by kernel_rfl) (by rfl) (fun V hV => ?hy) HS0.out ?_
  case hy => ((try dsimp only at hV);  obtain ⟨q1, q2, q3, q4, q5, q6, _⟩ := hV; go_simp; try with_reducible rfl)
  try simp only [Act.put, List.getElem_toArray, List.getElem_cons_succ, List.getElem_cons_zero, List.setIfInBounds_toArray, List.set_cons_zero, List.set_cons_succ]
  refine' anyI_take R 25 rfl (v := ?_) (by kernel_rfl) (by rfl) (fun V hV => ?hy) HS0.out ?_
  case hy => ((try dsimp only at hV);  obtain ⟨q1, q2, q3, q4, q5, q6, _⟩ := hV; go_simp; try with_reducible rfl)
  try simp only [Act.put, List.getElem_toArray, List.getElem_cons_succ, List.getElem_cons_zero, List.setIfInBounds_toArray, List.set_cons_zero, List.set_cons_succ]
  refine anyI_skip R 26 rfl (by kernel_rfl) (by rfl) HS0.out ?_
  try simp only [Act.put, List.getElem_toArray, List.getElem_cons_succ, List.getElem_cons_zero, List.setIfInBounds_toArray, List.set_cons_zero, List.set_cons_succ]
  refine anyI_skip R 27 rfl (by kernel_rfl) (by rfl) HS0.out ?_
  try simp only [Act.put, List.getElem_toArray, List.getElem_cons_succ, List.getElem_cons_zero, List.setIfInBounds_toArray, List.set_cons_zero, List.set_cons_succ]
  refine anyI_skip R 28 rfl (by kernel_rfl) (by rfl) HS0.out ?_
  try simp only [Act.put, List.getElem_toArray, List.getElem_cons_succ, List.getElem_cons_zero, List.setIfInBounds_toArray, List.set_cons_zero, List.set_cons_succ]
  refine anyI_skip R 29 rfl (by kernel_rfl) (by rfl) HS0.out ?_
  try simp only [Act.put, List.getElem_toArray, List.getElem_cons_succ, List.getElem_cons_zero, List.setIfInBounds_toArray, List.set_cons_zero, List.set_cons_succ]
  refine anyI_skip R 30 rfl (by kernel_rfl) (by rfl) HS0.out ?_
  try simp only [Act.put, List.getElem_toArray, List.getElem_cons_succ, List.getElem_cons_zero, List.setIfInBounds_toArray, List.set_cons_zero, List.set_cons_succ]
  refine' anyI_take R 31 rfl (v := ?_) (by kernel_rfl) (by rfl) (fun V hV => ?hy) HS0.out ?_
  case hy => ((try dsimp only at hV);  obtain ⟨q1, q2, q3, q4, q5, q6, _⟩ := hV; go_simp; try with_reducible rfl)
  try simp only [Act.put, List.getElem_toArray, List.getElem_cons_succ, List.getElem_cons_zero, List.setIfInBounds_toArray, List.set_cons_zero, List.set_cons_succ]
  refine' anyI_take R 32 rfl (v := ?_) (by kernel_rfl) (by rfl) (fun V hV => ?hy) HS0.out ?_
  case hy => ((try dsimp only at hV);  obtain ⟨q1, q2, q3, q4, q5, q6, _⟩ := hV; go_simp; try with_reducible rfl)
  try simp only [Act.put, List.getElem_toArray, List.getElem_cons_succ, List.getElem_cons_zero, List.setIfInBounds_toArray, List.set_cons_zero, List.set_cons_succ]
  refine anyI_tail (by kernel_rfl) ?_
  try simp only [List.drop_succ_cons, List.drop_zero]
  clear R
  go_wp2_with fail
  refine NoPanic.normal ?_
  go_wp2_with fail
  go_ret
  exact ⟨rfl, HS0.out.2.2.2.2.2.2⟩
set_option maxRecDepth 100000 in
set_option maxHeartbeats 1000000 in
theorem refCan_f (l d c l' d' c' : Int) (w : World) (HC : (Hid (∀ W, Calls Try.prog 30 #[.agg #[.int .i64 l, .int .i64 d, .int .i64 c]] W fun e w' => e = .returned (.bool true) ∧ Below W.heap.size W w'))) (HC' : (Hid (∀ W, Calls Try.prog 30 #[.agg #[.int .i64 l', .int .i64 d', .int .i64 c']] W fun e w' => e = .returned (.bool true) ∧ Below W.heap.size W w'))) (HE : Hid (¬ l = l' ∨ (l = l' ∧ ¬ d = d') ∨ (l = l' ∧ d = d' ∧ ¬ c = c'))) (hdd : d ≤ d') (hll : l ≤ l') (wd wd' : Int) (HW : (Hid (∀ W, Calls Try.prog 28 #[.agg #[.int .i64 l, .int .i64 d, .int .i64 c]] W fun e w' => e = .returned (.int .i64 wd) ∧ Below W.heap.size W w'))) (HW' : (Hid (∀ W, Calls Try.prog 28 #[.agg #[.int .i64 l', .int .i64 d', .int .i64 c']] W fun e w' => e = .returned (.int .i64 wd') ∧ Below W.heap.size W w'))) :
    Calls Try.prog 26 #[.agg #[.int .i64 l, .int .i64 d, .int .i64 c], .agg #[.int .i64 l', .int .i64 d', .int .i64 c']] w fun e w' => e = .returned (.bool (decide (wd ≤ wd'))) ∧ Below w.heap.size w w' := by
  have S0 := gs2_start w l d c l' d' c' 23 23 (0, 0) (0, 0)
  go_enter Try.func26, Try.ntmps26
  go_wp2_with fail
  go_name_world wz hwz
  rw [hwz] at S0
  clear hwz
  refine wp_region_noPanic (region_ord 33 [] (fun V => GS2 w w.heap.size w.heap.size (w.heap.size + 1) l d c l' d' c' V) (by kernel_rfl) (by kernel_rfl) (fun _ _ _ _ _ h => h) fun R => ?_)
  change anyI _ _ _ _ _ _ 33 _ _ wz.drew
  have HS0 := Lib.hid (show (fun V => GS2 w w.heap.size w.heap.size (w.heap.size + 1) l d c l' d' c' V) wz.drew from GS2.drew S0)
  refine' anyI_take R 0 rfl (v := ?_) (by kernel_rfl) (by rfl) (fun V hV => ?hy) HS0.out ?_
  case hy => ((try dsimp only at hV);  obtain ⟨q1, q2, q3, q4, q5, q6, _⟩ := hV; go_simp; try with_reducible rfl)
  try simp only [Act.put, List.getElem_toArray, List.getElem_cons_succ, List.getElem_cons_zero, List.setIfInBounds_toArray, List.set_cons_zero, List.set_cons_succ]
  refine anyI_one 1 (by kernel_rfl) rfl ?_
  try simp only [List.getElem_toArray, List.getElem_cons_succ, List.getElem_cons_zero]
  refine opE_step ?_
  rw [if_pos (by rfl)]
  go_simp
  go_at_call 30
  refine (HC.out _).mono ?_
  rintro e w1 ⟨rfl, hb⟩
  replace HS0 := Lib.hid (GS2.later HS0.out hb)
  clear hb
  dsimp only
  refine ⟨HS0.out, ?_⟩
  try simp only [Act.put, List.getElem_toArray, List.getElem_cons_succ, List.getElem_cons_zero, List.setIfInBounds_toArray, List.set_cons_zero, List.set_cons_succ]
  refine' anyI_take R 2 rfl (v := ?_) (by kernel_rfl) (by rfl) (fun V hV => ?hy) HS0.out ?_
  case hy => ((try dsimp only at hV);  obtain ⟨q1, q2, q3, q4, q5, q6, _⟩ := hV; go_simp; try with_reducible rfl)
  try simp only [Act.put, List.getElem_toArray, List.getElem_cons_succ, List.getElem_cons_zero, List.setIfInBounds_toArray, List.set_cons_zero, List.set_cons_succ]
  refine' anyI_take R 3 rfl (v := ?_) (by kernel_rfl) (by rfl) (fun V hV => ?hy) HS0.out ?_
  case hy => ((try dsimp only at hV);  obtain ⟨q1, q2, q3, q4, q5, q6, _⟩ := hV; go_simp; try with_reducible rfl)
  try simp only [Act.put, List.getElem_toArray, List.getElem_cons_succ, List.getElem_cons_zero, List.setIfInBounds_toArray, List.set_cons_zero, List.set_cons_succ]
  refine anyI_one 4 (by kernel_rfl) rfl ?_
  try simp only [List.getElem_toArray, List.getElem_cons_succ, List.getElem_cons_zero]
  refine opE_step ?_
  rw [if_pos (by rfl)]
  go_simp
  go_at_call 30
  refine (HC'.out _).mono ?_
  rintro e w4 ⟨rfl, hb⟩
  replace HS0 := Lib.hid (GS2.later HS0.out hb)
  clear hb
  dsimp only
  refine ⟨HS0.out, ?_⟩
  try simp only [Act.put, List.getElem_toArray, List.getElem_cons_succ, List.getElem_cons_zero, List.setIfInBounds_toArray, List.set_cons_zero, List.set_cons_succ]
  refine' anyI_take R 5 rfl (v := ?_) (by kernel_rfl) (by rfl) (fun V hV => ?hy) HS0.out ?_
  case hy => ((try dsimp only at hV);  obtain ⟨q1, q2, q3, q4, q5, q6, _⟩ := hV; go_simp; try with_reducible rfl)
  try simp only [Act.put, List.getElem_toArray, List.getElem_cons_succ, List.getElem_cons_zero, List.setIfInBounds_toArray, List.set_cons_zero, List.set_cons_succ]
  refine' anyI_take R 6 rfl (v := ?_) (by kernel_rfl) (by rfl) (fun V hV => ?hy) HS0.out ?_
  case hy => ((try dsimp only at hV);  obtain ⟨q1, q2, q3, q4, q5, q6, _⟩ := hV; go_simp; try with_reducible rfl)
  try simp only [Act.put, List.getElem_toArray, List.getElem_cons_succ, List.getElem_cons_zero, List.setIfInBounds_toArray, List.set_cons_zero, List.set_cons_succ]
  refine' anyI_take R 7 rfl (v := ?_) (by kernel_rfl) (by rfl) (fun V hV => ?hy) HS0.out ?_
  case hy => ((try dsimp only at hV);  obtain ⟨q1, q2, q3, q4, q5, q6, _⟩ := hV; go_simp; try with_reducible rfl)
  try simp only [Act.put, List.getElem_toArray, List.getElem_cons_succ, List.getElem_cons_zero, List.setIfInBounds_toArray, List.set_cons_zero, List.set_cons_succ]
  refine' anyI_take R 8 rfl (v := ?_) (by kernel_rfl) (by rfl) (fun V hV => ?hy) HS0.out ?_
  case hy => ((try dsimp only at hV);  obtain ⟨q1, q2, q3, q4, q5, q6, _⟩ := hV; go_simp; try with_reducible rfl)
  try simp only [Act.put, List.getElem_toArray, List.getElem_cons_succ, List.getElem_cons_zero, List.setIfInBounds_toArray, List.set_cons_zero, List.set_cons_succ]
  refine anyI_take R 9 rfl (v := .bool true) (by kernel_rfl) (by rfl) (fun V hV => ?_) HS0.out ?_
  · (try dsimp only at hV); obtain ⟨q1, q2, q3, q4, q5, q6, _⟩ := hV; rcases HE.out with h1 | ⟨rfl, h1⟩ | ⟨rfl, rfl, h1⟩ <;> go_simp
  try simp only [Act.put, List.getElem_toArray, List.getElem_cons_succ, List.getElem_cons_zero, List.setIfInBounds_toArray, List.set_cons_zero, List.set_cons_succ]
  refine' anyI_take R 10 rfl (v := ?_) (by kernel_rfl) (by rfl) (fun V hV => ?hy) HS0.out ?_
  case hy => ((try dsimp only at hV);  obtain ⟨q1, q2, q3, q4, q5, q6, _⟩ := hV; go_simp; try with_reducible rfl)
  try simp only [Act.put, List.getElem_toArray, List.getElem_cons_succ, List.getElem_cons_zero, List.setIfInBounds_toArray, List.set_cons_zero, List.set_cons_succ]
  refine' anyI_take R 11 rfl (v := ?_) (by kernel_rfl) (by rfl) (fun V hV => ?hy) HS0.out ?_
  case hy => ((try dsimp only at hV);  obtain ⟨q1, q2, q3, q4, q5, q6, _⟩ := hV; go_simp; try with_reducible rfl)
  try simp only [Act.put, List.getElem_toArray, List.getElem_cons_succ, List.getElem_cons_zero, List.setIfInBounds_toArray, List.set_cons_zero, List.set_cons_succ]
  refine' anyI_take R 12 rfl (v := ?_) (by kernel_rfl) (by rfl) (fun V hV => ?hy) HS0.out ?_
  case hy => ((try dsimp only at hV);  obtain ⟨q1, q2, q3, q4, q5, q6, _⟩ := hV; go_simp; try with_reducible rfl)
  try simp only [Act.put, List.getElem_toArray, List.getElem_cons_succ, List.getElem_cons_zero, List.setIfInBounds_toArray, List.set_cons_zero, List.set_cons_succ]
  refine' anyI_take R 13 rfl (v := ?_) (by kernel_rfl) (by rfl) (fun V hV => ?hy) HS0.out ?_
  case hy => ((try dsimp only at hV);  obtain ⟨q1, q2, q3, q4, q5, q6, _⟩ := hV; go_simp; try with_reducible rfl)
  try simp only [Act.put, List.getElem_toArray, List.getElem_cons_succ, List.getElem_cons_zero, List.setIfInBounds_toArray, List.set_cons_zero, List.set_cons_succ]
  refine' anyI_take R 14 rfl (v := ?_) (by kernel_rfl) (by rfl) (fun V hV => ?hy) HS0.out ?_
  case hy => ((try dsimp only at hV);  obtain ⟨q1, q2, q3, q4, q5, q6, _⟩ := hV; go_simp; try with_reducible rfl)
  try simp only [Act.put, List.getElem_toArray, List.getElem_cons_succ, List.getElem_cons_zero, List.setIfInBounds_toArray, List.set_cons_zero, List.set_cons_succ]
  refine' anyI_take R 15 rfl (v := ?_) (by kernel_rfl) (by rfl) (fun V hV => ?hy) HS0.out ?_
  case hy => ((try dsimp only at hV);  obtain ⟨q1, q2, q3, q4, q5, q6, _⟩ := hV; go_simp; try with_reducible rfl)
  try simp only [Act.put, List.getElem_toArray, List.getElem_cons_succ, List.getElem_cons_zero, List.setIfInBounds_toArray, List.set_cons_zero, List.set_cons_succ]
  refine anyI_take R 16 rfl (v := .bool true) (by kernel_rfl) (by rfl) (fun V hV => ?_) HS0.out ?_
  · (try dsimp only at hV); obtain ⟨q1, q2, q3, q4, q5, q6, _⟩ := hV; go_simp; try (simp [hdd]; done)
  try simp only [Act.put, List.getElem_toArray, List.getElem_cons_succ, List.getElem_cons_zero, List.setIfInBounds_toArray, List.set_cons_zero, List.set_cons_succ]
  refine' anyI_take R 17 rfl (v := ?_) (by kernel_rfl) (by rfl) (fun V hV => ?hy) HS0.out ?_
  case hy => ((try dsimp only at hV);  obtain ⟨q1, q2, q3, q4, q5, q6, _⟩ := hV; go_simp; try with_reducible rfl)
  try simp only [Act.put, List.getElem_toArray, List.getElem_cons_succ, List.getElem_cons_zero, List.setIfInBounds_toArray, List.set_cons_zero, List.set_cons_succ]
  refine' anyI_take R 18 rfl (v := ?_) (by kernel_rfl) (by rfl) (fun V hV => ?hy) HS0.out ?_
  case hy => ((try dsimp only at hV);  obtain ⟨q1, q2, q3, q4, q5, q6, _⟩ := hV; go_simp; try with_reducible rfl)
  try simp only [Act.put, List.getElem_toArray, List.getElem_cons_succ, List.getElem_cons_zero, List.setIfInBounds_toArray, List.set_cons_zero, List.set_cons_succ]
  refine' anyI_take R 19 rfl (v := ?_) (by kernel_rfl) (by rfl) (fun V hV => ?hy) HS0.out ?_
  case hy => ((try dsimp only at hV);  obtain ⟨q1, q2, q3, q4, q5, q6, _⟩ := hV; go_simp; try with_reducible rfl)
  try simp only [Act.put, List.getElem_toArray, List.getElem_cons_succ, List.getElem_cons_zero, List.setIfInBounds_toArray, List.set_cons_zero, List.set_cons_succ]
  refine' anyI_take R 20 rfl (v := ?_) (by kernel_rfl) (by rfl) (fun V hV => ?hy) HS0.out ?_
  case hy => ((try dsimp only at hV);  obtain ⟨q1, q2, q3, q4, q5, q6, _⟩ := hV; go_simp; try with_reducible rfl)
  try simp only [Act.put, List.getElem_toArray, List.getElem_cons_succ, List.getElem_cons_zero, List.setIfInBounds_toArray, List.set_cons_zero, List.set_cons_succ]
  refine' anyI_take R 21 rfl (v := ?_) (by kernel_rfl) (by rfl) (fun V hV => ?hy) HS0.out ?_
  case hy => ((try dsimp only at hV);  obtain ⟨q1, q2, q3, q4, q5, q6, _⟩ := hV; go_simp; try with_reducible rfl)
  try simp only [Act.put, List.getElem_toArray, List.getElem_cons_succ, List.getElem_cons_zero, List.setIfInBounds_toArray, List.set_cons_zero, List.set_cons_succ]
  refine' anyI_take R 22 rfl (v := ?_) (by kernel_rfl) (by rfl) (fun V hV => ?hy) HS0.out ?_
  case hy => ((try dsimp only at hV);  obtain ⟨q1, q2, q3, q4, q5, q6, _⟩ := hV; go_simp; try with_reducible rfl)
  try simp only [Act.put, List.getElem_toArray, List.getElem_cons_succ, List.getElem_cons_zero, List.setIfInBounds_toArray, List.set_cons_zero, List.set_cons_succ]
  refine anyI_take R 23 rfl (v := .bool true) (by kernel_rfl) (by rfl) (fun V hV => ?_) HS0.out ?_
  · (try dsimp only at hV); obtain ⟨q1, q2, q3, q4, q5, q6, _⟩ := hV; go_simp; try (simp [hll]; done)
  try simp only [Act.put, List.getElem_toArray, List.getElem_cons_succ, List.getElem_cons_zero, List.setIfInBounds_toArray, List.set_cons_zero, List.set_cons_succ]
  refine' anyI_take R 24 rfl (v := ?_) (by kernel_rfl) (by rfl) (fun V hV => ?hy) HS0.out ?_
  case hy => ((try dsimp only at hV);  obtain ⟨q1, q2, q3, q4, q5, q6, _⟩ := hV; go_simp; try with_reducible rfl)
  try simp only [Act.put, List.getElem_toArray, List.getElem_cons_succ, List.getElem_cons_zero, List.setIfInBounds_toArray, List.set_cons_zero, List.set_cons_succ]
  refine' anyI_take R 25 rfl (v := ?_) (by kernel_rfl) (by rfl) (fun V hV => ?hy) HS0.out ?_
  case hy => ((try dsimp only at hV);  obtain ⟨q1, q2, q3, q4, q5, q6, _⟩ := hV; go_simp; try with_reducible rfl)
  try simp only [Act.put, List.getElem_toArray, List.getElem_cons_succ, List.getElem_cons_zero, List.setIfInBounds_toArray, List.set_cons_zero, List.set_cons_succ]
  refine' anyI_take R 26 rfl (v := ?_) (by kernel_rfl) (by rfl) (fun V hV => ?hy) HS0.out ?_
  case hy => ((try dsimp only at hV);  obtain ⟨q1, q2, q3, q4, q5, q6, _⟩ := hV; go_simp; try with_reducible rfl)
  try simp only [Act.put, List.getElem_toArray, List.getElem_cons_succ, List.getElem_cons_zero, List.setIfInBounds_toArray, List.set_cons_zero, List.set_cons_succ]
  refine' anyI_take R 28 rfl (v := ?_) (by kernel_rfl) (by rfl) (fun V hV => ?hy) HS0.out ?_
  case hy => ((try dsimp only at hV);  obtain ⟨q1, q2, q3, q4, q5, q6, _⟩ := hV; go_simp; try with_reducible rfl)
  try simp only [Act.put, List.getElem_toArray, List.getElem_cons_succ, List.getElem_cons_zero, List.setIfInBounds_toArray, List.set_cons_zero, List.set_cons_succ]
  refine anyI_one 27 (by kernel_rfl) rfl ?_
  try simp only [List.getElem_toArray, List.getElem_cons_succ, List.getElem_cons_zero]
  refine opE_step ?_
  rw [if_pos (by rfl)]
  go_simp
  go_at_call 28
  refine (HW'.out _).mono ?_
  rintro e w27 ⟨rfl, hb⟩
  replace HS0 := Lib.hid (GS2.later HS0.out hb)
  clear hb
  dsimp only
  refine ⟨HS0.out, ?_⟩
  try simp only [Act.put, List.getElem_toArray, List.getElem_cons_succ, List.getElem_cons_zero, List.setIfInBounds_toArray, List.set_cons_zero, List.set_cons_succ]
  refine anyI_one 29 (by kernel_rfl) rfl ?_
  try simp only [List.getElem_toArray, List.getElem_cons_succ, List.getElem_cons_zero]
  refine opE_step ?_
  rw [if_pos (by rfl)]
  go_simp
  go_at_call 28
  refine (HW.out _).mono ?_
  rintro e w29 ⟨rfl, hb⟩
  replace HS0 := Lib.hid (GS2.later HS0.out hb)
  clear hb
  dsimp only
  refine ⟨HS0.out, ?_⟩
  try simp only [Act.put, List.getElem_toArray, List.getElem_cons_succ, List.getElem_cons_zero, List.setIfInBounds_toArray, List.set_cons_zero, List.set_cons_succ]
  refine' anyI_take R 30 rfl (v := ?_) (by kernel_rfl) (by rfl) (fun V hV => ?hy) HS0.out ?_
  case hy => ((try dsimp only at hV);  obtain ⟨q1, q2, q3, q4, q5, q6, _⟩ := hV; go_simp; try with_reducible rfl)
  try simp only [Act.put, List.getElem_toArray, List.getElem_cons_succ, List.getElem_cons_zero, List.setIfInBounds_toArray, List.set_cons_zero, List.set_cons_succ]
  refine' anyI_take R 31 rfl (v := ?_) (by kernel_rfl) (by rfl) (fun V hV => ?hy) HS0.out ?_
  case hy => ((try dsimp only at hV);  obtain ⟨q1, q2, q3, q4, q5, q6, _⟩ := hV; go_simp; try with_reducible rfl)
  try simp only [Act.put, List.getElem_toArray, List.getElem_cons_succ, List.getElem_cons_zero, List.setIfInBounds_toArray, List.set_cons_zero, List.set_cons_succ]
  refine' anyI_take R 32 rfl (v := ?_) (by kernel_rfl) (by rfl) (fun V hV => ?hy) HS0.out ?_
  case hy => ((try dsimp only at hV);  obtain ⟨q1, q2, q3, q4, q5, q6, _⟩ := hV; go_simp; try with_reducible rfl)
  try simp only [Act.put, List.getElem_toArray, List.getElem_cons_succ, List.getElem_cons_zero, List.setIfInBounds_toArray, List.set_cons_zero, List.set_cons_succ]
  refine anyI_tail (by kernel_rfl) ?_
  try simp only [List.drop_succ_cons, List.drop_zero]
  clear R
  go_wp2_with fail
  refine NoPanic.normal ?_
  go_wp2_with fail
  go_ret
  exact ⟨rfl, HS0.out.2.2.2.2.2.2⟩
set_option maxRecDepth 100000 in
set_option maxHeartbeats 1000000 in
theorem refCan_c (l d c : Int) (w : World) (HC : (Hid (∀ W, Calls Try.prog 30 #[.agg #[.int .i64 l, .int .i64 d, .int .i64 c]] W fun e w' => e = .returned (.bool true) ∧ Below W.heap.size W w'))) (HC' : (Hid (∀ W, Calls Try.prog 30 #[.agg #[.int .i64 l, .int .i64 d, .int .i64 c]] W fun e w' => e = .returned (.bool true) ∧ Below W.heap.size W w'))) :
    Calls Try.prog 26 #[.agg #[.int .i64 l, .int .i64 d, .int .i64 c], .agg #[.int .i64 l, .int .i64 d, .int .i64 c]] w fun e w' => e = .returned (.bool false) ∧ Below w.heap.size w w' := by
  have S0 := gs2_start w l d c l d c 23 23 (0, 0) (0, 0)
  go_enter Try.func26, Try.ntmps26
  go_wp2_with fail
  go_name_world wz hwz
  rw [hwz] at S0
  clear hwz
  refine wp_region_noPanic (region_ord 33 [] (fun V => GS2 w w.heap.size w.heap.size (w.heap.size + 1) l d c l d c V) (by kernel_rfl) (by kernel_rfl) (fun _ _ _ _ _ h => h) fun R => ?_)
  change anyI _ _ _ _ _ _ 33 _ _ wz.drew
  have HS0 := Lib.hid (show (fun V => GS2 w w.heap.size w.heap.size (w.heap.size + 1) l d c l d c V) wz.drew from GS2.drew S0)
  refine' anyI_take R 0 rfl (v := ?_) (by kernel_rfl) (by rfl) (fun V hV => ?hy) HS0.out ?_
  case hy => ((try dsimp only at hV);  obtain ⟨q1, q2, q3, q4, q5, q6, _⟩ := hV; go_simp; try with_reducible rfl)
  try simp only [Act.put, List.getElem_toArray, List.getElem_cons_succ, List.getElem_cons_zero, List.setIfInBounds_toArray, List.set_cons_zero, List.set_cons_succ]
  refine anyI_one 1 (by kernel_rfl) rfl ?_
  try simp only [List.getElem_toArray, List.getElem_cons_succ, List.getElem_cons_zero]
  refine opE_step ?_
  rw [if_pos (by rfl)]
  go_simp
  go_at_call 30
  refine (HC.out _).mono ?_
  rintro e w1 ⟨rfl, hb⟩
  replace HS0 := Lib.hid (GS2.later HS0.out hb)
  clear hb
  dsimp only
  refine ⟨HS0.out, ?_⟩
  try simp only [Act.put, List.getElem_toArray, List.getElem_cons_succ, List.getElem_cons_zero, List.setIfInBounds_toArray, List.set_cons_zero, List.set_cons_succ]
  refine' anyI_take R 2 rfl (v := ?_) (by kernel_rfl) (by rfl) (fun V hV => ?hy) HS0.out ?_
  case hy => ((try dsimp only at hV);  obtain ⟨q1, q2, q3, q4, q5, q6, _⟩ := hV; go_simp; try with_reducible rfl)
  try simp only [Act.put, List.getElem_toArray, List.getElem_cons_succ, List.getElem_cons_zero, List.setIfInBounds_toArray, List.set_cons_zero, List.set_cons_succ]
  refine' anyI_take R 3 rfl (v := ?_) (by kernel_rfl) (by rfl) (fun V hV => ?hy) HS0.out ?_
  case hy => ((try dsimp only at hV);  obtain ⟨q1, q2, q3, q4, q5, q6, _⟩ := hV; go_simp; try with_reducible rfl)
  try simp only [Act.put, List.getElem_toArray, List.getElem_cons_succ, List.getElem_cons_zero, List.setIfInBounds_toArray, List.set_cons_zero, List.set_cons_succ]
  refine anyI_one 4 (by kernel_rfl) rfl ?_
  try simp only [List.getElem_toArray, List.getElem_cons_succ, List.getElem_cons_zero]
  refine opE_step ?_
  rw [if_pos (by rfl)]
  go_simp
  go_at_call 30
  refine (HC'.out _).mono ?_
  rintro e w4 ⟨rfl, hb⟩
  replace HS0 := Lib.hid (GS2.later HS0.out hb)
  clear hb
  dsimp only
  refine ⟨HS0.out, ?_⟩
  try simp only [Act.put, List.getElem_toArray, List.getElem_cons_succ, List.getElem_cons_zero, List.setIfInBounds_toArray, List.set_cons_zero, List.set_cons_succ]
  refine' anyI_take R 5 rfl (v := ?_) (by kernel_rfl) (by rfl) (fun V hV => ?hy) HS0.out ?_
  case hy => ((try dsimp only at hV);  obtain ⟨q1, q2, q3, q4, q5, q6, _⟩ := hV; go_simp; try with_reducible rfl)
  try simp only [Act.put, List.getElem_toArray, List.getElem_cons_succ, List.getElem_cons_zero, List.setIfInBounds_toArray, List.set_cons_zero, List.set_cons_succ]
  refine' anyI_take R 6 rfl (v := ?_) (by kernel_rfl) (by rfl) (fun V hV => ?hy) HS0.out ?_
  case hy => ((try dsimp only at hV);  obtain ⟨q1, q2, q3, q4, q5, q6, _⟩ := hV; go_simp; try with_reducible rfl)
  try simp only [Act.put, List.getElem_toArray, List.getElem_cons_succ, List.getElem_cons_zero, List.setIfInBounds_toArray, List.set_cons_zero, List.set_cons_succ]
  refine' anyI_take R 7 rfl (v := ?_) (by kernel_rfl) (by rfl) (fun V hV => ?hy) HS0.out ?_
  case hy => ((try dsimp only at hV);  obtain ⟨q1, q2, q3, q4, q5, q6, _⟩ := hV; go_simp; try with_reducible rfl)
  try simp only [Act.put, List.getElem_toArray, List.getElem_cons_succ, List.getElem_cons_zero, List.setIfInBounds_toArray, List.set_cons_zero, List.set_cons_succ]
  refine' anyI_take R 8 rfl (v := ?_) (by kernel_rfl) (by rfl) (fun V hV => ?hy) HS0.out ?_
  case hy => ((try dsimp only at hV);  obtain ⟨q1, q2, q3, q4, q5, q6, _⟩ := hV; go_simp; try with_reducible rfl)
  try simp only [Act.put, List.getElem_toArray, List.getElem_cons_succ, List.getElem_cons_zero, List.setIfInBounds_toArray, List.set_cons_zero, List.set_cons_succ]
  refine anyI_take R 9 rfl (v := .bool false) (by kernel_rfl) (by rfl) (fun V hV => ?_) HS0.out ?_
  · (try dsimp only at hV); obtain ⟨q1, q2, q3, q4, q5, q6, _⟩ := hV; go_simp
  try simp only [Act.put, List.getElem_toArray, List.getElem_cons_succ, List.getElem_cons_zero, List.setIfInBounds_toArray, List.set_cons_zero, List.set_cons_succ]
  refine' anyI_take R 10 rfl (v := ?_) (by kernel_rfl) (by rfl) (fun V hV => ?hy) HS0.out ?_
  case hy => ((try dsimp only at hV);  obtain ⟨q1, q2, q3, q4, q5, q6, _⟩ := hV; go_simp; try with_reducible rfl)
  try simp only [Act.put, List.getElem_toArray, List.getElem_cons_succ, List.getElem_cons_zero, List.setIfInBounds_toArray, List.set_cons_zero, List.set_cons_succ]
  refine' anyI_take R 11 rfl (v := ?_) (by kernel_rfl) (by rfl) (fun V hV => ?hy) HS0.out ?_
  case hy => ((try dsimp only at hV);  obtain ⟨q1, q2, q3, q4, q5, q6, _⟩ := hV; go_simp; try with_reducible rfl)
  try simp only [Act.put, List.getElem_toArray, List.getElem_cons_succ, List.getElem_cons_zero, List.setIfInBounds_toArray, List.set_cons_zero, List.set_cons_succ]
  refine anyI_skip R 12 rfl (by kernel_rfl) (by rfl) HS0.out ?_
  try simp only [Act.put, List.getElem_toArray, List.getElem_cons_succ, List.getElem_cons_zero, List.setIfInBounds_toArray, List.set_cons_zero, List.set_cons_succ]
  refine anyI_skip R 13 rfl (by kernel_rfl) (by rfl) HS0.out ?_
  try simp only [Act.put, List.getElem_toArray, List.getElem_cons_succ, List.getElem_cons_zero, List.setIfInBounds_toArray, List.set_cons_zero, List.set_cons_succ]
  refine anyI_skip R 14 rfl (by kernel_rfl) (by rfl) HS0.out ?_
  try simp only [Act.put, List.getElem_toArray, List.getElem_cons_succ, List.getElem_cons_zero, List.setIfInBounds_toArray, List.set_cons_zero, List.set_cons_succ]
  refine anyI_skip R 15 rfl (by kernel_rfl) (by rfl) HS0.out ?_
  try simp only [Act.put, List.getElem_toArray, List.getElem_cons_succ, List.getElem_cons_zero, List.setIfInBounds_toArray, List.set_cons_zero, List.set_cons_succ]
  refine anyI_skip R 16 rfl (by kernel_rfl) (by rfl) HS0.out ?_
  try simp only [Act.put, List.getElem_toArray, List.getElem_cons_succ, List.getElem_cons_zero, List.setIfInBounds_toArray, List.set_cons_zero, List.set_cons_succ]
  refine' anyI_take R 17 rfl (v := ?_) (by kernel_rfl) (by rfl) (fun V hV => ?hy) HS0.out ?_
  case hy => ((try dsimp only at hV);  obtain ⟨q1, q2, q3, q4, q5, q6, _⟩ := hV; go_simp; try with_reducible rfl)
  try simp only [Act.put, List.getElem_toArray, List.getElem_cons_succ, List.getElem_cons_zero, List.setIfInBounds_toArray, List.set_cons_zero, List.set_cons_succ]
  refine' anyI_take R 18 rfl (v := ?_) (by kernel_rfl) (by rfl) (fun V hV => ?hy) HS0.out ?_
  case hy => ((try dsimp only at hV);  obtain ⟨q1, q2, q3, q4, q5, q6, _⟩ := hV; go_simp; try with_reducible rfl)
  try simp only [Act.put, List.getElem_toArray, List.getElem_cons_succ, List.getElem_cons_zero, List.setIfInBounds_toArray, List.set_cons_zero, List.set_cons_succ]
  refine anyI_skip R 19 rfl (by kernel_rfl) (by rfl) HS0.out ?_
  try simp only [Act.put, List.getElem_toArray, List.getElem_cons_succ, List.getElem_cons_zero, List.setIfInBounds_toArray, List.set_cons_zero, List.set_cons_succ]
  refine anyI_skip R 20 rfl (by kernel_rfl) (by rfl) HS0.out ?_
  try simp only [Act.put, List.getElem_toArray, List.getElem_cons_succ, List.getElem_cons_zero, List.setIfInBounds_toArray, List.set_cons_zero, List.set_cons_succ]
  refine anyI_skip R 21 rfl (by kernel_rfl) (by rfl) HS0.out ?_
  try simp only [Act.put, List.getElem_toArray, List.getElem_cons_succ, List.getElem_cons_zero, List.setIfInBounds_toArray, List.set_cons_zero, List.set_cons_succ]
  refine anyI_skip R 22 rfl (by kernel_rfl) (by rfl) HS0.out ?_
  try simp only [Act.put, List.getElem_toArray, List.getElem_cons_succ, List.getElem_cons_zero, List.setIfInBounds_toArray, List.set_cons_zero, List.set_cons_succ]
  refine anyI_skip R 23 rfl (by kernel_rfl) (by rfl) HS0.out ?_
  try simp only [Act.put, List.getElem_toArray, List.getElem_cons_succ, List.getElem_cons_zero, List.setIfInBounds_toArray, List.set_cons_zero, List.set_cons_succ]
  refine' anyI_take R 24 rfl (v := ?_) (by kernel_rfl) (by rfl) (fun V hV => ?hy) HS0.out ?_
  case hy => ((try dsimp only at hV);  obtain ⟨q1, q2, q3, q4, q5, q6, _⟩ := hV; go_simp; try with_reducible rfl)
  try simp only [Act.put, List.getElem_toArray, List.getElem_cons_succ, List.getElem_cons_zero, List.setIfInBounds_toArray, List.set_cons_zero, List.set_cons_succ]
  refine' anyI_take R 25 rfl (v := ?_) (by kernel_rfl) (by rfl) (fun V hV => ?hy) HS0.out ?_
  case hy => ((try dsimp only at hV);  obtain ⟨q1, q2, q3, q4, q5, q6, _⟩ := hV; go_simp; try with_reducible rfl)
  try simp only [Act.put, List.getElem_toArray, List.getElem_cons_succ, List.getElem_cons_zero, List.setIfInBounds_toArray, List.set_cons_zero, List.set_cons_succ]
  refine anyI_skip R 26 rfl (by kernel_rfl) (by rfl) HS0.out ?_
  try simp only [Act.put, List.getElem_toArray, List.getElem_cons_succ, List.getElem_cons_zero, List.setIfInBounds_toArray, List.set_cons_zero, List.set_cons_succ]
  refine anyI_skip R 27 rfl (by kernel_rfl) (by rfl) HS0.out ?_
  try simp only [Act.put, List.getElem_toArray, List.getElem_cons_succ, List.getElem_cons_zero, List.setIfInBounds_toArray, List.set_cons_zero, List.set_cons_succ]
  refine anyI_skip R 28 rfl (by kernel_rfl) (by rfl) HS0.out ?_
  try simp only [Act.put, List.getElem_toArray, List.getElem_cons_succ, List.getElem_cons_zero, List.setIfInBounds_toArray, List.set_cons_zero, List.set_cons_succ]
  refine anyI_skip R 29 rfl (by kernel_rfl) (by rfl) HS0.out ?_
  try simp only [Act.put, List.getElem_toArray, List.getElem_cons_succ, List.getElem_cons_zero, List.setIfInBounds_toArray, List.set_cons_zero, List.set_cons_succ]
  refine anyI_skip R 30 rfl (by kernel_rfl) (by rfl) HS0.out ?_
  try simp only [Act.put, List.getElem_toArray, List.getElem_cons_succ, List.getElem_cons_zero, List.setIfInBounds_toArray, List.set_cons_zero, List.set_cons_succ]
  refine' anyI_take R 31 rfl (v := ?_) (by kernel_rfl) (by rfl) (fun V hV => ?hy) HS0.out ?_
  case hy => ((try dsimp only at hV);  obtain ⟨q1, q2, q3, q4, q5, q6, _⟩ := hV; go_simp; try with_reducible rfl)
  try simp only [Act.put, List.getElem_toArray, List.getElem_cons_succ, List.getElem_cons_zero, List.setIfInBounds_toArray, List.set_cons_zero, List.set_cons_succ]
  refine' anyI_take R 32 rfl (v := ?_) (by kernel_rfl) (by rfl) (fun V hV => ?hy) HS0.out ?_
  case hy => ((try dsimp only at hV);  obtain ⟨q1, q2, q3, q4, q5, q6, _⟩ := hV; go_simp; try with_reducible rfl)
  try simp only [Act.put, List.getElem_toArray, List.getElem_cons_succ, List.getElem_cons_zero, List.setIfInBounds_toArray, List.set_cons_zero, List.set_cons_succ]
  refine anyI_tail (by kernel_rfl) ?_
  try simp only [List.drop_succ_cons, List.drop_zero]
  clear R
  go_wp2_with fail
  refine NoPanic.normal ?_
  go_wp2_with fail
  go_ret
  exact ⟨rfl, HS0.out.2.2.2.2.2.2⟩
theorem refCan_any (l d c l' d' c' : Int) (w : World) (hl : -9223372036854775808 ≤ l ∧ l ≤ 9223372036854775807) (hd : -9223372036854775808 ≤ d ∧ d ≤ 9223372036854775807) (hc : -9223372036854775808 ≤ c ∧ c ≤ 9223372036854775807) (hl' : -9223372036854775808 ≤ l' ∧ l' ≤ 9223372036854775807) (hd' : -9223372036854775808 ≤ d' ∧ d' ≤ 9223372036854775807) (hc' : -9223372036854775808 ≤ c' ∧ c' ≤ 9223372036854775807) :
    Calls Try.prog 26 #[.agg #[.int .i64 l, .int .i64 d, .int .i64 c], .agg #[.int .i64 l', .int .i64 d', .int .i64 c']] w fun e w' => e = .returned (.bool (gCan l d c l' d' c')) ∧ Below w.heap.size w w' := by
  cases hG : gOk l d c
  · rw [show gCan l d c l' d' c' = false by unfold gCan; rw [hG]; rfl]
    exact refCan_a l d c l' d' c' w (Lib.hid fun W => refCheck_no l d c W (Lib.hid hG) hl hd hc)
  have HC := Lib.hid fun W => refCheck_yes l d c W (Lib.hid hG) hl hd hc
  cases hG' : gOk l' d' c'
  · rw [show gCan l d c l' d' c' = false by unfold gCan; rw [hG, hG']; rfl]
    exact refCan_b l d c l' d' c' w HC (Lib.hid fun W => refCheck_no l' d' c' W (Lib.hid hG') hl' hd' hc')
  have HC' := Lib.hid fun W => refCheck_yes l' d' c' W (Lib.hid hG') hl' hd' hc'
  cases hE : gEq l d c l' d' c'
  · have hE' := gEq_no hE
    have HE := Lib.hid (show ¬ l = l' ∨ (l = l' ∧ ¬ d = d') ∨ (l = l' ∧ d = d' ∧ ¬ c = c') by omega)
    rw [gCan_ok hG hG' hE, gGe_eq]
    by_cases hdd : d ≤ d'
    · by_cases hll : l ≤ l'
      · rw [show decide (d ≤ d' ∧ l ≤ l' ∧ gWid l d c ≤ gWid l' d' c') = decide (gWid l d c ≤ gWid l' d' c') by simp [hdd, hll]]
        exact refCan_f l d c l' d' c' w HC HC' HE hdd hll _ _ (Lib.hid fun W => refWidth_any l d c W hl hd hc) (Lib.hid fun W => refWidth_any l' d' c' W hl' hd' hc')
      · rw [decide_eq_false (by omega)]
        exact refCan_e l d c l' d' c' w HC HC' HE hdd hll
    · rw [decide_eq_false (by omega)]
      exact refCan_d l d c l' d' c' w HC HC' HE hdd
  · obtain ⟨rfl, rfl, rfl⟩ := gEq_yes hE
    rw [show gCan l d c l d c = false by unfold gCan; rw [hE, Bool.not_true, Bool.and_false, Bool.false_and]]
    exact refCan_c l d c w HC HC'
end Go.Proofs.Ytabeadbnoifedaa
