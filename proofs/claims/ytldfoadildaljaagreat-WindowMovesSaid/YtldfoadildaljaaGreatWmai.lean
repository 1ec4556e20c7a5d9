/- Texts put together: PlayGood, RefCan, PlayPair. -/
import Derived.Test.YtldfoadildaljaaGreatWmab
import Derived.Test.YtldfoadildaljaaGreatWmag
import Derived.Test.YtldfoadildaljaaGreatWmaf
import Derived.StillTailTactics
section
set_option linter.unusedVariables false
set_option linter.unusedSimpArgs false
namespace Go.Proofs.YtldfoadildaljaaGreat
open Go.RowKit
end Go.Proofs.YtldfoadildaljaaGreat
end
section
set_option linter.unusedVariables false
set_option linter.unusedSimpArgs false
namespace Go.Proofs.YtldfoadildaljaaGreat
open Go.RowKit
set_option maxRecDepth 100000 in
set_option maxHeartbeats 1000000 in
theorem refCan_a (l d c l' d' c':Int) (w:World) (HC:(Hid (∀ W,Calls Tryz.prog 42 #[.agg #[.int .i64 l,.int .i64 d,.int .i64 c]] W fun e w'=>e=.returned (.bool false)∧Below W.heap.size W w'))) :
    Calls Tryz.prog 25 #[.agg #[.int .i64 l,.int .i64 d,.int .i64 c],.agg #[.int .i64 l',.int .i64 d',.int .i64 c']] w fun e w'=>e=.returned (.bool false)∧Below w.heap.size w w':=by
 have S0:=gs2_start w l d c l' d' c' 25 25 (0,0) (0,0)
 go_enter Tryz.func25,Tryz.ntmps25
 go_wp2_with fail
 go_name_world wz hwz
 rw [hwz] at S0
 clear hwz
 refine wp_region_noPanic (region_ord 33 [] (fun V=>GS2 w w.heap.size w.heap.size (w.heap.size + 1) l d c l' d' c' V) (by kernel_rfl) (by kernel_rfl) (fun _ _ _ _ _ h=>h) fun R=>?_)
 change anyI _ _ _ _ _ _ 33 _ _ wz.drew
 have HS0:=Lib.hid (show (fun V=>GS2 w w.heap.size w.heap.size (w.heap.size + 1) l d c l' d' c' V) wz.drew from GS2.drew S0)
 refine' anyI_take R 0 rfl (v:=?_) (by kernel_rfl) (by rfl) (fun V hV=>?hy) HS0.out ?_
 case hy=>((try dsimp only at hV); obtain ⟨q1,q2,q3,q4,q5,q6,_⟩:=hV;go_simp;try with_reducible rfl)
 try simp only [Act.put,List.getElem_toArray,List.getElem_cons_succ,List.getElem_cons_zero,List.setIfInBounds_toArray,List.set_cons_zero,List.set_cons_succ]
 refine anyI_one 1 (by kernel_rfl) rfl ?_
 try simp only [List.getElem_toArray,List.getElem_cons_succ,List.getElem_cons_zero]
 refine opE_step ?_
 rw [if_pos (by rfl)]
 go_simp
 go_at_call 42
 refine (HC.out _).mono ?_
 rintro e w1 ⟨rfl,hb⟩
 replace HS0:=Lib.hid (GS2.later HS0.out hb)
 clear hb
 dsimp only
 refine ⟨HS0.out,?_⟩
 try simp only [Act.put,List.getElem_toArray,List.getElem_cons_succ,List.getElem_cons_zero,List.setIfInBounds_toArray,List.set_cons_zero,List.set_cons_succ]
 refine' anyI_take R 2 rfl (v:=?_) (by kernel_rfl) (by rfl) (fun V hV=>?hy) HS0.out ?_
 case hy=>((try dsimp only at hV); obtain ⟨q1,q2,q3,q4,q5,q6,_⟩:=hV;go_simp;try with_reducible rfl)
 try simp only [Act.put,List.getElem_toArray,List.getElem_cons_succ,List.getElem_cons_zero,List.setIfInBounds_toArray,List.set_cons_zero,List.set_cons_succ]
 refine anyI_skip R 3 rfl (by kernel_rfl) (by rfl) HS0.out ?_
 try simp only [Act.put,List.getElem_toArray,List.getElem_cons_succ,List.getElem_cons_zero,List.setIfInBounds_toArray,List.set_cons_zero,List.set_cons_succ]
 refine anyI_skip R 4 rfl (by kernel_rfl) (by rfl) HS0.out ?_
 try simp only [Act.put,List.getElem_toArray,List.getElem_cons_succ,List.getElem_cons_zero,List.setIfInBounds_toArray,List.set_cons_zero,List.set_cons_succ]
 refine' anyI_take R 5 rfl (v:=?_) (by kernel_rfl) (by rfl) (fun V hV=>?hy) HS0.out ?_
 case hy=>((try dsimp only at hV); obtain ⟨q1,q2,q3,q4,q5,q6,_⟩:=hV;go_simp;try with_reducible rfl)
 try simp only [Act.put,List.getElem_toArray,List.getElem_cons_succ,List.getElem_cons_zero,List.setIfInBounds_toArray,List.set_cons_zero,List.set_cons_succ]
 refine' anyI_take R 6 rfl (v:=?_) (by kernel_rfl) (by rfl) (fun V hV=>?hy) HS0.out ?_
 case hy=>((try dsimp only at hV); obtain ⟨q1,q2,q3,q4,q5,q6,_⟩:=hV;go_simp;try with_reducible rfl)
 try simp only [Act.put,List.getElem_toArray,List.getElem_cons_succ,List.getElem_cons_zero,List.setIfInBounds_toArray,List.set_cons_zero,List.set_cons_succ]
 refine anyI_skip R 7 rfl (by kernel_rfl) (by rfl) HS0.out ?_
 try simp only [Act.put,List.getElem_toArray,List.getElem_cons_succ,List.getElem_cons_zero,List.setIfInBounds_toArray,List.set_cons_zero,List.set_cons_succ]
 refine anyI_skip R 8 rfl (by kernel_rfl) (by rfl) HS0.out ?_
 try simp only [Act.put,List.getElem_toArray,List.getElem_cons_succ,List.getElem_cons_zero,List.setIfInBounds_toArray,List.set_cons_zero,List.set_cons_succ]
 refine anyI_skip R 9 rfl (by kernel_rfl) (by rfl) HS0.out ?_
 try simp only [Act.put,List.getElem_toArray,List.getElem_cons_succ,List.getElem_cons_zero,List.setIfInBounds_toArray,List.set_cons_zero,List.set_cons_succ]
 refine' anyI_take R 10 rfl (v:=?_) (by kernel_rfl) (by rfl) (fun V hV=>?hy) HS0.out ?_
 case hy=>((try dsimp only at hV); obtain ⟨q1,q2,q3,q4,q5,q6,_⟩:=hV;go_simp;try with_reducible rfl)
 try simp only [Act.put,List.getElem_toArray,List.getElem_cons_succ,List.getElem_cons_zero,List.setIfInBounds_toArray,List.set_cons_zero,List.set_cons_succ]
 refine' anyI_take R 11 rfl (v:=?_) (by kernel_rfl) (by rfl) (fun V hV=>?hy) HS0.out ?_
 case hy=>((try dsimp only at hV); obtain ⟨q1,q2,q3,q4,q5,q6,_⟩:=hV;go_simp;try with_reducible rfl)
 try simp only [Act.put,List.getElem_toArray,List.getElem_cons_succ,List.getElem_cons_zero,List.setIfInBounds_toArray,List.set_cons_zero,List.set_cons_succ]
 refine anyI_skip R 12 rfl (by kernel_rfl) (by rfl) HS0.out ?_
 try simp only [Act.put,List.getElem_toArray,List.getElem_cons_succ,List.getElem_cons_zero,List.setIfInBounds_toArray,List.set_cons_zero,List.set_cons_succ]
 refine anyI_skip R 13 rfl (by kernel_rfl) (by rfl) HS0.out ?_
 try simp only [Act.put,List.getElem_toArray,List.getElem_cons_succ,List.getElem_cons_zero,List.setIfInBounds_toArray,List.set_cons_zero,List.set_cons_succ]
 refine anyI_skip R 14 rfl (by kernel_rfl) (by rfl) HS0.out ?_
 try simp only [Act.put,List.getElem_toArray,List.getElem_cons_succ,List.getElem_cons_zero,List.setIfInBounds_toArray,List.set_cons_zero,List.set_cons_succ]
 refine anyI_skip R 15 rfl (by kernel_rfl) (by rfl) HS0.out ?_
 try simp only [Act.put,List.getElem_toArray,List.getElem_cons_succ,List.getElem_cons_zero,List.setIfInBounds_toArray,List.set_cons_zero,List.set_cons_succ]
 refine anyI_skip R 16 rfl (by kernel_rfl) (by rfl) HS0.out ?_
 try simp only [Act.put,List.getElem_toArray,List.getElem_cons_succ,List.getElem_cons_zero,List.setIfInBounds_toArray,List.set_cons_zero,List.set_cons_succ]
 refine' anyI_take R 17 rfl (v:=?_) (by kernel_rfl) (by rfl) (fun V hV=>?hy) HS0.out ?_
 case hy=>((try dsimp only at hV); obtain ⟨q1,q2,q3,q4,q5,q6,_⟩:=hV;go_simp;try with_reducible rfl)
 try simp only [Act.put,List.getElem_toArray,List.getElem_cons_succ,List.getElem_cons_zero,List.setIfInBounds_toArray,List.set_cons_zero,List.set_cons_succ]
 refine' anyI_take R 18 rfl (v:=?_) (by kernel_rfl) (by rfl) (fun V hV=>?hy) HS0.out ?_
 case hy=>((try dsimp only at hV); obtain ⟨q1,q2,q3,q4,q5,q6,_⟩:=hV;go_simp;try with_reducible rfl)
 try simp only [Act.put,List.getElem_toArray,List.getElem_cons_succ,List.getElem_cons_zero,List.setIfInBounds_toArray,List.set_cons_zero,List.set_cons_succ]
 refine anyI_skip R 19 rfl (by kernel_rfl) (by rfl) HS0.out ?_
 try simp only [Act.put,List.getElem_toArray,List.getElem_cons_succ,List.getElem_cons_zero,List.setIfInBounds_toArray,List.set_cons_zero,List.set_cons_succ]
 refine anyI_skip R 20 rfl (by kernel_rfl) (by rfl) HS0.out ?_
 try simp only [Act.put,List.getElem_toArray,List.getElem_cons_succ,List.getElem_cons_zero,List.setIfInBounds_toArray,List.set_cons_zero,List.set_cons_succ]
 refine anyI_skip R 21 rfl (by kernel_rfl) (by rfl) HS0.out ?_
 try simp only [Act.put,List.getElem_toArray,List.getElem_cons_succ,List.getElem_cons_zero,List.setIfInBounds_toArray,List.set_cons_zero,List.set_cons_succ]
 refine anyI_skip R 22 rfl (by kernel_rfl) (by rfl) HS0.out ?_
 try simp only [Act.put,List.getElem_toArray,List.getElem_cons_succ,List.getElem_cons_zero,List.setIfInBounds_toArray,List.set_cons_zero,List.set_cons_succ]
 refine anyI_skip R 23 rfl (by kernel_rfl) (by rfl) HS0.out ?_
 try simp only [Act.put,List.getElem_toArray,List.getElem_cons_succ,List.getElem_cons_zero,List.setIfInBounds_toArray,List.set_cons_zero,List.set_cons_succ]
 refine' anyI_take R 24 rfl (v:=?_) (by kernel_rfl) (by rfl) (fun V hV=>?hy) HS0.out ?_
 case hy=>((try dsimp only at hV); obtain ⟨q1,q2,q3,q4,q5,q6,_⟩:=hV;go_simp;try with_reducible rfl)
 try simp only [Act.put,List.getElem_toArray,List.getElem_cons_succ,List.getElem_cons_zero,List.setIfInBounds_toArray,List.set_cons_zero,List.set_cons_succ]
 refine' anyI_take R 25 rfl (v:=?_) (by kernel_rfl) (by rfl) (fun V hV=>?hy) HS0.out ?_
 case hy=>((try dsimp only at hV); obtain ⟨q1,q2,q3,q4,q5,q6,_⟩:=hV;go_simp;try with_reducible rfl)
 try simp only [Act.put,List.getElem_toArray,List.getElem_cons_succ,List.getElem_cons_zero,List.setIfInBounds_toArray,List.set_cons_zero,List.set_cons_succ]
 refine anyI_skip R 26 rfl (by kernel_rfl) (by rfl) HS0.out ?_
 try simp only [Act.put,List.getElem_toArray,List.getElem_cons_succ,List.getElem_cons_zero,List.setIfInBounds_toArray,List.set_cons_zero,List.set_cons_succ]
 refine anyI_skip R 27 rfl (by kernel_rfl) (by rfl) HS0.out ?_
 try simp only [Act.put,List.getElem_toArray,List.getElem_cons_succ,List.getElem_cons_zero,List.setIfInBounds_toArray,List.set_cons_zero,List.set_cons_succ]
 refine anyI_skip R 28 rfl (by kernel_rfl) (by rfl) HS0.out ?_
 try simp only [Act.put,List.getElem_toArray,List.getElem_cons_succ,List.getElem_cons_zero,List.setIfInBounds_toArray,List.set_cons_zero,List.set_cons_succ]
 refine anyI_skip R 29 rfl (by kernel_rfl) (by rfl) HS0.out ?_
 try simp only [Act.put,List.getElem_toArray,List.getElem_cons_succ,List.getElem_cons_zero,List.setIfInBounds_toArray,List.set_cons_zero,List.set_cons_succ]
 refine anyI_skip R 30 rfl (by kernel_rfl) (by rfl) HS0.out ?_
 try simp only [Act.put,List.getElem_toArray,List.getElem_cons_succ,List.getElem_cons_zero,List.setIfInBounds_toArray,List.set_cons_zero,List.set_cons_succ]
 refine' anyI_take R 31 rfl (v:=?_) (by kernel_rfl) (by rfl) (fun V hV=>?hy) HS0.out ?_
 case hy=>((try dsimp only at hV); obtain ⟨q1,q2,q3,q4,q5,q6,_⟩:=hV;go_simp;try with_reducible rfl)
 try simp only [Act.put,List.getElem_toArray,List.getElem_cons_succ,List.getElem_cons_zero,List.setIfInBounds_toArray,List.set_cons_zero,List.set_cons_succ]
 refine' anyI_take R 32 rfl (v:=?_) (by kernel_rfl) (by rfl) (fun V hV=>?hy) HS0.out ?_
 case hy=>((try dsimp only at hV); obtain ⟨q1,q2,q3,q4,q5,q6,_⟩:=hV;go_simp;try with_reducible rfl)
 try simp only [Act.put,List.getElem_toArray,List.getElem_cons_succ,List.getElem_cons_zero,List.setIfInBounds_toArray,List.set_cons_zero,List.set_cons_succ]
 refine anyI_tail (by kernel_rfl) ?_
 try simp only [List.drop_succ_cons,List.drop_zero]
 clear R
 go_wp2_with fail
 refine NoPanic.normal ?_
 go_wp2_with fail
 go_ret
 exact ⟨rfl,HS0.out.2.2.2.2.2.2⟩
set_option maxRecDepth 100000 in
set_option maxHeartbeats 1000000 in
theorem refCan_b (l d c l' d' c':Int) (w:World) (HC:(Hid (∀ W,Calls Tryz.prog 42 #[.agg #[.int .i64 l,.int .i64 d,.int .i64 c]] W fun e w'=>e=.returned (.bool true)∧Below W.heap.size W w'))) (HC':(Hid (∀ W,Calls Tryz.prog 42 #[.agg #[.int .i64 l',.int .i64 d',.int .i64 c']] W fun e w'=>e=.returned (.bool false)∧Below W.heap.size W w'))) :
    Calls Tryz.prog 25 #[.agg #[.int .i64 l,.int .i64 d,.int .i64 c],.agg #[.int .i64 l',.int .i64 d',.int .i64 c']] w fun e w'=>e=.returned (.bool false)∧Below w.heap.size w w':=by
 have S0:=gs2_start w l d c l' d' c' 25 25 (0,0) (0,0)
 go_enter Tryz.func25,Tryz.ntmps25
 go_wp2_with fail
 go_name_world wz hwz
 rw [hwz] at S0
 clear hwz
 refine wp_region_noPanic (region_ord 33 [] (fun V=>GS2 w w.heap.size w.heap.size (w.heap.size + 1) l d c l' d' c' V) (by kernel_rfl) (by kernel_rfl) (fun _ _ _ _ _ h=>h) fun R=>?_)
 change anyI _ _ _ _ _ _ 33 _ _ wz.drew
 have HS0:=Lib.hid (show (fun V=>GS2 w w.heap.size w.heap.size (w.heap.size + 1) l d c l' d' c' V) wz.drew from GS2.drew S0)
 refine' anyI_take R 0 rfl (v:=?_) (by kernel_rfl) (by rfl) (fun V hV=>?hy) HS0.out ?_
 case hy=>((try dsimp only at hV); obtain ⟨q1,q2,q3,q4,q5,q6,_⟩:=hV;go_simp;try with_reducible rfl)
 try simp only [Act.put,List.getElem_toArray,List.getElem_cons_succ,List.getElem_cons_zero,List.setIfInBounds_toArray,List.set_cons_zero,List.set_cons_succ]
 refine anyI_one 1 (by kernel_rfl) rfl ?_
 try simp only [List.getElem_toArray,List.getElem_cons_succ,List.getElem_cons_zero]
 refine opE_step ?_
 rw [if_pos (by rfl)]
 go_simp
 go_at_call 42
 refine (HC.out _).mono ?_
 rintro e w1 ⟨rfl,hb⟩
 replace HS0:=Lib.hid (GS2.later HS0.out hb)
 clear hb
 dsimp only
 refine ⟨HS0.out,?_⟩
 try simp only [Act.put,List.getElem_toArray,List.getElem_cons_succ,List.getElem_cons_zero,List.setIfInBounds_toArray,List.set_cons_zero,List.set_cons_succ]
 refine' anyI_take R 2 rfl (v:=?_) (by kernel_rfl) (by rfl) (fun V hV=>?hy) HS0.out ?_
 case hy=>((try dsimp only at hV); obtain ⟨q1,q2,q3,q4,q5,q6,_⟩:=hV;go_simp;try with_reducible rfl)
 try simp only [Act.put,List.getElem_toArray,List.getElem_cons_succ,List.getElem_cons_zero,List.setIfInBounds_toArray,List.set_cons_zero,List.set_cons_succ]
 refine' anyI_take R 3 rfl (v:=?_) (by kernel_rfl) (by rfl) (fun V hV=>?hy) HS0.out ?_
 case hy=>((try dsimp only at hV); obtain ⟨q1,q2,q3,q4,q5,q6,_⟩:=hV;go_simp;try with_reducible rfl)
 try simp only [Act.put,List.getElem_toArray,List.getElem_cons_succ,List.getElem_cons_zero,List.setIfInBounds_toArray,List.set_cons_zero,List.set_cons_succ]
 refine anyI_one 4 (by kernel_rfl) rfl ?_
 try simp only [List.getElem_toArray,List.getElem_cons_succ,List.getElem_cons_zero]
 refine opE_step ?_
 rw [if_pos (by rfl)]
 go_simp
 go_at_call 42
 refine (HC'.out _).mono ?_
 rintro e w4 ⟨rfl,hb⟩
 replace HS0:=Lib.hid (GS2.later HS0.out hb)
 clear hb
 dsimp only
 refine ⟨HS0.out,?_⟩
 try simp only [Act.put,List.getElem_toArray,List.getElem_cons_succ,List.getElem_cons_zero,List.setIfInBounds_toArray,List.set_cons_zero,List.set_cons_succ]
 refine' anyI_take R 5 rfl (v:=?_) (by kernel_rfl) (by rfl) (fun V hV=>?hy) HS0.out ?_
 case hy=>((try dsimp only at hV); obtain ⟨q1,q2,q3,q4,q5,q6,_⟩:=hV;go_simp;try with_reducible rfl)
 try simp only [Act.put,List.getElem_toArray,List.getElem_cons_succ,List.getElem_cons_zero,List.setIfInBounds_toArray,List.set_cons_zero,List.set_cons_succ]
 refine' anyI_take R 6 rfl (v:=?_) (by kernel_rfl) (by rfl) (fun V hV=>?hy) HS0.out ?_
 case hy=>((try dsimp only at hV); obtain ⟨q1,q2,q3,q4,q5,q6,_⟩:=hV;go_simp;try with_reducible rfl)
 try simp only [Act.put,List.getElem_toArray,List.getElem_cons_succ,List.getElem_cons_zero,List.setIfInBounds_toArray,List.set_cons_zero,List.set_cons_succ]
 refine anyI_skip R 7 rfl (by kernel_rfl) (by rfl) HS0.out ?_
 try simp only [Act.put,List.getElem_toArray,List.getElem_cons_succ,List.getElem_cons_zero,List.setIfInBounds_toArray,List.set_cons_zero,List.set_cons_succ]
 refine anyI_skip R 8 rfl (by kernel_rfl) (by rfl) HS0.out ?_
 try simp only [Act.put,List.getElem_toArray,List.getElem_cons_succ,List.getElem_cons_zero,List.setIfInBounds_toArray,List.set_cons_zero,List.set_cons_succ]
 refine anyI_skip R 9 rfl (by kernel_rfl) (by rfl) HS0.out ?_
 try simp only [Act.put,List.getElem_toArray,List.getElem_cons_succ,List.getElem_cons_zero,List.setIfInBounds_toArray,List.set_cons_zero,List.set_cons_succ]
 refine' anyI_take R 10 rfl (v:=?_) (by kernel_rfl) (by rfl) (fun V hV=>?hy) HS0.out ?_
 case hy=>((try dsimp only at hV); obtain ⟨q1,q2,q3,q4,q5,q6,_⟩:=hV;go_simp;try with_reducible rfl)
 try simp only [Act.put,List.getElem_toArray,List.getElem_cons_succ,List.getElem_cons_zero,List.setIfInBounds_toArray,List.set_cons_zero,List.set_cons_succ]
 refine' anyI_take R 11 rfl (v:=?_) (by kernel_rfl) (by rfl) (fun V hV=>?hy) HS0.out ?_
 case hy=>((try dsimp only at hV); obtain ⟨q1,q2,q3,q4,q5,q6,_⟩:=hV;go_simp;try with_reducible rfl)
 try simp only [Act.put,List.getElem_toArray,List.getElem_cons_succ,List.getElem_cons_zero,List.setIfInBounds_toArray,List.set_cons_zero,List.set_cons_succ]
 refine anyI_skip R 12 rfl (by kernel_rfl) (by rfl) HS0.out ?_
 try simp only [Act.put,List.getElem_toArray,List.getElem_cons_succ,List.getElem_cons_zero,List.setIfInBounds_toArray,List.set_cons_zero,List.set_cons_succ]
 refine anyI_skip R 13 rfl (by kernel_rfl) (by rfl) HS0.out ?_
 try simp only [Act.put,List.getElem_toArray,List.getElem_cons_succ,List.getElem_cons_zero,List.setIfInBounds_toArray,List.set_cons_zero,List.set_cons_succ]
 refine anyI_skip R 14 rfl (by kernel_rfl) (by rfl) HS0.out ?_
 try simp only [Act.put,List.getElem_toArray,List.getElem_cons_succ,List.getElem_cons_zero,List.setIfInBounds_toArray,List.set_cons_zero,List.set_cons_succ]
 refine anyI_skip R 15 rfl (by kernel_rfl) (by rfl) HS0.out ?_
 try simp only [Act.put,List.getElem_toArray,List.getElem_cons_succ,List.getElem_cons_zero,List.setIfInBounds_toArray,List.set_cons_zero,List.set_cons_succ]
 refine anyI_skip R 16 rfl (by kernel_rfl) (by rfl) HS0.out ?_
 try simp only [Act.put,List.getElem_toArray,List.getElem_cons_succ,List.getElem_cons_zero,List.setIfInBounds_toArray,List.set_cons_zero,List.set_cons_succ]
 refine' anyI_take R 17 rfl (v:=?_) (by kernel_rfl) (by rfl) (fun V hV=>?hy) HS0.out ?_
 case hy=>((try dsimp only at hV); obtain ⟨q1,q2,q3,q4,q5,q6,_⟩:=hV;go_simp;try with_reducible rfl)
 try simp only [Act.put,List.getElem_toArray,List.getElem_cons_succ,List.getElem_cons_zero,List.setIfInBounds_toArray,List.set_cons_zero,List.set_cons_succ]
 refine' anyI_take R 18 rfl (v:=?_) (by kernel_rfl) (by rfl) (fun V hV=>?hy) HS0.out ?_
 case hy=>((try dsimp only at hV); obtain ⟨q1,q2,q3,q4,q5,q6,_⟩:=hV;go_simp;try with_reducible rfl)
 try simp only [Act.put,List.getElem_toArray,List.getElem_cons_succ,List.getElem_cons_zero,List.setIfInBounds_toArray,List.set_cons_zero,List.set_cons_succ]
 refine anyI_skip R 19 rfl (by kernel_rfl) (by rfl) HS0.out ?_
 try simp only [Act.put,List.getElem_toArray,List.getElem_cons_succ,List.getElem_cons_zero,List.setIfInBounds_toArray,List.set_cons_zero,List.set_cons_succ]
 refine anyI_skip R 20 rfl (by kernel_rfl) (by rfl) HS0.out ?_
 try simp only [Act.put,List.getElem_toArray,List.getElem_cons_succ,List.getElem_cons_zero,List.setIfInBounds_toArray,List.set_cons_zero,List.set_cons_succ]
 refine anyI_skip R 21 rfl (by kernel_rfl) (by rfl) HS0.out ?_
 try simp only [Act.put,List.getElem_toArray,List.getElem_cons_succ,List.getElem_cons_zero,List.setIfInBounds_toArray,List.set_cons_zero,List.set_cons_succ]
 refine anyI_skip R 22 rfl (by kernel_rfl) (by rfl) HS0.out ?_
 try simp only [Act.put,List.getElem_toArray,List.getElem_cons_succ,List.getElem_cons_zero,List.setIfInBounds_toArray,List.set_cons_zero,List.set_cons_succ]
 refine anyI_skip R 23 rfl (by kernel_rfl) (by rfl) HS0.out ?_
 try simp only [Act.put,List.getElem_toArray,List.getElem_cons_succ,List.getElem_cons_zero,List.setIfInBounds_toArray,List.set_cons_zero,List.set_cons_succ]
 refine' anyI_take R 24 rfl (v:=?_) (by kernel_rfl) (by rfl) (fun V hV=>?hy) HS0.out ?_
 case hy=>((try dsimp only at hV); obtain ⟨q1,q2,q3,q4,q5,q6,_⟩:=hV;go_simp;try with_reducible rfl)
 try simp only [Act.put,List.getElem_toArray,List.getElem_cons_succ,List.getElem_cons_zero,List.setIfInBounds_toArray,List.set_cons_zero,List.set_cons_succ]
 refine' anyI_take R 25 rfl (v:=?_) (by kernel_rfl) (by rfl) (fun V hV=>?hy) HS0.out ?_
 case hy=>((try dsimp only at hV); obtain ⟨q1,q2,q3,q4,q5,q6,_⟩:=hV;go_simp;try with_reducible rfl)
 try simp only [Act.put,List.getElem_toArray,List.getElem_cons_succ,List.getElem_cons_zero,List.setIfInBounds_toArray,List.set_cons_zero,List.set_cons_succ]
 refine anyI_skip R 26 rfl (by kernel_rfl) (by rfl) HS0.out ?_
 try simp only [Act.put,List.getElem_toArray,List.getElem_cons_succ,List.getElem_cons_zero,List.setIfInBounds_toArray,List.set_cons_zero,List.set_cons_succ]
 refine anyI_skip R 27 rfl (by kernel_rfl) (by rfl) HS0.out ?_
 try simp only [Act.put,List.getElem_toArray,List.getElem_cons_succ,List.getElem_cons_zero,List.setIfInBounds_toArray,List.set_cons_zero,List.set_cons_succ]
 refine anyI_skip R 28 rfl (by kernel_rfl) (by rfl) HS0.out ?_
 try simp only [Act.put,List.getElem_toArray,List.getElem_cons_succ,List.getElem_cons_zero,List.setIfInBounds_toArray,List.set_cons_zero,List.set_cons_succ]
 refine anyI_skip R 29 rfl (by kernel_rfl) (by rfl) HS0.out ?_
 try simp only [Act.put,List.getElem_toArray,List.getElem_cons_succ,List.getElem_cons_zero,List.setIfInBounds_toArray,List.set_cons_zero,List.set_cons_succ]
 refine anyI_skip R 30 rfl (by kernel_rfl) (by rfl) HS0.out ?_
 try simp only [Act.put,List.getElem_toArray,List.getElem_cons_succ,List.getElem_cons_zero,List.setIfInBounds_toArray,List.set_cons_zero,List.set_cons_succ]
 refine' anyI_take R 31 rfl (v:=?_) (by kernel_rfl) (by rfl) (fun V hV=>?hy) HS0.out ?_
 case hy=>((try dsimp only at hV); obtain ⟨q1,q2,q3,q4,q5,q6,_⟩:=hV;go_simp;try with_reducible rfl)
 try simp only [Act.put,List.getElem_toArray,List.getElem_cons_succ,List.getElem_cons_zero,List.setIfInBounds_toArray,List.set_cons_zero,List.set_cons_succ]
 refine' anyI_take R 32 rfl (v:=?_) (by kernel_rfl) (by rfl) (fun V hV=>?hy) HS0.out ?_
 case hy=>((try dsimp only at hV); obtain ⟨q1,q2,q3,q4,q5,q6,_⟩:=hV;go_simp;try with_reducible rfl)
 try simp only [Act.put,List.getElem_toArray,List.getElem_cons_succ,List.getElem_cons_zero,List.setIfInBounds_toArray,List.set_cons_zero,List.set_cons_succ]
 refine anyI_tail (by kernel_rfl) ?_
 try simp only [List.drop_succ_cons,List.drop_zero]
 clear R
 go_wp2_with fail
 refine NoPanic.normal ?_
 go_wp2_with fail
 go_ret
 exact ⟨rfl,HS0.out.2.2.2.2.2.2⟩
set_option maxRecDepth 100000 in
set_option maxHeartbeats 1000000 in
theorem refCan_d (l d c l' d' c':Int) (w:World) (HC:(Hid (∀ W,Calls Tryz.prog 42 #[.agg #[.int .i64 l,.int .i64 d,.int .i64 c]] W fun e w'=>e=.returned (.bool true)∧Below W.heap.size W w'))) (HC':(Hid (∀ W,Calls Tryz.prog 42 #[.agg #[.int .i64 l',.int .i64 d',.int .i64 c']] W fun e w'=>e=.returned (.bool true)∧Below W.heap.size W w'))) (HE:Hid (¬ l=l'∨(l=l'∧¬ d=d')∨(l=l'∧d=d'∧¬ c=c'))) (hdd:¬ d ≤ d') :
    Calls Tryz.prog 25 #[.agg #[.int .i64 l,.int .i64 d,.int .i64 c],.agg #[.int .i64 l',.int .i64 d',.int .i64 c']] w fun e w'=>e=.returned (.bool false)∧Below w.heap.size w w':=by
 have S0:=gs2_start w l d c l' d' c' 25 25 (0,0) (0,0)
 go_enter Tryz.func25,Tryz.ntmps25
 go_wp2_with fail
 go_name_world wz hwz
 rw [hwz] at S0
 clear hwz
 refine wp_region_noPanic (region_ord 33 [] (fun V=>GS2 w w.heap.size w.heap.size (w.heap.size + 1) l d c l' d' c' V) (by kernel_rfl) (by kernel_rfl) (fun _ _ _ _ _ h=>h) fun R=>?_)
 change anyI _ _ _ _ _ _ 33 _ _ wz.drew
 have HS0:=Lib.hid (show (fun V=>GS2 w w.heap.size w.heap.size (w.heap.size + 1) l d c l' d' c' V) wz.drew from GS2.drew S0)
 refine' anyI_take R 0 rfl (v:=?_) (by kernel_rfl) (by rfl) (fun V hV=>?hy) HS0.out ?_
 case hy=>((try dsimp only at hV); obtain ⟨q1,q2,q3,q4,q5,q6,_⟩:=hV;go_simp;try with_reducible rfl)
 try simp only [Act.put,List.getElem_toArray,List.getElem_cons_succ,List.getElem_cons_zero,List.setIfInBounds_toArray,List.set_cons_zero,List.set_cons_succ]
 refine anyI_one 1 (by kernel_rfl) rfl ?_
 try simp only [List.getElem_toArray,List.getElem_cons_succ,List.getElem_cons_zero]
 refine opE_step ?_
 rw [if_pos (by rfl)]
 go_simp
 go_at_call 42
 refine (HC.out _).mono ?_
 rintro e w1 ⟨rfl,hb⟩
 replace HS0:=Lib.hid (GS2.later HS0.out hb)
 clear hb
 dsimp only
 refine ⟨HS0.out,?_⟩
 try simp only [Act.put,List.getElem_toArray,List.getElem_cons_succ,List.getElem_cons_zero,List.setIfInBounds_toArray,List.set_cons_zero,List.set_cons_succ]
 refine' anyI_take R 2 rfl (v:=?_) (by kernel_rfl) (by rfl) (fun V hV=>?hy) HS0.out ?_
 case hy=>((try dsimp only at hV); obtain ⟨q1,q2,q3,q4,q5,q6,_⟩:=hV;go_simp;try with_reducible rfl)
 try simp only [Act.put,List.getElem_toArray,List.getElem_cons_succ,List.getElem_cons_zero,List.setIfInBounds_toArray,List.set_cons_zero,List.set_cons_succ]
 refine' anyI_take R 3 rfl (v:=?_) (by kernel_rfl) (by rfl) (fun V hV=>?hy) HS0.out ?_
 case hy=>((try dsimp only at hV); obtain ⟨q1,q2,q3,q4,q5,q6,_⟩:=hV;go_simp;try with_reducible rfl)
 try simp only [Act.put,List.getElem_toArray,List.getElem_cons_succ,List.getElem_cons_zero,List.setIfInBounds_toArray,List.set_cons_zero,List.set_cons_succ]
 refine anyI_one 4 (by kernel_rfl) rfl ?_
 try simp only [List.getElem_toArray,List.getElem_cons_succ,List.getElem_cons_zero]
 refine opE_step ?_
 rw [if_pos (by rfl)]
 go_simp
 go_at_call 42
 refine (HC'.out _).mono ?_
 rintro e w4 ⟨rfl,hb⟩
 replace HS0:=Lib.hid (GS2.later HS0.out hb)
 clear hb
 dsimp only
 refine ⟨HS0.out,?_⟩
 try simp only [Act.put,List.getElem_toArray,List.getElem_cons_succ,List.getElem_cons_zero,List.setIfInBounds_toArray,List.set_cons_zero,List.set_cons_succ]
 refine' anyI_take R 5 rfl (v:=?_) (by kernel_rfl) (by rfl) (fun V hV=>?hy) HS0.out ?_
 case hy=>((try dsimp only at hV); obtain ⟨q1,q2,q3,q4,q5,q6,_⟩:=hV;go_simp;try with_reducible rfl)
 try simp only [Act.put,List.getElem_toArray,List.getElem_cons_succ,List.getElem_cons_zero,List.setIfInBounds_toArray,List.set_cons_zero,List.set_cons_succ]
 refine' anyI_take R 6 rfl (v:=?_) (by kernel_rfl) (by rfl) (fun V hV=>?hy) HS0.out ?_
 case hy=>((try dsimp only at hV); obtain ⟨q1,q2,q3,q4,q5,q6,_⟩:=hV;go_simp;try with_reducible rfl)
 try simp only [Act.put,List.getElem_toArray,List.getElem_cons_succ,List.getElem_cons_zero,List.setIfInBounds_toArray,List.set_cons_zero,List.set_cons_succ]
 refine' anyI_take R 7 rfl (v:=?_) (by kernel_rfl) (by rfl) (fun V hV=>?hy) HS0.out ?_
 case hy=>((try dsimp only at hV); obtain ⟨q1,q2,q3,q4,q5,q6,_⟩:=hV;go_simp;try with_reducible rfl)
 try simp only [Act.put,List.getElem_toArray,List.getElem_cons_succ,List.getElem_cons_zero,List.setIfInBounds_toArray,List.set_cons_zero,List.set_cons_succ]
 refine' anyI_take R 8 rfl (v:=?_) (by kernel_rfl) (by rfl) (fun V hV=>?hy) HS0.out ?_
 case hy=>((try dsimp only at hV); obtain ⟨q1,q2,q3,q4,q5,q6,_⟩:=hV;go_simp;try with_reducible rfl)
 try simp only [Act.put,List.getElem_toArray,List.getElem_cons_succ,List.getElem_cons_zero,List.setIfInBounds_toArray,List.set_cons_zero,List.set_cons_succ]
 refine anyI_take R 9 rfl (v:=.bool true) (by kernel_rfl) (by rfl) (fun V hV=>?_) HS0.out ?_
 ·(try dsimp only at hV);obtain ⟨q1,q2,q3,q4,q5,q6,_⟩:=hV;rcases HE.out with h1 | ⟨rfl,h1⟩ | ⟨rfl,rfl,h1⟩ <;> go_simp
 try simp only [Act.put,List.getElem_toArray,List.getElem_cons_succ,List.getElem_cons_zero,List.setIfInBounds_toArray,List.set_cons_zero,List.set_cons_succ]
 refine' anyI_take R 10 rfl (v:=?_) (by kernel_rfl) (by rfl) (fun V hV=>?hy) HS0.out ?_
 case hy=>((try dsimp only at hV); obtain ⟨q1,q2,q3,q4,q5,q6,_⟩:=hV;go_simp;try with_reducible rfl)
 try simp only [Act.put,List.getElem_toArray,List.getElem_cons_succ,List.getElem_cons_zero,List.setIfInBounds_toArray,List.set_cons_zero,List.set_cons_succ]
 refine' anyI_take R 11 rfl (v:=?_) (by kernel_rfl) (by rfl) (fun V hV=>?hy) HS0.out ?_
 case hy=>((try dsimp only at hV); obtain ⟨q1,q2,q3,q4,q5,q6,_⟩:=hV;go_simp;try with_reducible rfl)
 try simp only [Act.put,List.getElem_toArray,List.getElem_cons_succ,List.getElem_cons_zero,List.setIfInBounds_toArray,List.set_cons_zero,List.set_cons_succ]
 refine' anyI_take R 12 rfl (v:=?_) (by kernel_rfl) (by rfl) (fun V hV=>?hy) HS0.out ?_
 case hy=>((try dsimp only at hV); obtain ⟨q1,q2,q3,q4,q5,q6,_⟩:=hV;go_simp;try with_reducible rfl)
 try simp only [Act.put,List.getElem_toArray,List.getElem_cons_succ,List.getElem_cons_zero,List.setIfInBounds_toArray,List.set_cons_zero,List.set_cons_succ]
 refine' anyI_take R 13 rfl (v:=?_) (by kernel_rfl) (by rfl) (fun V hV=>?hy) HS0.out ?_
 case hy=>((try dsimp only at hV); obtain ⟨q1,q2,q3,q4,q5,q6,_⟩:=hV;go_simp;try with_reducible rfl)
 try simp only [Act.put,List.getElem_toArray,List.getElem_cons_succ,List.getElem_cons_zero,List.setIfInBounds_toArray,List.set_cons_zero,List.set_cons_succ]
 refine' anyI_take R 14 rfl (v:=?_) (by kernel_rfl) (by rfl) (fun V hV=>?hy) HS0.out ?_
 case hy=>((try dsimp only at hV); obtain ⟨q1,q2,q3,q4,q5,q6,_⟩:=hV;go_simp;try with_reducible rfl)
 try simp only [Act.put,List.getElem_toArray,List.getElem_cons_succ,List.getElem_cons_zero,List.setIfInBounds_toArray,List.set_cons_zero,List.set_cons_succ]
 refine' anyI_take R 15 rfl (v:=?_) (by kernel_rfl) (by rfl) (fun V hV=>?hy) HS0.out ?_
 case hy=>((try dsimp only at hV); obtain ⟨q1,q2,q3,q4,q5,q6,_⟩:=hV;go_simp;try with_reducible rfl)
 try simp only [Act.put,List.getElem_toArray,List.getElem_cons_succ,List.getElem_cons_zero,List.setIfInBounds_toArray,List.set_cons_zero,List.set_cons_succ]
 refine anyI_take R 16 rfl (v:=.bool false) (by kernel_rfl) (by rfl) (fun V hV=>?_) HS0.out ?_
 ·(try dsimp only at hV);obtain ⟨q1,q2,q3,q4,q5,q6,_⟩:=hV;go_simp;try (simp [hdd];done)
 try simp only [Act.put,List.getElem_toArray,List.getElem_cons_succ,List.getElem_cons_zero,List.setIfInBounds_toArray,List.set_cons_zero,List.set_cons_succ]
 refine' anyI_take R 17 rfl (v:=?_) (by kernel_rfl) (by rfl) (fun V hV=>?hy) HS0.out ?_
 case hy=>((try dsimp only at hV); obtain ⟨q1,q2,q3,q4,q5,q6,_⟩:=hV;go_simp;try with_reducible rfl)
 try simp only [Act.put,List.getElem_toArray,List.getElem_cons_succ,List.getElem_cons_zero,List.setIfInBounds_toArray,List.set_cons_zero,List.set_cons_succ]
 refine' anyI_take R 18 rfl (v:=?_) (by kernel_rfl) (by rfl) (fun V hV=>?hy) HS0.out ?_
 case hy=>((try dsimp only at hV); obtain ⟨q1,q2,q3,q4,q5,q6,_⟩:=hV;go_simp;try with_reducible rfl)
 try simp only [Act.put,List.getElem_toArray,List.getElem_cons_succ,List.getElem_cons_zero,List.setIfInBounds_toArray,List.set_cons_zero,List.set_cons_succ]
 refine anyI_skip R 19 rfl (by kernel_rfl) (by rfl) HS0.out ?_
 try simp only [Act.put,List.getElem_toArray,List.getElem_cons_succ,List.getElem_cons_zero,List.setIfInBounds_toArray,List.set_cons_zero,List.set_cons_succ]
 refine anyI_skip R 20 rfl (by kernel_rfl) (by rfl) HS0.out ?_
 try simp only [Act.put,List.getElem_toArray,List.getElem_cons_succ,List.getElem_cons_zero,List.setIfInBounds_toArray,List.set_cons_zero,List.set_cons_succ]
 refine anyI_skip R 21 rfl (by kernel_rfl) (by rfl) HS0.out ?_
 try simp only [Act.put,List.getElem_toArray,List.getElem_cons_succ,List.getElem_cons_zero,List.setIfInBounds_toArray,List.set_cons_zero,List.set_cons_succ]
 refine anyI_skip R 22 rfl (by kernel_rfl) (by rfl) HS0.out ?_
 try simp only [Act.put,List.getElem_toArray,List.getElem_cons_succ,List.getElem_cons_zero,List.setIfInBounds_toArray,List.set_cons_zero,List.set_cons_succ]
 refine anyI_skip R 23 rfl (by kernel_rfl) (by rfl) HS0.out ?_
 try simp only [Act.put,List.getElem_toArray,List.getElem_cons_succ,List.getElem_cons_zero,List.setIfInBounds_toArray,List.set_cons_zero,List.set_cons_succ]
 refine' anyI_take R 24 rfl (v:=?_) (by kernel_rfl) (by rfl) (fun V hV=>?hy) HS0.out ?_
 case hy=>((try dsimp only at hV); obtain ⟨q1,q2,q3,q4,q5,q6,_⟩:=hV;go_simp;try with_reducible rfl)
 try simp only [Act.put,List.getElem_toArray,List.getElem_cons_succ,List.getElem_cons_zero,List.setIfInBounds_toArray,List.set_cons_zero,List.set_cons_succ]
 refine' anyI_take R 25 rfl (v:=?_) (by kernel_rfl) (by rfl) (fun V hV=>?hy) HS0.out ?_
 case hy=>((try dsimp only at hV); obtain ⟨q1,q2,q3,q4,q5,q6,_⟩:=hV;go_simp;try with_reducible rfl)
 try simp only [Act.put,List.getElem_toArray,List.getElem_cons_succ,List.getElem_cons_zero,List.setIfInBounds_toArray,List.set_cons_zero,List.set_cons_succ]
 refine anyI_skip R 26 rfl (by kernel_rfl) (by rfl) HS0.out ?_
 try simp only [Act.put,List.getElem_toArray,List.getElem_cons_succ,List.getElem_cons_zero,List.setIfInBounds_toArray,List.set_cons_zero,List.set_cons_succ]
 refine anyI_skip R 27 rfl (by kernel_rfl) (by rfl) HS0.out ?_
 try simp only [Act.put,List.getElem_toArray,List.getElem_cons_succ,List.getElem_cons_zero,List.setIfInBounds_toArray,List.set_cons_zero,List.set_cons_succ]
 refine anyI_skip R 28 rfl (by kernel_rfl) (by rfl) HS0.out ?_
 try simp only [Act.put,List.getElem_toArray,List.getElem_cons_succ,List.getElem_cons_zero,List.setIfInBounds_toArray,List.set_cons_zero,List.set_cons_succ]
 refine anyI_skip R 29 rfl (by kernel_rfl) (by rfl) HS0.out ?_
 try simp only [Act.put,List.getElem_toArray,List.getElem_cons_succ,List.getElem_cons_zero,List.setIfInBounds_toArray,List.set_cons_zero,List.set_cons_succ]
 refine anyI_skip R 30 rfl (by kernel_rfl) (by rfl) HS0.out ?_
 try simp only [Act.put,List.getElem_toArray,List.getElem_cons_succ,List.getElem_cons_zero,List.setIfInBounds_toArray,List.set_cons_zero,List.set_cons_succ]
 refine' anyI_take R 31 rfl (v:=?_) (by kernel_rfl) (by rfl) (fun V hV=>?hy) HS0.out ?_
 case hy=>((try dsimp only at hV); obtain ⟨q1,q2,q3,q4,q5,q6,_⟩:=hV;go_simp;try with_reducible rfl)
 try simp only [Act.put,List.getElem_toArray,List.getElem_cons_succ,List.getElem_cons_zero,List.setIfInBounds_toArray,List.set_cons_zero,List.set_cons_succ]
 refine' anyI_take R 32 rfl (v:=?_) (by kernel_rfl) (by rfl) (fun V hV=>?hy) HS0.out ?_
 case hy=>((try dsimp only at hV); obtain ⟨q1,q2,q3,q4,q5,q6,_⟩:=hV;go_simp;try with_reducible rfl)
 try simp only [Act.put,List.getElem_toArray,List.getElem_cons_succ,List.getElem_cons_zero,List.setIfInBounds_toArray,List.set_cons_zero,List.set_cons_succ]
 refine anyI_tail (by kernel_rfl) ?_
 try simp only [List.drop_succ_cons,List.drop_zero]
 clear R
 go_wp2_with fail
 refine NoPanic.normal ?_
 go_wp2_with fail
 go_ret
 exact ⟨rfl,HS0.out.2.2.2.2.2.2⟩
set_option maxRecDepth 100000 in
set_option maxHeartbeats 1000000 in
theorem refCan_e (l d c l' d' c':Int) (w:World) (HC:(Hid (∀ W,Calls Tryz.prog 42 #[.agg #[.int .i64 l,.int .i64 d,.int .i64 c]] W fun e w'=>e=.returned (.bool true)∧Below W.heap.size W w'))) (HC':(Hid (∀ W,Calls Tryz.prog 42 #[.agg #[.int .i64 l',.int .i64 d',.int .i64 c']] W fun e w'=>e=.returned (.bool true)∧Below W.heap.size W w'))) (HE:Hid (¬ l=l'∨(l=l'∧¬ d=d')∨(l=l'∧d=d'∧¬ c=c'))) (hdd:d ≤ d') (hll:¬ l ≤ l') :
    Calls Tryz.prog 25 #[.agg #[.int .i64 l,.int .i64 d,.int .i64 c],.agg #[.int .i64 l',.int .i64 d',.int .i64 c']] w fun e w'=>e=.returned (.bool false)∧Below w.heap.size w w':=by
 have S0:=gs2_start w l d c l' d' c' 25 25 (0,0) (0,0)
 go_enter Tryz.func25,Tryz.ntmps25
 go_wp2_with fail
 go_name_world wz hwz
 rw [hwz] at S0
 clear hwz
 refine wp_region_noPanic (region_ord 33 [] (fun V=>GS2 w w.heap.size w.heap.size (w.heap.size + 1) l d c l' d' c' V) (by kernel_rfl) (by kernel_rfl) (fun _ _ _ _ _ h=>h) fun R=>?_)
 change anyI _ _ _ _ _ _ 33 _ _ wz.drew
 have HS0:=Lib.hid (show (fun V=>GS2 w w.heap.size w.heap.size (w.heap.size + 1) l d c l' d' c' V) wz.drew from GS2.drew S0)
 refine' anyI_take R 0 rfl (v:=?_) (by kernel_rfl) (by rfl) (fun V hV=>?hy) HS0.out ?_
 case hy=>((try dsimp only at hV); obtain ⟨q1,q2,q3,q4,q5,q6,_⟩:=hV;go_simp;try with_reducible rfl)
 try simp only [Act.put,List.getElem_toArray,List.getElem_cons_succ,List.getElem_cons_zero,List.setIfInBounds_toArray,List.set_cons_zero,List.set_cons_succ]
 refine anyI_one 1 (by kernel_rfl) rfl ?_
 try simp only [List.getElem_toArray,List.getElem_cons_succ,List.getElem_cons_zero]
 refine opE_step ?_
 rw [if_pos (by rfl)]
 go_simp
 go_at_call 42
 refine (HC.out _).mono ?_
 rintro e w1 ⟨rfl,hb⟩
 replace HS0:=Lib.hid (GS2.later HS0.out hb)
 clear hb
 dsimp only
 refine ⟨HS0.out,?_⟩
 try simp only [Act.put,List.getElem_toArray,List.getElem_cons_succ,List.getElem_cons_zero,List.setIfInBounds_toArray,List.set_cons_zero,List.set_cons_succ]
 refine' anyI_take R 2 rfl (v:=?_) (by kernel_rfl) (by rfl) (fun V hV=>?hy) HS0.out ?_
 case hy=>((try dsimp only at hV); obtain ⟨q1,q2,q3,q4,q5,q6,_⟩:=hV;go_simp;try with_reducible rfl)
 try simp only [Act.put,List.getElem_toArray,List.getElem_cons_succ,List.getElem_cons_zero,List.setIfInBounds_toArray,List.set_cons_zero,List.set_cons_succ]
 refine' anyI_take R 3 rfl (v:=?_) (by kernel_rfl) (by rfl) (fun V hV=>?hy) HS0.out ?_
 case hy=>((try dsimp only at hV); obtain ⟨q1,q2,q3,q4,q5,q6,_⟩:=hV;go_simp;try with_reducible rfl)
 try simp only [Act.put,List.getElem_toArray,List.getElem_cons_succ,List.getElem_cons_zero,List.setIfInBounds_toArray,List.set_cons_zero,List.set_cons_succ]
 refine anyI_one 4 (by kernel_rfl) rfl ?_
 try simp only [List.getElem_toArray,List.getElem_cons_succ,List.getElem_cons_zero]
 refine opE_step ?_
 rw [if_pos (by rfl)]
 go_simp
 go_at_call 42
 refine (HC'.out _).mono ?_
 rintro e w4 ⟨rfl,hb⟩
 replace HS0:=Lib.hid (GS2.later HS0.out hb)
 clear hb
 dsimp only
 refine ⟨HS0.out,?_⟩
 try simp only [Act.put,List.getElem_toArray,List.getElem_cons_succ,List.getElem_cons_zero,List.setIfInBounds_toArray,List.set_cons_zero,List.set_cons_succ]
 refine' anyI_take R 5 rfl (v:=?_) (by kernel_rfl) (by rfl) (fun V hV=>?hy) HS0.out ?_
 case hy=>((try dsimp only at hV); obtain ⟨q1,q2,q3,q4,q5,q6,_⟩:=hV;go_simp;try with_reducible rfl)
 try simp only [Act.put,List.getElem_toArray,List.getElem_cons_succ,List.getElem_cons_zero,List.setIfInBounds_toArray,List.set_cons_zero,List.set_cons_succ]
 refine' anyI_take R 6 rfl (v:=?_) (by kernel_rfl) (by rfl) (fun V hV=>?hy) HS0.out ?_
 case hy=>((try dsimp only at hV); obtain ⟨q1,q2,q3,q4,q5,q6,_⟩:=hV;go_simp;try with_reducible rfl)
 try simp only [Act.put,List.getElem_toArray,List.getElem_cons_succ,List.getElem_cons_zero,List.setIfInBounds_toArray,List.set_cons_zero,List.set_cons_succ]
 refine' anyI_take R 7 rfl (v:=?_) (by kernel_rfl) (by rfl) (fun V hV=>?hy) HS0.out ?_
 case hy=>((try dsimp only at hV); obtain ⟨q1,q2,q3,q4,q5,q6,_⟩:=hV;go_simp;try with_reducible rfl)
 try simp only [Act.put,List.getElem_toArray,List.getElem_cons_succ,List.getElem_cons_zero,List.setIfInBounds_toArray,List.set_cons_zero,List.set_cons_succ]
 refine' anyI_take R 8 rfl (v:=?_) (by kernel_rfl) (by rfl) (fun V hV=>?hy) HS0.out ?_
 case hy=>((try dsimp only at hV); obtain ⟨q1,q2,q3,q4,q5,q6,_⟩:=hV;go_simp;try with_reducible rfl)
 try simp only [Act.put,List.getElem_toArray,List.getElem_cons_succ,List.getElem_cons_zero,List.setIfInBounds_toArray,List.set_cons_zero,List.set_cons_succ]
 refine anyI_take R 9 rfl (v:=.bool true) (by kernel_rfl) (by rfl) (fun V hV=>?_) HS0.out ?_
 ·(try dsimp only at hV);obtain ⟨q1,q2,q3,q4,q5,q6,_⟩:=hV;rcases HE.out with h1 | ⟨rfl,h1⟩ | ⟨rfl,rfl,h1⟩ <;> go_simp
 try simp only [Act.put,List.getElem_toArray,List.getElem_cons_succ,List.getElem_cons_zero,List.setIfInBounds_toArray,List.set_cons_zero,List.set_cons_succ]
 refine' anyI_take R 10 rfl (v:=?_) (by kernel_rfl) (by rfl) (fun V hV=>?hy) HS0.out ?_
 case hy=>((try dsimp only at hV); obtain ⟨q1,q2,q3,q4,q5,q6,_⟩:=hV;go_simp;try with_reducible rfl)
 try simp only [Act.put,List.getElem_toArray,List.getElem_cons_succ,List.getElem_cons_zero,List.setIfInBounds_toArray,List.set_cons_zero,List.set_cons_succ]
 refine' anyI_take R 11 rfl (v:=?_) (by kernel_rfl) (by rfl) (fun V hV=>?hy) HS0.out ?_
 case hy=>((try dsimp only at hV); obtain ⟨q1,q2,q3,q4,q5,q6,_⟩:=hV;go_simp;try with_reducible rfl)
 try simp only [Act.put,List.getElem_toArray,List.getElem_cons_succ,List.getElem_cons_zero,List.setIfInBounds_toArray,List.set_cons_zero,List.set_cons_succ]
 refine' anyI_take R 12 rfl (v:=?_) (by kernel_rfl) (by rfl) (fun V hV=>?hy) HS0.out ?_
 case hy=>((try dsimp only at hV); obtain ⟨q1,q2,q3,q4,q5,q6,_⟩:=hV;go_simp;try with_reducible rfl)
 try simp only [Act.put,List.getElem_toArray,List.getElem_cons_succ,List.getElem_cons_zero,List.setIfInBounds_toArray,List.set_cons_zero,List.set_cons_succ]
 refine' anyI_take R 13 rfl (v:=?_) (by kernel_rfl) (by rfl) (fun V hV=>?hy) HS0.out ?_
 case hy=>((try dsimp only at hV); obtain ⟨q1,q2,q3,q4,q5,q6,_⟩:=hV;go_simp;try with_reducible rfl)
 try simp only [Act.put,List.getElem_toArray,List.getElem_cons_succ,List.getElem_cons_zero,List.setIfInBounds_toArray,List.set_cons_zero,List.set_cons_succ]
 refine' anyI_take R 14 rfl (v:=?_) (by kernel_rfl) (by rfl) (fun V hV=>?hy) HS0.out ?_
 case hy=>((try dsimp only at hV); obtain ⟨q1,q2,q3,q4,q5,q6,_⟩:=hV;go_simp;try with_reducible rfl)
 try simp only [Act.put,List.getElem_toArray,List.getElem_cons_succ,List.getElem_cons_zero,List.setIfInBounds_toArray,List.set_cons_zero,List.set_cons_succ]
 refine' anyI_take R 15 rfl (v:=?_) (by kernel_rfl) (by rfl) (fun V hV=>?hy) HS0.out ?_
 case hy=>((try dsimp only at hV); obtain ⟨q1,q2,q3,q4,q5,q6,_⟩:=hV;go_simp;try with_reducible rfl)
 try simp only [Act.put,List.getElem_toArray,List.getElem_cons_succ,List.getElem_cons_zero,List.setIfInBounds_toArray,List.set_cons_zero,List.set_cons_succ]
 refine anyI_take R 16 rfl (v:=.bool true) (by kernel_rfl) (by rfl) (fun V hV=>?_) HS0.out ?_
 ·(try dsimp only at hV);obtain ⟨q1,q2,q3,q4,q5,q6,_⟩:=hV;go_simp;try (simp [hdd];done)
 try simp only [Act.put,List.getElem_toArray,List.getElem_cons_succ,List.getElem_cons_zero,List.setIfInBounds_toArray,List.set_cons_zero,List.set_cons_succ]
 refine' anyI_take R 17 rfl (v:=?_) (by kernel_rfl) (by rfl) (fun V hV=>?hy) HS0.out ?_
 case hy=>((try dsimp only at hV); obtain ⟨q1,q2,q3,q4,q5,q6,_⟩:=hV;go_simp;try with_reducible rfl)
 try simp only [Act.put,List.getElem_toArray,List.getElem_cons_succ,List.getElem_cons_zero,List.setIfInBounds_toArray,List.set_cons_zero,List.set_cons_succ]
 refine' anyI_take R 18 rfl (v:=?_) (by kernel_rfl) (by rfl) (fun V hV=>?hy) HS0.out ?_
 case hy=>((try dsimp only at hV); obtain ⟨q1,q2,q3,q4,q5,q6,_⟩:=hV;go_simp;try with_reducible rfl)
 try simp only [Act.put,List.getElem_toArray,List.getElem_cons_succ,List.getElem_cons_zero,List.setIfInBounds_toArray,List.set_cons_zero,List.set_cons_succ]
 refine' anyI_take R 19 rfl (v:=?_) (by kernel_rfl) (by rfl) (fun V hV=>?hy) HS0.out ?_
 case hy=>((try dsimp only at hV); obtain ⟨q1,q2,q3,q4,q5,q6,_⟩:=hV;go_simp;try with_reducible rfl)
 try simp only [Act.put,List.getElem_toArray,List.getElem_cons_succ,List.getElem_cons_zero,List.setIfInBounds_toArray,List.set_cons_zero,List.set_cons_succ]
 refine' anyI_take R 20 rfl (v:=?_) (by kernel_rfl) (by rfl) (fun V hV=>?hy) HS0.out ?_
 case hy=>((try dsimp only at hV); obtain ⟨q1,q2,q3,q4,q5,q6,_⟩:=hV;go_simp;try with_reducible rfl)
 try simp only [Act.put,List.getElem_toArray,List.getElem_cons_succ,List.getElem_cons_zero,List.setIfInBounds_toArray,List.set_cons_zero,List.set_cons_succ]
 refine' anyI_take R 21 rfl (v:=?_) (by kernel_rfl) (by rfl) (fun V hV=>?hy) HS0.out ?_
 case hy=>((try dsimp only at hV); obtain ⟨q1,q2,q3,q4,q5,q6,_⟩:=hV;go_simp;try with_reducible rfl)
 try simp only [Act.put,List.getElem_toArray,List.getElem_cons_succ,List.getElem_cons_zero,List.setIfInBounds_toArray,List.set_cons_zero,List.set_cons_succ]
 refine' anyI_take R 22 rfl (v:=?_) (by kernel_rfl) (by rfl) (fun V hV=>?hy) HS0.out ?_
 case hy=>((try dsimp only at hV); obtain ⟨q1,q2,q3,q4,q5,q6,_⟩:=hV;go_simp;try with_reducible rfl)
 try simp only [Act.put,List.getElem_toArray,List.getElem_cons_succ,List.getElem_cons_zero,List.setIfInBounds_toArray,List.set_cons_zero,List.set_cons_succ]
 refine anyI_take R 23 rfl (v:=.bool false) (by kernel_rfl) (by rfl) (fun V hV=>?_) HS0.out ?_
 ·(try dsimp only at hV);obtain ⟨q1,q2,q3,q4,q5,q6,_⟩:=hV;go_simp;try (simp [hll];done)
 try simp only [Act.put,List.getElem_toArray,List.getElem_cons_succ,List.getElem_cons_zero,List.setIfInBounds_toArray,List.set_cons_zero,List.set_cons_succ]
 refine' anyI_take R 24 rfl (v:=?_) (by kernel_rfl) (by rfl) (fun V hV=>?hy) HS0.out ?_
 case hy=>((try dsimp only at hV); obtain ⟨q1,q2,q3,q4,q5,q6,_⟩:=hV;go_simp;try with_reducible rfl)
 try simp only [Act.put,List.getElem_toArray,List.getElem_cons_succ,List.getElem_cons_zero,List.setIfInBounds_toArray,List.set_cons_zero,List.set_cons_succ]
 refine' anyI_take R 25 rfl (v:=?_) (by kernel_rfl) (by rfl) (fun V hV=>?hy) HS0.out ?_
 case hy=>((try dsimp only at hV); obtain ⟨q1,q2,q3,q4,q5,q6,_⟩:=hV;go_simp;try with_reducible rfl)
 try simp only [Act.put,List.getElem_toArray,List.getElem_cons_succ,List.getElem_cons_zero,List.setIfInBounds_toArray,List.set_cons_zero,List.set_cons_succ]
 refine anyI_skip R 26 rfl (by kernel_rfl) (by rfl) HS0.out ?_
 try simp only [Act.put,List.getElem_toArray,List.getElem_cons_succ,List.getElem_cons_zero,List.setIfInBounds_toArray,List.set_cons_zero,List.set_cons_succ]
 refine anyI_skip R 27 rfl (by kernel_rfl) (by rfl) HS0.out ?_
 try simp only [Act.put,List.getElem_toArray,List.getElem_cons_succ,List.getElem_cons_zero,List.setIfInBounds_toArray,List.set_cons_zero,List.set_cons_succ]
 refine anyI_skip R 28 rfl (by kernel_rfl) (by rfl) HS0.out ?_
 try simp only [Act.put,List.getElem_toArray,List.getElem_cons_succ,List.getElem_cons_zero,List.setIfInBounds_toArray,List.set_cons_zero,List.set_cons_succ]
 refine anyI_skip R 29 rfl (by kernel_rfl) (by rfl) HS0.out ?_
 try simp only [Act.put,List.getElem_toArray,List.getElem_cons_succ,List.getElem_cons_zero,List.setIfInBounds_toArray,List.set_cons_zero,List.set_cons_succ]
 refine anyI_skip R 30 rfl (by kernel_rfl) (by rfl) HS0.out ?_
 try simp only [Act.put,List.getElem_toArray,List.getElem_cons_succ,List.getElem_cons_zero,List.setIfInBounds_toArray,List.set_cons_zero,List.set_cons_succ]
 refine' anyI_take R 31 rfl (v:=?_) (by kernel_rfl) (by rfl) (fun V hV=>?hy) HS0.out ?_
 case hy=>((try dsimp only at hV); obtain ⟨q1,q2,q3,q4,q5,q6,_⟩:=hV;go_simp;try with_reducible rfl)
 try simp only [Act.put,List.getElem_toArray,List.getElem_cons_succ,List.getElem_cons_zero,List.setIfInBounds_toArray,List.set_cons_zero,List.set_cons_succ]
 refine' anyI_take R 32 rfl (v:=?_) (by kernel_rfl) (by rfl) (fun V hV=>?hy) HS0.out ?_
 case hy=>((try dsimp only at hV); obtain ⟨q1,q2,q3,q4,q5,q6,_⟩:=hV;go_simp;try with_reducible rfl)
 try simp only [Act.put,List.getElem_toArray,List.getElem_cons_succ,List.getElem_cons_zero,List.setIfInBounds_toArray,List.set_cons_zero,List.set_cons_succ]
 refine anyI_tail (by kernel_rfl) ?_
 try simp only [List.drop_succ_cons,List.drop_zero]
 clear R
 go_wp2_with fail
 refine NoPanic.normal ?_
 go_wp2_with fail
 go_ret
 exact ⟨rfl,HS0.out.2.2.2.2.2.2⟩
set_option maxRecDepth 100000 in
set_option maxHeartbeats 1000000 in
theorem refCan_f (l d c l' d' c':Int) (w:World) (HC:(Hid (∀ W,Calls Tryz.prog 42 #[.agg #[.int .i64 l,.int .i64 d,.int .i64 c]] W fun e w'=>e=.returned (.bool true)∧Below W.heap.size W w'))) (HC':(Hid (∀ W,Calls Tryz.prog 42 #[.agg #[.int .i64 l',.int .i64 d',.int .i64 c']] W fun e w'=>e=.returned (.bool true)∧Below W.heap.size W w'))) (HE:Hid (¬ l=l'∨(l=l'∧¬ d=d')∨(l=l'∧d=d'∧¬ c=c'))) (hdd:d ≤ d') (hll:l ≤ l') (wd wd':Int) (HW:(Hid (∀ W,Calls Tryz.prog 28 #[.agg #[.int .i64 l,.int .i64 d,.int .i64 c]] W fun e w'=>e=.returned (.int .i64 wd)∧Below W.heap.size W w'))) (HW':(Hid (∀ W,Calls Tryz.prog 28 #[.agg #[.int .i64 l',.int .i64 d',.int .i64 c']] W fun e w'=>e=.returned (.int .i64 wd')∧Below W.heap.size W w'))) :
    Calls Tryz.prog 25 #[.agg #[.int .i64 l,.int .i64 d,.int .i64 c],.agg #[.int .i64 l',.int .i64 d',.int .i64 c']] w fun e w'=>e=.returned (.bool (decide (wd ≤ wd')))∧Below w.heap.size w w':=by
 have S0:=gs2_start w l d c l' d' c' 25 25 (0,0) (0,0)
 go_enter Tryz.func25,Tryz.ntmps25
 go_wp2_with fail
 go_name_world wz hwz
 rw [hwz] at S0
 clear hwz
 refine wp_region_noPanic (region_ord 33 [] (fun V=>GS2 w w.heap.size w.heap.size (w.heap.size + 1) l d c l' d' c' V) (by kernel_rfl) (by kernel_rfl) (fun _ _ _ _ _ h=>h) fun R=>?_)
 change anyI _ _ _ _ _ _ 33 _ _ wz.drew
 have HS0:=Lib.hid (show (fun V=>GS2 w w.heap.size w.heap.size (w.heap.size + 1) l d c l' d' c' V) wz.drew from GS2.drew S0)
 refine' anyI_take R 0 rfl (v:=?_) (by kernel_rfl) (by rfl) (fun V hV=>?hy) HS0.out ?_
 case hy=>((try dsimp only at hV); obtain ⟨q1,q2,q3,q4,q5,q6,_⟩:=hV;go_simp;try with_reducible rfl)
 try simp only [Act.put,List.getElem_toArray,List.getElem_cons_succ,List.getElem_cons_zero,List.setIfInBounds_toArray,List.set_cons_zero,List.set_cons_succ]
 refine anyI_one 1 (by kernel_rfl) rfl ?_
 try simp only [List.getElem_toArray,List.getElem_cons_succ,List.getElem_cons_zero]
 refine opE_step ?_
 rw [if_pos (by rfl)]
 go_simp
 go_at_call 42
 refine (HC.out _).mono ?_
 rintro e w1 ⟨rfl,hb⟩
 replace HS0:=Lib.hid (GS2.later HS0.out hb)
 clear hb
 dsimp only
 refine ⟨HS0.out,?_⟩
 try simp only [Act.put,List.getElem_toArray,List.getElem_cons_succ,List.getElem_cons_zero,List.setIfInBounds_toArray,List.set_cons_zero,List.set_cons_succ]
 refine' anyI_take R 2 rfl (v:=?_) (by kernel_rfl) (by rfl) (fun V hV=>?hy) HS0.out ?_
 case hy=>((try dsimp only at hV); obtain ⟨q1,q2,q3,q4,q5,q6,_⟩:=hV;go_simp;try with_reducible rfl)
 try simp only [Act.put,List.getElem_toArray,List.getElem_cons_succ,List.getElem_cons_zero,List.setIfInBounds_toArray,List.set_cons_zero,List.set_cons_succ]
 refine' anyI_take R 3 rfl (v:=?_) (by kernel_rfl) (by rfl) (fun V hV=>?hy) HS0.out ?_
 case hy=>((try dsimp only at hV); obtain ⟨q1,q2,q3,q4,q5,q6,_⟩:=hV;go_simp;try with_reducible rfl)
 try simp only [Act.put,List.getElem_toArray,List.getElem_cons_succ,List.getElem_cons_zero,List.setIfInBounds_toArray,List.set_cons_zero,List.set_cons_succ]
 refine anyI_one 4 (by kernel_rfl) rfl ?_
 try simp only [List.getElem_toArray,List.getElem_cons_succ,List.getElem_cons_zero]
 refine opE_step ?_
 rw [if_pos (by rfl)]
 go_simp
 go_at_call 42
 refine (HC'.out _).mono ?_
 rintro e w4 ⟨rfl,hb⟩
 replace HS0:=Lib.hid (GS2.later HS0.out hb)
 clear hb
 dsimp only
 refine ⟨HS0.out,?_⟩
 try simp only [Act.put,List.getElem_toArray,List.getElem_cons_succ,List.getElem_cons_zero,List.setIfInBounds_toArray,List.set_cons_zero,List.set_cons_succ]
 refine' anyI_take R 5 rfl (v:=?_) (by kernel_rfl) (by rfl) (fun V hV=>?hy) HS0.out ?_
 case hy=>((try dsimp only at hV); obtain ⟨q1,q2,q3,q4,q5,q6,_⟩:=hV;go_simp;try with_reducible rfl)
 try simp only [Act.put,List.getElem_toArray,List.getElem_cons_succ,List.getElem_cons_zero,List.setIfInBounds_toArray,List.set_cons_zero,List.set_cons_succ]
 refine' anyI_take R 6 rfl (v:=?_) (by kernel_rfl) (by rfl) (fun V hV=>?hy) HS0.out ?_
 case hy=>((try dsimp only at hV); obtain ⟨q1,q2,q3,q4,q5,q6,_⟩:=hV;go_simp;try with_reducible rfl)
 try simp only [Act.put,List.getElem_toArray,List.getElem_cons_succ,List.getElem_cons_zero,List.setIfInBounds_toArray,List.set_cons_zero,List.set_cons_succ]
 refine' anyI_take R 7 rfl (v:=?_) (by kernel_rfl) (by rfl) (fun V hV=>?hy) HS0.out ?_
 case hy=>((try dsimp only at hV); obtain ⟨q1,q2,q3,q4,q5,q6,_⟩:=hV;go_simp;try with_reducible rfl)
 try simp only [Act.put,List.getElem_toArray,List.getElem_cons_succ,List.getElem_cons_zero,List.setIfInBounds_toArray,List.set_cons_zero,List.set_cons_succ]
 refine' anyI_take R 8 rfl (v:=?_) (by kernel_rfl) (by rfl) (fun V hV=>?hy) HS0.out ?_
 case hy=>((try dsimp only at hV); obtain ⟨q1,q2,q3,q4,q5,q6,_⟩:=hV;go_simp;try with_reducible rfl)
 try simp only [Act.put,List.getElem_toArray,List.getElem_cons_succ,List.getElem_cons_zero,List.setIfInBounds_toArray,List.set_cons_zero,List.set_cons_succ]
 refine anyI_take R 9 rfl (v:=.bool true) (by kernel_rfl) (by rfl) (fun V hV=>?_) HS0.out ?_
 ·(try dsimp only at hV);obtain ⟨q1,q2,q3,q4,q5,q6,_⟩:=hV;rcases HE.out with h1 | ⟨rfl,h1⟩ | ⟨rfl,rfl,h1⟩ <;> go_simp
 try simp only [Act.put,List.getElem_toArray,List.getElem_cons_succ,List.getElem_cons_zero,List.setIfInBounds_toArray,List.set_cons_zero,List.set_cons_succ]
 refine' anyI_take R 10 rfl (v:=?_) (by kernel_rfl) (by rfl) (fun V hV=>?hy) HS0.out ?_
 case hy=>((try dsimp only at hV); obtain ⟨q1,q2,q3,q4,q5,q6,_⟩:=hV;go_simp;try with_reducible rfl)
 try simp only [Act.put,List.getElem_toArray,List.getElem_cons_succ,List.getElem_cons_zero,List.setIfInBounds_toArray,List.set_cons_zero,List.set_cons_succ]
 refine' anyI_take R 11 rfl (v:=?_) (by kernel_rfl) (by rfl) (fun V hV=>?hy) HS0.out ?_
 case hy=>((try dsimp only at hV); obtain ⟨q1,q2,q3,q4,q5,q6,_⟩:=hV;go_simp;try with_reducible rfl)
 try simp only [Act.put,List.getElem_toArray,List.getElem_cons_succ,List.getElem_cons_zero,List.setIfInBounds_toArray,List.set_cons_zero,List.set_cons_succ]
 refine' anyI_take R 12 rfl (v:=?_) (by kernel_rfl) (by rfl) (fun V hV=>?hy) HS0.out ?_
 case hy=>((try dsimp only at hV); obtain ⟨q1,q2,q3,q4,q5,q6,_⟩:=hV;go_simp;try with_reducible rfl)
 try simp only [Act.put,List.getElem_toArray,List.getElem_cons_succ,List.getElem_cons_zero,List.setIfInBounds_toArray,List.set_cons_zero,List.set_cons_succ]
 refine' anyI_take R 13 rfl (v:=?_) (by kernel_rfl) (by rfl) (fun V hV=>?hy) HS0.out ?_
 case hy=>((try dsimp only at hV); obtain ⟨q1,q2,q3,q4,q5,q6,_⟩:=hV;go_simp;try with_reducible rfl)
 try simp only [Act.put,List.getElem_toArray,List.getElem_cons_succ,List.getElem_cons_zero,List.setIfInBounds_toArray,List.set_cons_zero,List.set_cons_succ]
 refine' anyI_take R 14 rfl (v:=?_) (by kernel_rfl) (by rfl) (fun V hV=>?hy) HS0.out ?_
 case hy=>((try dsimp only at hV); obtain ⟨q1,q2,q3,q4,q5,q6,_⟩:=hV;go_simp;try with_reducible rfl)
 try simp only [Act.put,List.getElem_toArray,List.getElem_cons_succ,List.getElem_cons_zero,List.setIfInBounds_toArray,List.set_cons_zero,List.set_cons_succ]
 refine' anyI_take R 15 rfl (v:=?_) (by kernel_rfl) (by rfl) (fun V hV=>?hy) HS0.out ?_
 case hy=>((try dsimp only at hV); obtain ⟨q1,q2,q3,q4,q5,q6,_⟩:=hV;go_simp;try with_reducible rfl)
 try simp only [Act.put,List.getElem_toArray,List.getElem_cons_succ,List.getElem_cons_zero,List.setIfInBounds_toArray,List.set_cons_zero,List.set_cons_succ]
 refine anyI_take R 16 rfl (v:=.bool true) (by kernel_rfl) (by rfl) (fun V hV=>?_) HS0.out ?_
 ·(try dsimp only at hV);obtain ⟨q1,q2,q3,q4,q5,q6,_⟩:=hV;go_simp;try (simp [hdd];done)
 try simp only [Act.put,List.getElem_toArray,List.getElem_cons_succ,List.getElem_cons_zero,List.setIfInBounds_toArray,List.set_cons_zero,List.set_cons_succ]
 refine' anyI_take R 17 rfl (v:=?_) (by kernel_rfl) (by rfl) (fun V hV=>?hy) HS0.out ?_
 case hy=>((try dsimp only at hV); obtain ⟨q1,q2,q3,q4,q5,q6,_⟩:=hV;go_simp;try with_reducible rfl)
 try simp only [Act.put,List.getElem_toArray,List.getElem_cons_succ,List.getElem_cons_zero,List.setIfInBounds_toArray,List.set_cons_zero,List.set_cons_succ]
 refine' anyI_take R 18 rfl (v:=?_) (by kernel_rfl) (by rfl) (fun V hV=>?hy) HS0.out ?_
 case hy=>((try dsimp only at hV); obtain ⟨q1,q2,q3,q4,q5,q6,_⟩:=hV;go_simp;try with_reducible rfl)
 try simp only [Act.put,List.getElem_toArray,List.getElem_cons_succ,List.getElem_cons_zero,List.setIfInBounds_toArray,List.set_cons_zero,List.set_cons_succ]
 refine' anyI_take R 19 rfl (v:=?_) (by kernel_rfl) (by rfl) (fun V hV=>?hy) HS0.out ?_
 case hy=>((try dsimp only at hV); obtain ⟨q1,q2,q3,q4,q5,q6,_⟩:=hV;go_simp;try with_reducible rfl)
 try simp only [Act.put,List.getElem_toArray,List.getElem_cons_succ,List.getElem_cons_zero,List.setIfInBounds_toArray,List.set_cons_zero,List.set_cons_succ]
 refine' anyI_take R 20 rfl (v:=?_) (by kernel_rfl) (by rfl) (fun V hV=>?hy) HS0.out ?_
 case hy=>((try dsimp only at hV); obtain ⟨q1,q2,q3,q4,q5,q6,_⟩:=hV;go_simp;try with_reducible rfl)
 try simp only [Act.put,List.getElem_toArray,List.getElem_cons_succ,List.getElem_cons_zero,List.setIfInBounds_toArray,List.set_cons_zero,List.set_cons_succ]
 refine' anyI_take R 21 rfl (v:=?_) (by kernel_rfl) (by rfl) (fun V hV=>?hy) HS0.out ?_
 case hy=>((try dsimp only at hV); obtain ⟨q1,q2,q3,q4,q5,q6,_⟩:=hV;go_simp;try with_reducible rfl)
 try simp only [Act.put,List.getElem_toArray,List.getElem_cons_succ,List.getElem_cons_zero,List.setIfInBounds_toArray,List.set_cons_zero,List.set_cons_succ]
 refine' anyI_take R 22 rfl (v:=?_) (by kernel_rfl) (by rfl) (fun V hV=>?hy) HS0.out ?_
 case hy=>((try dsimp only at hV); obtain ⟨q1,q2,q3,q4,q5,q6,_⟩:=hV;go_simp;try with_reducible rfl)
 try simp only [Act.put,List.getElem_toArray,List.getElem_cons_succ,List.getElem_cons_zero,List.setIfInBounds_toArray,List.set_cons_zero,List.set_cons_succ]
 refine anyI_take R 23 rfl (v:=.bool true) (by kernel_rfl) (by rfl) (fun V hV=>?_) HS0.out ?_
 ·(try dsimp only at hV);obtain ⟨q1,q2,q3,q4,q5,q6,_⟩:=hV;go_simp;try (simp [hll];done)
 try simp only [Act.put,List.getElem_toArray,List.getElem_cons_succ,List.getElem_cons_zero,List.setIfInBounds_toArray,List.set_cons_zero,List.set_cons_succ]
 refine' anyI_take R 24 rfl (v:=?_) (by kernel_rfl) (by rfl) (fun V hV=>?hy) HS0.out ?_
 case hy=>((try dsimp only at hV); obtain ⟨q1,q2,q3,q4,q5,q6,_⟩:=hV;go_simp;try with_reducible rfl)
 try simp only [Act.put,List.getElem_toArray,List.getElem_cons_succ,List.getElem_cons_zero,List.setIfInBounds_toArray,List.set_cons_zero,List.set_cons_succ]
 refine' anyI_take R 25 rfl (v:=?_) (by kernel_rfl) (by rfl) (fun V hV=>?hy) HS0.out ?_
 case hy=>((try dsimp only at hV); obtain ⟨q1,q2,q3,q4,q5,q6,_⟩:=hV;go_simp;try with_reducible rfl)
 try simp only [Act.put,List.getElem_toArray,List.getElem_cons_succ,List.getElem_cons_zero,List.setIfInBounds_toArray,List.set_cons_zero,List.set_cons_succ]
 refine' anyI_take R 26 rfl (v:=?_) (by kernel_rfl) (by rfl) (fun V hV=>?hy) HS0.out ?_
 case hy=>((try dsimp only at hV); obtain ⟨q1,q2,q3,q4,q5,q6,_⟩:=hV;go_simp;try with_reducible rfl)
 try simp only [Act.put,List.getElem_toArray,List.getElem_cons_succ,List.getElem_cons_zero,List.setIfInBounds_toArray,List.set_cons_zero,List.set_cons_succ]
 refine' anyI_take R 28 rfl (v:=?_) (by kernel_rfl) (by rfl) (fun V hV=>?hy) HS0.out ?_
 case hy=>((try dsimp only at hV); obtain ⟨q1,q2,q3,q4,q5,q6,_⟩:=hV;go_simp;try with_reducible rfl)
 try simp only [Act.put,List.getElem_toArray,List.getElem_cons_succ,List.getElem_cons_zero,List.setIfInBounds_toArray,List.set_cons_zero,List.set_cons_succ]
 refine anyI_one 27 (by kernel_rfl) rfl ?_
 try simp only [List.getElem_toArray,List.getElem_cons_succ,List.getElem_cons_zero]
 refine opE_step ?_
 rw [if_pos (by rfl)]
 go_simp
 go_at_call 28
 refine (HW'.out _).mono ?_
 rintro e w27 ⟨rfl,hb⟩
 replace HS0:=Lib.hid (GS2.later HS0.out hb)
 clear hb
 dsimp only
 refine ⟨HS0.out,?_⟩
 try simp only [Act.put,List.getElem_toArray,List.getElem_cons_succ,List.getElem_cons_zero,List.setIfInBounds_toArray,List.set_cons_zero,List.set_cons_succ]
 refine anyI_one 29 (by kernel_rfl) rfl ?_
 try simp only [List.getElem_toArray,List.getElem_cons_succ,List.getElem_cons_zero]
 refine opE_step ?_
 rw [if_pos (by rfl)]
 go_simp
 go_at_call 28
 refine (HW.out _).mono ?_
 rintro e w29 ⟨rfl,hb⟩
 replace HS0:=Lib.hid (GS2.later HS0.out hb)
 clear hb
 dsimp only
 refine ⟨HS0.out,?_⟩
 try simp only [Act.put,List.getElem_toArray,List.getElem_cons_succ,List.getElem_cons_zero,List.setIfInBounds_toArray,List.set_cons_zero,List.set_cons_succ]
 refine' anyI_take R 30 rfl (v:=?_) (by kernel_rfl) (by rfl) (fun V hV=>?hy) HS0.out ?_
 case hy=>((try dsimp only at hV); obtain ⟨q1,q2,q3,q4,q5,q6,_⟩:=hV;go_simp;try with_reducible rfl)
 try simp only [Act.put,List.getElem_toArray,List.getElem_cons_succ,List.getElem_cons_zero,List.setIfInBounds_toArray,List.set_cons_zero,List.set_cons_succ]
 refine' anyI_take R 31 rfl (v:=?_) (by kernel_rfl) (by rfl) (fun V hV=>?hy) HS0.out ?_
 case hy=>((try dsimp only at hV); obtain ⟨q1,q2,q3,q4,q5,q6,_⟩:=hV;go_simp;try with_reducible rfl)
 try simp only [Act.put,List.getElem_toArray,List.getElem_cons_succ,List.getElem_cons_zero,List.setIfInBounds_toArray,List.set_cons_zero,List.set_cons_succ]
 refine' anyI_take R 32 rfl (v:=?_) (by kernel_rfl) (by rfl) (fun V hV=>?hy) HS0.out ?_
 case hy=>((try dsimp only at hV); obtain ⟨q1,q2,q3,q4,q5,q6,_⟩:=hV;go_simp;try with_reducible rfl)
 try simp only [Act.put,List.getElem_toArray,List.getElem_cons_succ,List.getElem_cons_zero,List.setIfInBounds_toArray,List.set_cons_zero,List.set_cons_succ]
 refine anyI_tail (by kernel_rfl) ?_
 try simp only [List.drop_succ_cons,List.drop_zero]
 clear R
 go_wp2_with fail
 refine NoPanic.normal ?_
 go_wp2_with fail
 go_ret
 exact ⟨rfl,HS0.out.2.2.2.2.2.2⟩
set_option maxRecDepth 100000 in
set_option maxHeartbeats 1000000 in
theorem refCan_c (l d c:Int) (w:World) (HC:(Hid (∀ W,Calls Tryz.prog 42 #[.agg #[.int .i64 l,.int .i64 d,.int .i64 c]] W fun e w'=>e=.returned (.bool true)∧Below W.heap.size W w'))) (HC':(Hid (∀ W,Calls Tryz.prog 42 #[.agg #[.int .i64 l,.int .i64 d,.int .i64 c]] W fun e w'=>e=.returned (.bool true)∧Below W.heap.size W w'))) :
    Calls Tryz.prog 25 #[.agg #[.int .i64 l,.int .i64 d,.int .i64 c],.agg #[.int .i64 l,.int .i64 d,.int .i64 c]] w fun e w'=>e=.returned (.bool false)∧Below w.heap.size w w':=by
 have S0:=gs2_start w l d c l d c 25 25 (0,0) (0,0)
 go_enter Tryz.func25,Tryz.ntmps25
 go_wp2_with fail
 go_name_world wz hwz
 rw [hwz] at S0
 clear hwz
 refine wp_region_noPanic (region_ord 33 [] (fun V=>GS2 w w.heap.size w.heap.size (w.heap.size + 1) l d c l d c V) (by kernel_rfl) (by kernel_rfl) (fun _ _ _ _ _ h=>h) fun R=>?_)
 change anyI _ _ _ _ _ _ 33 _ _ wz.drew
 have HS0:=Lib.hid (show (fun V=>GS2 w w.heap.size w.heap.size (w.heap.size + 1) l d c l d c V) wz.drew from GS2.drew S0)
 refine' anyI_take R 0 rfl (v:=?_) (by kernel_rfl) (by rfl) (fun V hV=>?hy) HS0.out ?_
 case hy=>((try dsimp only at hV); obtain ⟨q1,q2,q3,q4,q5,q6,_⟩:=hV;go_simp;try with_reducible rfl)
 try simp only [Act.put,List.getElem_toArray,List.getElem_cons_succ,List.getElem_cons_zero,List.setIfInBounds_toArray,List.set_cons_zero,List.set_cons_succ]
 refine anyI_one 1 (by kernel_rfl) rfl ?_
 try simp only [List.getElem_toArray,List.getElem_cons_succ,List.getElem_cons_zero]
 refine opE_step ?_
 rw [if_pos (by rfl)]
 go_simp
 go_at_call 42
 refine (HC.out _).mono ?_
 rintro e w1 ⟨rfl,hb⟩
 replace HS0:=Lib.hid (GS2.later HS0.out hb)
 clear hb
 dsimp only
 refine ⟨HS0.out,?_⟩
 try simp only [Act.put,List.getElem_toArray,List.getElem_cons_succ,List.getElem_cons_zero,List.setIfInBounds_toArray,List.set_cons_zero,List.set_cons_succ]
 refine' anyI_take R 2 rfl (v:=?_) (by kernel_rfl) (by rfl) (fun V hV=>?hy) HS0.out ?_
 case hy=>((try dsimp only at hV); obtain ⟨q1,q2,q3,q4,q5,q6,_⟩:=hV;go_simp;try with_reducible rfl)
 try simp only [Act.put,List.getElem_toArray,List.getElem_cons_succ,List.getElem_cons_zero,List.setIfInBounds_toArray,List.set_cons_zero,List.set_cons_succ]
 refine' anyI_take R 3 rfl (v:=?_) (by kernel_rfl) (by rfl) (fun V hV=>?hy) HS0.out ?_
 case hy=>((try dsimp only at hV); obtain ⟨q1,q2,q3,q4,q5,q6,_⟩:=hV;go_simp;try with_reducible rfl)
 try simp only [Act.put,List.getElem_toArray,List.getElem_cons_succ,List.getElem_cons_zero,List.setIfInBounds_toArray,List.set_cons_zero,List.set_cons_succ]
 refine anyI_one 4 (by kernel_rfl) rfl ?_
 try simp only [List.getElem_toArray,List.getElem_cons_succ,List.getElem_cons_zero]
 refine opE_step ?_
 rw [if_pos (by rfl)]
 go_simp
 go_at_call 42
 refine (HC'.out _).mono ?_
 rintro e w4 ⟨rfl,hb⟩
 replace HS0:=Lib.hid (GS2.later HS0.out hb)
 clear hb
 dsimp only
 refine ⟨HS0.out,?_⟩
 try simp only [Act.put,List.getElem_toArray,List.getElem_cons_succ,List.getElem_cons_zero,List.setIfInBounds_toArray,List.set_cons_zero,List.set_cons_succ]
 refine' anyI_take R 5 rfl (v:=?_) (by kernel_rfl) (by rfl) (fun V hV=>?hy) HS0.out ?_
 case hy=>((try dsimp only at hV); obtain ⟨q1,q2,q3,q4,q5,q6,_⟩:=hV;go_simp;try with_reducible rfl)
 try simp only [Act.put,List.getElem_toArray,List.getElem_cons_succ,List.getElem_cons_zero,List.setIfInBounds_toArray,List.set_cons_zero,List.set_cons_succ]
 refine' anyI_take R 6 rfl (v:=?_) (by kernel_rfl) (by rfl) (fun V hV=>?hy) HS0.out ?_
 case hy=>((try dsimp only at hV); obtain ⟨q1,q2,q3,q4,q5,q6,_⟩:=hV;go_simp;try with_reducible rfl)
 try simp only [Act.put,List.getElem_toArray,List.getElem_cons_succ,List.getElem_cons_zero,List.setIfInBounds_toArray,List.set_cons_zero,List.set_cons_succ]
 refine' anyI_take R 7 rfl (v:=?_) (by kernel_rfl) (by rfl) (fun V hV=>?hy) HS0.out ?_
 case hy=>((try dsimp only at hV); obtain ⟨q1,q2,q3,q4,q5,q6,_⟩:=hV;go_simp;try with_reducible rfl)
 try simp only [Act.put,List.getElem_toArray,List.getElem_cons_succ,List.getElem_cons_zero,List.setIfInBounds_toArray,List.set_cons_zero,List.set_cons_succ]
 refine' anyI_take R 8 rfl (v:=?_) (by kernel_rfl) (by rfl) (fun V hV=>?hy) HS0.out ?_
 case hy=>((try dsimp only at hV); obtain ⟨q1,q2,q3,q4,q5,q6,_⟩:=hV;go_simp;try with_reducible rfl)
 try simp only [Act.put,List.getElem_toArray,List.getElem_cons_succ,List.getElem_cons_zero,List.setIfInBounds_toArray,List.set_cons_zero,List.set_cons_succ]
 refine anyI_take R 9 rfl (v:=.bool false) (by kernel_rfl) (by rfl) (fun V hV=>?_) HS0.out ?_
 ·(try dsimp only at hV);obtain ⟨q1,q2,q3,q4,q5,q6,_⟩:=hV;go_simp
 try simp only [Act.put,List.getElem_toArray,List.getElem_cons_succ,List.getElem_cons_zero,List.setIfInBounds_toArray,List.set_cons_zero,List.set_cons_succ]
 refine' anyI_take R 10 rfl (v:=?_) (by kernel_rfl) (by rfl) (fun V hV=>?hy) HS0.out ?_
 case hy=>((try dsimp only at hV); obtain ⟨q1,q2,q3,q4,q5,q6,_⟩:=hV;go_simp;try with_reducible rfl)
 try simp only [Act.put,List.getElem_toArray,List.getElem_cons_succ,List.getElem_cons_zero,List.setIfInBounds_toArray,List.set_cons_zero,List.set_cons_succ]
 refine' anyI_take R 11 rfl (v:=?_) (by kernel_rfl) (by rfl) (fun V hV=>?hy) HS0.out ?_
 case hy=>((try dsimp only at hV); obtain ⟨q1,q2,q3,q4,q5,q6,_⟩:=hV;go_simp;try with_reducible rfl)
 try simp only [Act.put,List.getElem_toArray,List.getElem_cons_succ,List.getElem_cons_zero,List.setIfInBounds_toArray,List.set_cons_zero,List.set_cons_succ]
 refine anyI_skip R 12 rfl (by kernel_rfl) (by rfl) HS0.out ?_
 try simp only [Act.put,List.getElem_toArray,List.getElem_cons_succ,List.getElem_cons_zero,List.setIfInBounds_toArray,List.set_cons_zero,List.set_cons_succ]
 refine anyI_skip R 13 rfl (by kernel_rfl) (by rfl) HS0.out ?_
 try simp only [Act.put,List.getElem_toArray,List.getElem_cons_succ,List.getElem_cons_zero,List.setIfInBounds_toArray,List.set_cons_zero,List.set_cons_succ]
 refine anyI_skip R 14 rfl (by kernel_rfl) (by rfl) HS0.out ?_
 try simp only [Act.put,List.getElem_toArray,List.getElem_cons_succ,List.getElem_cons_zero,List.setIfInBounds_toArray,List.set_cons_zero,List.set_cons_succ]
 refine anyI_skip R 15 rfl (by kernel_rfl) (by rfl) HS0.out ?_
 try simp only [Act.put,List.getElem_toArray,List.getElem_cons_succ,List.getElem_cons_zero,List.setIfInBounds_toArray,List.set_cons_zero,List.set_cons_succ]
 refine anyI_skip R 16 rfl (by kernel_rfl) (by rfl) HS0.out ?_
 try simp only [Act.put,List.getElem_toArray,List.getElem_cons_succ,List.getElem_cons_zero,List.setIfInBounds_toArray,List.set_cons_zero,List.set_cons_succ]
 refine' anyI_take R 17 rfl (v:=?_) (by kernel_rfl) (by rfl) (fun V hV=>?hy) HS0.out ?_
 case hy=>((try dsimp only at hV); obtain ⟨q1,q2,q3,q4,q5,q6,_⟩:=hV;go_simp;try with_reducible rfl)
 try simp only [Act.put,List.getElem_toArray,List.getElem_cons_succ,List.getElem_cons_zero,List.setIfInBounds_toArray,List.set_cons_zero,List.set_cons_succ]
 refine' anyI_take R 18 rfl (v:=?_) (by kernel_rfl) (by rfl) (fun V hV=>?hy) HS0.out ?_
 case hy=>((try dsimp only at hV); obtain ⟨q1,q2,q3,q4,q5,q6,_⟩:=hV;go_simp;try with_reducible rfl)
 try simp only [Act.put,List.getElem_toArray,List.getElem_cons_succ,List.getElem_cons_zero,List.setIfInBounds_toArray,List.set_cons_zero,List.set_cons_succ]
 refine anyI_skip R 19 rfl (by kernel_rfl) (by rfl) HS0.out ?_
 try simp only [Act.put,List.getElem_toArray,List.getElem_cons_succ,List.getElem_cons_zero,List.setIfInBounds_toArray,List.set_cons_zero,List.set_cons_succ]
 refine anyI_skip R 20 rfl (by kernel_rfl) (by rfl) HS0.out ?_
 try simp only [Act.put,List.getElem_toArray,List.getElem_cons_succ,List.getElem_cons_zero,List.setIfInBounds_toArray,List.set_cons_zero,List.set_cons_succ]
 refine anyI_skip R 21 rfl (by kernel_rfl) (by rfl) HS0.out ?_
 try simp only [Act.put,List.getElem_toArray,List.getElem_cons_succ,List.getElem_cons_zero,List.setIfInBounds_toArray,List.set_cons_zero,List.set_cons_succ]
 refine anyI_skip R 22 rfl (by kernel_rfl) (by rfl) HS0.out ?_
 try simp only [Act.put,List.getElem_toArray,List.getElem_cons_succ,List.getElem_cons_zero,List.setIfInBounds_toArray,List.set_cons_zero,List.set_cons_succ]
 refine anyI_skip R 23 rfl (by kernel_rfl) (by rfl) HS0.out ?_
 try simp only [Act.put,List.getElem_toArray,List.getElem_cons_succ,List.getElem_cons_zero,List.setIfInBounds_toArray,List.set_cons_zero,List.set_cons_succ]
 refine' anyI_take R 24 rfl (v:=?_) (by kernel_rfl) (by rfl) (fun V hV=>?hy) HS0.out ?_
 case hy=>((try dsimp only at hV); obtain ⟨q1,q2,q3,q4,q5,q6,_⟩:=hV;go_simp;try with_reducible rfl)
 try simp only [Act.put,List.getElem_toArray,List.getElem_cons_succ,List.getElem_cons_zero,List.setIfInBounds_toArray,List.set_cons_zero,List.set_cons_succ]
 refine' anyI_take R 25 rfl (v:=?_) (by kernel_rfl) (by rfl) (fun V hV=>?hy) HS0.out ?_
 case hy=>((try dsimp only at hV); obtain ⟨q1,q2,q3,q4,q5,q6,_⟩:=hV;go_simp;try with_reducible rfl)
 try simp only [Act.put,List.getElem_toArray,List.getElem_cons_succ,List.getElem_cons_zero,List.setIfInBounds_toArray,List.set_cons_zero,List.set_cons_succ]
 refine anyI_skip R 26 rfl (by kernel_rfl) (by rfl) HS0.out ?_
 try simp only [Act.put,List.getElem_toArray,List.getElem_cons_succ,List.getElem_cons_zero,List.setIfInBounds_toArray,List.set_cons_zero,List.set_cons_succ]
 refine anyI_skip R 27 rfl (by kernel_rfl) (by rfl) HS0.out ?_
 try simp only [Act.put,List.getElem_toArray,List.getElem_cons_succ,List.getElem_cons_zero,List.setIfInBounds_toArray,List.set_cons_zero,List.set_cons_succ]
 refine anyI_skip R 28 rfl (by kernel_rfl) (by rfl) HS0.out ?_
 try simp only [Act.put,List.getElem_toArray,List.getElem_cons_succ,List.getElem_cons_zero,List.setIfInBounds_toArray,List.set_cons_zero,List.set_cons_succ]
 refine anyI_skip R 29 rfl (by kernel_rfl) (by rfl) HS0.out ?_
 try simp only [Act.put,List.getElem_toArray,List.getElem_cons_succ,List.getElem_cons_zero,List.setIfInBounds_toArray,List.set_cons_zero,List.set_cons_succ]
 refine anyI_skip R 30 rfl (by kernel_rfl) (by rfl) HS0.out ?_
 try simp only [Act.put,List.getElem_toArray,List.getElem_cons_succ,List.getElem_cons_zero,List.setIfInBounds_toArray,List.set_cons_zero,List.set_cons_succ]
 refine' anyI_take R 31 rfl (v:=?_) (by kernel_rfl) (by rfl) (fun V hV=>?hy) HS0.out ?_
 case hy=>((try dsimp only at hV); obtain ⟨q1,q2,q3,q4,q5,q6,_⟩:=hV;go_simp;try with_reducible rfl)
 try simp only [Act.put,List.getElem_toArray,List.getElem_cons_succ,List.getElem_cons_zero,List.setIfInBounds_toArray,List.set_cons_zero,List.set_cons_succ]
 refine' anyI_take R 32 rfl (v:=?_) (by kernel_rfl) (by rfl) (fun V hV=>?hy) HS0.out ?_
 case hy=>((try dsimp only at hV); obtain ⟨q1,q2,q3,q4,q5,q6,_⟩:=hV;go_simp;try with_reducible rfl)
 try simp only [Act.put,List.getElem_toArray,List.getElem_cons_succ,List.getElem_cons_zero,List.setIfInBounds_toArray,List.set_cons_zero,List.set_cons_succ]
 refine anyI_tail (by kernel_rfl) ?_
 try simp only [List.drop_succ_cons,List.drop_zero]
 clear R
 go_wp2_with fail
 refine NoPanic.normal ?_
 go_wp2_with fail
 go_ret
 exact ⟨rfl,HS0.out.2.2.2.2.2.2⟩
theorem refCan_any (l d c l' d' c':Int) (w:World) (hl:-9223372036854775808 ≤ l∧l ≤ 9223372036854775807) (hd:-9223372036854775808 ≤ d∧d ≤ 9223372036854775807) (hc:-9223372036854775808 ≤ c∧c ≤ 9223372036854775807) (hl':-9223372036854775808 ≤ l'∧l' ≤ 9223372036854775807) (hd':-9223372036854775808 ≤ d'∧d' ≤ 9223372036854775807) (hc':-9223372036854775808 ≤ c'∧c' ≤ 9223372036854775807) :
    Calls Tryz.prog 25 #[.agg #[.int .i64 l,.int .i64 d,.int .i64 c],.agg #[.int .i64 l',.int .i64 d',.int .i64 c']] w fun e w'=>e=.returned (.bool (gCan l d c l' d' c'))∧Below w.heap.size w w':=by
 cases hG:gOk l d c
 ·rw [show gCan l d c l' d' c'=false by unfold gCan;rw [hG];rfl]
  exact refCan_a l d c l' d' c' w (Lib.hid fun W=>refCheck_no l d c W (Lib.hid hG) hl hd hc)
 have HC:=Lib.hid fun W=>refCheck_yes l d c W (Lib.hid hG) hl hd hc
 cases hG':gOk l' d' c'
 ·rw [show gCan l d c l' d' c'=false by unfold gCan;rw [hG,hG'];rfl]
  exact refCan_b l d c l' d' c' w HC (Lib.hid fun W=>refCheck_no l' d' c' W (Lib.hid hG') hl' hd' hc')
 have HC':=Lib.hid fun W=>refCheck_yes l' d' c' W (Lib.hid hG') hl' hd' hc'
 cases hE:gEq l d c l' d' c'
 ·have hE':=gEq_no hE
  have HE:=Lib.hid (show ¬ l=l'∨(l=l'∧¬ d=d')∨(l=l'∧d=d'∧¬ c=c') by omega)
  rw [gCan_ok hG hG' hE,gGe_eq]
  by_cases hdd:d ≤ d'
  ·by_cases hll:l ≤ l'
   ·rw [show decide (d ≤ d'∧l ≤ l'∧gWid l d c ≤ gWid l' d' c')=decide (gWid l d c ≤ gWid l' d' c') by simp [hdd,hll]]
    exact refCan_f l d c l' d' c' w HC HC' HE hdd hll _ _ (Lib.hid fun W=>refWidth_any l d c W hl hd hc) (Lib.hid fun W=>refWidth_any l' d' c' W hl' hd' hc')
   ·rw [decide_eq_false (by omega)]
    exact refCan_e l d c l' d' c' w HC HC' HE hdd hll
  ·rw [decide_eq_false (by omega)]
   exact refCan_d l d c l' d' c' w HC HC' HE hdd
 ·obtain ⟨rfl,rfl,rfl⟩:=gEq_yes hE
  rw [show gCan l d c l d c=false by unfold gCan;rw [hE,Bool.not_true,Bool.and_false,Bool.false_and]]
  exact refCan_c l d c w HC HC'
end Go.Proofs.YtldfoadildaljaaGreat
end
section
set_option maxRecDepth 20000
set_option linter.unusedVariables false
set_option linter.unusedSimpArgs false
namespace Go.Proofs.YtldfoadildaljaaGreat
open Go.RowKit
theorem wpAnyH_mono {P:Program} {md:Region.Mode} {ops:Array Oper} {Q:Exit→Act→World→Prop} {S S':World→Prop} (hS:∀ w,S' w→S w):∀ (fuel:Nat) (listed:Array Bool) (a:Act) (w:World),wpAnyH P md ops Q S' fuel listed a w→wpAnyH P md ops Q S fuel listed a w
 | 0,_,_,_,h=>h
 | fuel + 1,_,_,_,h=>⟨h.1,fun i hi=>wpOp_mono (fun a' w' h'=>⟨hS _ h'.1,wpAnyH_mono hS fuel _ a' w' h'.2⟩) (h.2 i hi)⟩
theorem chk_bd (k:Int):1 ≤ chk k∧chk k ≤ 4:=by unfold chk;split <;> (try split) <;> omega
theorem chk_is (k:Int):chk k=1∨chk k=2∨chk k=4:=by unfold chk;split <;> (try split) <;> omega
theorem gCan_more {l d c l2 d3 c2:Int} (hl:l=5∨l=6) (hc:c=1∨c=2∨c=4) (hc2:c2=1∨c2=2∨c2=4) (hd:3 ≤ d∧d ≤ 5∧(4 ≤ d∨l=5)) (hl2:5 ≤ l2∧l2 ≤ 6∧l ≤ l2) (hd3:3 ≤ d3∧d ≤ d3∧d3 ≤ 7∧(4 ≤ d3∨l2=5)):gCan l d c l2 (d3 + 1) c2=true:=by
 have g1:gOk l d c=true:=gOk_mk (by omega)
 have g2:gOk l2 (d3 + 1) c2=true:=gOk_mk (by omega)
 refine gCan_mk ⟨g1,g2,?_,by omega,by omega,?_⟩
 ·simp [gEq];omega
 ·rw [gWid_yes g1,gWid_yes g2];omega
abbrev P1 (w:World) (l d c:Int) (W:World):Prop:=W.heap[w.heap.size]?=some (.cells #[.int .i64 0,.int .i64 0,.int .i64 0] 25 (0,0))∧W.heap[w.heap.size + 1]?=some (.cells #[.int .i64 0,.int .i64 0,.int .i64 0] 25 (0,0))
 ∧ W.heap[w.heap.size + 3]?=some (.cells #[.int .i64 l,.int .i64 d,.int .i64 c] 25 (0,0))∧Below w.heap.size w W
theorem P1.later {w W W':World} {l d c:Int} (h:P1 w l d c W) (hb:Below W.heap.size W W'):P1 w l d c W':=by
 obtain ⟨h1,h2,h3,F⟩:=h
 exact ⟨(hb.block _ (Array.getElem?_eq_some_iff.1 h1).1).trans h1,(hb.block _ (Array.getElem?_eq_some_iff.1 h2).1).trans h2,(hb.block _ (Array.getElem?_eq_some_iff.1 h3).1).trans h3,F.trans (hb.mono F.size)⟩
theorem P1.grown {w W W':World} {l d c:Int} {b:Nat} (h:P1 w l d c W) (hg:W.grownBy W' (some b)) (hb:w.heap.size + 4 ≤ b):P1 w l d c W':=by
 obtain ⟨h1,h2,h3,F⟩:=h
 have hn:∀ k:Nat,k < w.heap.size + 4→some k ≠ some b:=fun k hk e=>by injection e with e;omega
 exact ⟨(hg.block _ (Array.getElem?_eq_some_iff.1 h1).1 (hn _ (by omega))).trans h1,(hg.block _ (Array.getElem?_eq_some_iff.1 h2).1 (hn _ (by omega))).trans h2,(hg.block _ (Array.getElem?_eq_some_iff.1 h3).1 (hn _ (by omega))).trans h3,F.grown hg F.size (fun j e=>by injection e with e;omega)⟩
theorem one_cell (x:Int):∀ u ∈ [Value.int .i64 x],u.oneCell'=true:=by intro u hu;rw [List.mem_singleton.1 hu];rfl
theorem three_cells (x y z:Int):∀ u ∈ [Value.int .i64 x,.int .i64 y,.int .i64 z],u.oneCell'=true:=by
 intro u hu
 simp only [List.mem_cons,List.not_mem_nil,or_false] at hu
 rcases hu with rfl | rfl | rfl <;> rfl
theorem step_store_blk {P:Program} {ops:Array Oper} {op:Oper} {a:Act} {w:World} {K:Act→World→Prop} {Q:Exit→Act→World→Prop} {E:Prop} (hgd:op.guard=none) (ty:TypeId) (x y:Operand) (ho:op.op=.store ty x y)
    (b o:Nat) (v:Value) (hx:a.eval x=.pointer (some ⟨b,o,none⟩)) (hy:a.eval y=v) (cur:List Value) (t:TypeId) (hb:w.heap[b]?=some (.cells cur.toArray t (0,0)))
    (vs:List Value) (hvs:v.cells=vs.toArray) (n:Nat) (hn:vs.length=n) (hi:(P.info? ty).map (·.size)=some n) (hl:o + n ≤ cur.length) (h1:∀ u ∈ vs,u.oneCell'=true)
    (new:List Value) (hnew:spl cur o vs=new)
    (h:∀ w',w'.heap[b]?=some (.cells new.toArray t (0,0))→w.grownBy w' (some b)→K (a.put op.dst undef) w'):if Region.wanted op (yielded ops a.tmps)=true then Oper.wp P op a w K Q else E:=by
 subst hn hnew
 have hw:Region.wanted op (yielded ops a.tmps)=true:=by simp [Region.wanted,hgd]
 rw [if_pos hw]
 have hr:=run_storeVar_blk (P:=P) w b o ty v cur t hb (by rw [hi,hvs];rfl) (by rw [hvs];exact hl) (by rw [hvs];exact h1)
 unfold Oper.wp execOp
 simp only [ho,hx,hy,Instr.storeAt,Instr.sureAddr,Sem.run_bind,Sem.run_pure,Result.andThen_ok,hr]
 refine h _ ?_ ?_
 ·rw [hvs];exact setRow_heap w b _ _ t (0,0) hb
 ·exact ⟨rfl,rfl,rfl,by simp,fun k _ hk=>setRow_other w b k _ (fun e=>hk (by rw [e]))⟩
theorem p1_new (w:World) (l d c:Int) (m:Nat):P1 w l d c (((((w.alloc (.cells #[.int .i64 0,.int .i64 0,.int .i64 0] 25)).alloc (.cells #[.int .i64 0,.int .i64 0,.int .i64 0] 25)).alloc (.cells #[.int .i64 1,.int .i64 2,.int .i64 4] 3)).alloc (.cells #[.int .i64 l,.int .i64 d,.int .i64 c] 25)).drewN m):=by
 have s0:(w.alloc (.cells #[.int .i64 0,.int .i64 0,.int .i64 0] 25)).heap.size=w.heap.size + 1:=by simp
 refine ⟨?_,?_,?_,(below4 _ _ _ _ _).trans (belowN _ _ _)⟩
 ·exact ((hp_old _ _ _ (by simp;omega)).trans ((hp_old _ _ _ (by simp;omega)).trans ((hp_old _ _ _ (by simp)).trans (hp_new _ _ _ rfl))))
 ·exact ((hp_old _ _ _ (by simp)).trans ((hp_old _ _ _ (by simp)).trans (hp_new _ _ _ (by simp))))
 ·exact hp_new _ _ _ (by simp)
set_option maxHeartbeats 4000000 in
theorem playPair_w (a b k1 k3 v1 v3:Int) (k2 v2:Nat) (w:World) (ha:(-9223372036854775808 ≤ a∧a ≤ 9223372036854775807)) (hb:(-9223372036854775808 ≤ b∧b ≤ 9223372036854775807)) (b1:0 ≤ k1∧k1 < 2) (b2:k2 < 3) (b3:0 ≤ k3∧k3 < 4) (q1:0 ≤ v1∧v1 < 3) (q2:v2 < 3) (q3:0 ≤ v3∧v3 < 2)
    (W1:Hid (∀ V,Calls Tryz.prog 8 #[.int .i64 a,.int .i64 2] V fun e w'=>e=.returned (.int .i64 k1)∧w'=V))
    (W2:Hid (∀ V,Calls Tryz.prog 8 #[.int .i64 (a.tdiv 2),.int .i64 3] V fun e w'=>e=.returned (.int .i64 (k2:Int))∧w'=V))
    (W3:Hid (∀ V,Calls Tryz.prog 8 #[.int .i64 (a.tdiv 6),.int .i64 4] V fun e w'=>e=.returned (.int .i64 k3)∧w'=V))
    (X1:Hid (∀ V,Calls Tryz.prog 8 #[.int .i64 b,.int .i64 3] V fun e w'=>e=.returned (.int .i64 v1)∧w'=V))
    (X2:Hid (∀ V,Calls Tryz.prog 8 #[.int .i64 (b.tdiv 3),.int .i64 3] V fun e w'=>e=.returned (.int .i64 (v2:Int))∧w'=V))
    (X3:Hid (∀ V,Calls Tryz.prog 8 #[.int .i64 (b.tdiv 9),.int .i64 2] V fun e w'=>e=.returned (.int .i64 v3)∧w'=V)) :
    Calls Tryz.prog 5 #[.int .i64 a,.int .i64 b] w fun e w'=>∃ l d c l' d' c':Int,e=.returned (.tuple #[.agg #[.int .i64 l,.int .i64 d,.int .i64 c],.agg #[.int .i64 l',.int .i64 d',.int .i64 c']])∧gCan l d c l' d' c'=true∧Below w.heap.size w w':=by
 have q0:(0:Int) ≤ (k2:Int)∧(k2:Int) < 3:=by omega
 have hcell:=chk_cell ((w.alloc (.cells #[.int .i64 0,.int .i64 0,.int .i64 0] 25)).alloc (.cells #[.int .i64 0,.int .i64 0,.int .i64 0] 25)) k2 b2 3
 rw [show ((w.alloc (.cells #[.int .i64 0,.int .i64 0,.int .i64 0] 25)).alloc (.cells #[.int .i64 0,.int .i64 0,.int .i64 0] 25)).heap.size=w.heap.size + 1 + 1 by simp] at hcell
 have bc:=chk_bd k2
 have gc:=Lib.hid (chk_is k2)
 generalize chk k2=ck at hcell bc gc
 go_enter Tryz.func5,Tryz.ntmps5
 go_wp2_with fail
 (with_reducible refine (W1.out _).mono ?_);rintro e w' ⟨rfl,rfl⟩
 go_wp2_with fail
 (with_reducible refine (W2.out _).mono ?_);rintro e w' ⟨rfl,rfl⟩
 go_wp2_with fail
 (with_reducible refine (W3.out _).mono ?_);rintro e w' ⟨rfl,rfl⟩
 clear hcell
 go_upto_if 25 with fail
 go_cut [26,27,28,29,30,31,32] (fun _ _ _ _ _ _ _ W=>∃ (l d:Int),(l=5∨l=6)∧(3 ≤ d∧d ≤ 5∧(4 ≤ d∨l=5))∧P1 w l d ck W)
 case first =>
  by_cases h3:k3=3
  ·subst h3
   have hx2:∀ x y:Int,((((w.alloc (.cells #[.int .i64 0,.int .i64 0,.int .i64 0] 25)).alloc (.cells #[.int .i64 0,.int .i64 0,.int .i64 0] 25)).alloc (.cells #[.int .i64 1,.int .i64 2,.int .i64 4] 3)).alloc (.cells #[.int .i64 x,.int .i64 y,.int .i64 ck] 25)).cell? ⟨w.heap.size + 1 + 1 + 1,2,none⟩=some (.int .i64 ck):=fun x y=>by
    have h:=(gat_new (((w.alloc (.cells #[.int .i64 0,.int .i64 0,.int .i64 0] 25)).alloc (.cells #[.int .i64 0,.int .i64 0,.int .i64 0] 25)).alloc (.cells #[.int .i64 1,.int .i64 2,.int .i64 4] 3)) x y ck 25 (0,0)).2.2
    rw [show (((w.alloc (.cells #[.int .i64 0,.int .i64 0,.int .i64 0] 25)).alloc (.cells #[.int .i64 0,.int .i64 0,.int .i64 0] 25)).alloc (.cells #[.int .i64 1,.int .i64 2,.int .i64 4] 3)).heap.size=w.heap.size + 1 + 1 + 1 by simp] at h
    exact h
   have h4:IntKind.i64.wrap (4 + k1)=4 + k1:=IntWalk.i64_in _ (by omega)
   go_wp2_with fail
   go_region_held3 (fun W=>W.cell? ⟨w.heap.size + 1 + 1 + 1,2,none⟩=some (.int .i64 ck)) (first | exact hx2 _ _ | assumption) (first | (go_at_call 8;(with_reducible refine (W1.out _).mono ?_);rintro e w' ⟨rfl,rfl⟩;dsimp only))
   go_wp2_with fail
   go_meet
   exact ⟨6,4 + k1,.inr rfl,by omega,p1_new w 6 (4 + k1) ck 1⟩
  ·have e3:(k3 == 3)=false:=ibeq_no h3
   clear h3
   go_wp2_with fail
   go_meet
   exact ⟨5,3 + k1,.inl rfl,by omega,p1_new w 5 (3 + k1) ck 0⟩
 case rest =>
  obtain ⟨l,d,hl,hd,H1⟩:=hcut
  clear W1 W2 W3
  have HP:=Lib.hid H1
  obtain ⟨r1,r2,hx,F⟩:=H1
  have x0:=cell_of_row _ _ 0 _ _ _ hx
  have x1:=cell_of_row _ _ 1 _ _ _ hx
  have x2:=cell_of_row _ _ 2 _ _ _ hx
  clear r1 r2 hx F
  go_upto_region 5 with fail
  go_cut [8] (fun v W=>∃ (yb:Nat) (d2 c2:Int),v=.pointer (some ⟨yb,0,none⟩)∧w.heap.size + 4 ≤ yb∧(3 ≤ d2∧d ≤ d2∧d2 ≤ d + 2)∧(1 ≤ c2∧c2 ≤ 4∧(c2=1∨c2=2∨c2=4))∧P1 w l d ck W∧W.heap[yb]?=some (.cells #[.int .i64 l,.int .i64 d2,.int .i64 c2] 25 (0,0)))
  case first =>
   have hw1:IntKind.i64.wrap (d + v1)=d + v1:=IntWalk.i64_in _ (by omega)
   have hw2:IntKind.i64.wrap (b.tdiv 3)=b.tdiv 3:=IntWalk.i64_in _ (tdiv_i64 b 3 (by omega) hb)
   have bc2:=chk_bd v2
   have q2i:(0:Int) ≤ (v2:Int)∧(v2:Int) < 3:=by omega
   have x0':wc.cell? ⟨w.heap.size + 1 + 1 + 1,0,none⟩=some (.int .i64 l):=x0
   have x1':wc.cell? ⟨w.heap.size + 1 + 1 + 1,1,none⟩=some (.int .i64 d):=x1
   have hzw:w.heap.size + 1 + 1 + 1 < wc.heap.size:=World.block_lt_of_cell? _ _ x0'
   have hk:∀ V,Below wc.heap.size wc V→(V.cell? ⟨w.heap.size + 1 + 1 + 1,0,none⟩=some (.int .i64 l)∧V.cell? ⟨w.heap.size + 1 + 1 + 1,1,none⟩=some (.int .i64 d)):=fun V hV=>⟨(hV.cell (p:=⟨w.heap.size + 1 + 1 + 1,0,none⟩) hzw).trans x0',(hV.cell (p:=⟨w.heap.size + 1 + 1 + 1,1,none⟩) hzw).trans x1'⟩
   have hchk:∀ V:World,(V.alloc (.cells #[.int .i64 1,.int .i64 2,.int .i64 4] 3)).cell? ⟨V.heap.size,v2,none⟩=some (.int .i64 (chk v2)):=fun V=>chk_cell V v2 q2 3
   have gc2:=Lib.hid (chk_is v2)
   generalize chk v2=c2 at bc2 hchk gc2
   have hs0:=Lib.hid (hk wc (Below.refl _ _))
   have hsB:=Lib.hid (hk (wc.alloc (.cells #[.int .i64 1,.int .i64 2,.int .i64 4] 3)) (below1 _ _))
   have hsA:=Lib.hid (hk (wc.alloc (.cells #[.int .i64 0,.int .i64 0,.int .i64 0] 25)) (below1 _ _))
   have hsBA:=Lib.hid (hk ((wc.alloc (.cells #[.int .i64 1,.int .i64 2,.int .i64 4] 3)).alloc (.cells #[.int .i64 0,.int .i64 0,.int .i64 0] 25)) (below2 _ _ _))
   have hsAB:=Lib.hid (hk ((wc.alloc (.cells #[.int .i64 0,.int .i64 0,.int .i64 0] 25)).alloc (.cells #[.int .i64 1,.int .i64 2,.int .i64 4] 3)) (below2 _ _ _))
   have hsBAZ:=Lib.hid (hk ((wc.alloc (.cells #[.int .i64 1,.int .i64 2,.int .i64 4] 3)).alloc (.cells #[.int .i64 l,.int .i64 (d + v1),.int .i64 c2] 25)) (below2 _ _ _))
   have hsABZ:=Lib.hid (hk ((wc.alloc (.cells #[.int .i64 l,.int .i64 (d + v1),.int .i64 c2] 25)).alloc (.cells #[.int .i64 1,.int .i64 2,.int .i64 4] 3)) (below2 _ _ _))
   have hcB:=Lib.hid (hchk wc)
   have hcAB:Hid (((wc.alloc (.cells #[.int .i64 0,.int .i64 0,.int .i64 0] 25)).alloc (.cells #[.int .i64 1,.int .i64 2,.int .i64 4] 3)).cell? ⟨wc.heap.size + 1,v2,none⟩=some (.int .i64 c2)):=by
    have h:=hchk (wc.alloc (.cells #[.int .i64 0,.int .i64 0,.int .i64 0] 25))
    rw [show (wc.alloc (.cells #[.int .i64 0,.int .i64 0,.int .i64 0] 25)).heap.size=wc.heap.size + 1 by simp] at h
    exact h
   have hcABZ:Hid (((wc.alloc (.cells #[.int .i64 l,.int .i64 (d + v1),.int .i64 c2] 25)).alloc (.cells #[.int .i64 1,.int .i64 2,.int .i64 4] 3)).cell? ⟨wc.heap.size + 1,v2,none⟩=some (.int .i64 c2)):=by
    have h:=hchk (wc.alloc (.cells #[.int .i64 l,.int .i64 (d + v1),.int .i64 c2] 25))
    rw [show (wc.alloc (.cells #[.int .i64 l,.int .i64 (d + v1),.int .i64 c2] 25)).heap.size=wc.heap.size + 1 by simp] at h
    exact h
   have hcBA:Hid (((wc.alloc (.cells #[.int .i64 1,.int .i64 2,.int .i64 4] 3)).alloc (.cells #[.int .i64 0,.int .i64 0,.int .i64 0] 25)).cell? ⟨wc.heap.size,v2,none⟩=some (.int .i64 c2)):=(World.cell?_alloc_lt _ _ _ (by simp)).trans (hchk wc)
   have hcBAZ:Hid (((wc.alloc (.cells #[.int .i64 1,.int .i64 2,.int .i64 4] 3)).alloc (.cells #[.int .i64 l,.int .i64 (d + v1),.int .i64 c2] 25)).cell? ⟨wc.heap.size,v2,none⟩=some (.int .i64 c2)):=(World.cell?_alloc_lt _ _ _ (by simp)).trans (hchk wc)
   clear hk hchk x0 x1 x2 x0' x1' bc q0 X3
   refine wp_region_noPanic (wp_region_held_drew (S:=fun V=>V.cell? ⟨w.heap.size + 1 + 1 + 1,0,none⟩=some (.int .i64 l)∧V.cell? ⟨w.heap.size + 1 + 1 + 1,1,none⟩=some (.int .i64 d)) (by kernel_rfl) (hs0.out) (fun HS=>?_))
   try dsimp only at HS
   change wpAnyH _ _ _ _ _ 18 _ _ wc.drew
   refine' wpAnyH_take (i:=0) (v:=?_) rfl (by kernel_rfl) (by kernel_rfl) (by kernel_rfl) (fun _ _ _ h=>h) (Or.inl ⟨by rfl,fun V hV=>?hy⟩) HS ?_
   case hy=>((try dsimp only at hV);go_simp;try with_reducible rfl)
   try simp only [Act.put,List.getElem_toArray,List.getElem_cons_succ,List.getElem_cons_zero,List.setIfInBounds_toArray,List.set_cons_zero,List.set_cons_succ]
   refine' wpAnyH_take (i:=1) (v:=?_) rfl (by kernel_rfl) (by kernel_rfl) (by kernel_rfl) (fun _ _ _ h=>h) (Or.inl ⟨by rfl,fun V hV=>?hy⟩) HS ?_
   case hy=>((try dsimp only at hV);go_simp;try with_reducible rfl)
   try simp only [Act.put,List.getElem_toArray,List.getElem_cons_succ,List.getElem_cons_zero,List.setIfInBounds_toArray,List.set_cons_zero,List.set_cons_succ]
   refine' wpAnyH_take (i:=2) (v:=?_) rfl (by kernel_rfl) (by kernel_rfl) (by kernel_rfl) (fun _ _ _ h=>h) (Or.inl ⟨by rfl,fun V hV=>?hy⟩) HS ?_
   case hy=>((try dsimp only at hV);go_simp;try with_reducible rfl)
   try simp only [Act.put,List.getElem_toArray,List.getElem_cons_succ,List.getElem_cons_zero,List.setIfInBounds_toArray,List.set_cons_zero,List.set_cons_succ]
   refine' wpAnyH_take (i:=3) (v:=?_) rfl (by kernel_rfl) (by kernel_rfl) (by kernel_rfl) (fun _ _ _ h=>h) (Or.inl ⟨by rfl,fun V hV=>?hy⟩) HS ?_
   case hy=>((try dsimp only at hV);go_simp;try with_reducible rfl)
   try simp only [Act.put,List.getElem_toArray,List.getElem_cons_succ,List.getElem_cons_zero,List.setIfInBounds_toArray,List.set_cons_zero,List.set_cons_succ]
   refine' wpAnyH_take (i:=4) (v:=?_) rfl (by kernel_rfl) (by kernel_rfl) (by kernel_rfl) (fun _ _ _ h=>h) (Or.inl ⟨by rfl,fun V hV=>?hy⟩) HS ?_
   case hy=>((try dsimp only at hV);go_simp;try with_reducible rfl)
   try simp only [Act.put,List.getElem_toArray,List.getElem_cons_succ,List.getElem_cons_zero,List.setIfInBounds_toArray,List.set_cons_zero,List.set_cons_succ]
   refine' wpAnyH_take (i:=5) (v:=?_) rfl (by kernel_rfl) (by kernel_rfl) (by kernel_rfl) (fun _ _ _ h=>h) (Or.inl ⟨by rfl,fun V hV=>?hy⟩) HS ?_
   case hy=>((try dsimp only at hV);go_simp;try with_reducible rfl)
   try simp only [Act.put,List.getElem_toArray,List.getElem_cons_succ,List.getElem_cons_zero,List.setIfInBounds_toArray,List.set_cons_zero,List.set_cons_succ]
   refine' wpAnyH_take (i:=9) (v:=?_) rfl (by kernel_rfl) (by kernel_rfl) (by kernel_rfl) (fun _ _ _ h=>h) (Or.inl ⟨by rfl,fun V hV=>?hy⟩) HS ?_
   case hy=>((try dsimp only at hV);go_simp;try with_reducible rfl)
   try simp only [Act.put,List.getElem_toArray,List.getElem_cons_succ,List.getElem_cons_zero,List.setIfInBounds_toArray,List.set_cons_zero,List.set_cons_succ]
   refine' wpAnyH_take (i:=10) (v:=?_) rfl (by kernel_rfl) (by kernel_rfl) (by kernel_rfl) (fun _ _ _ h=>h) (Or.inl ⟨by rfl,fun V hV=>?hy⟩) HS ?_
   case hy=>((try dsimp only at hV);go_simp;try with_reducible rfl)
   try simp only [Act.put,List.getElem_toArray,List.getElem_cons_succ,List.getElem_cons_zero,List.setIfInBounds_toArray,List.set_cons_zero,List.set_cons_succ]
   refine' wpAnyH_take (i:=11) (v:=?_) rfl (by kernel_rfl) (by kernel_rfl) (by kernel_rfl) (fun _ _ _ h=>h) (Or.inl ⟨by rfl,fun V hV=>?hy⟩) HS ?_
   case hy=>((try dsimp only at hV);go_simp;try with_reducible rfl)
   try simp only [Act.put,List.getElem_toArray,List.getElem_cons_succ,List.getElem_cons_zero,List.setIfInBounds_toArray,List.set_cons_zero,List.set_cons_succ]
   refine wpAnyH_ready (rs:=[6,8,16]) (by kernel_rfl) (by simp) ?_
   refine AllReadyH.cons rfl (fun K hK=>?_) ?_
   ·go_simp
    go_at_call 8
    refine (X1.out _).mono ?_
    rintro e w' ⟨rfl,rfl⟩
    dsimp only
    refine hK.out _ _ (HS) (fun HS=>?_)
    clear hK
    try simp only [Act.put,List.getElem_toArray,List.getElem_cons_succ,List.getElem_cons_zero,List.setIfInBounds_toArray,List.set_cons_zero,List.set_cons_succ]
    refine' wpAnyH_take (i:=7) (v:=?_) rfl (by kernel_rfl) (by kernel_rfl) (by kernel_rfl) (fun _ _ _ h=>h) (Or.inl ⟨by rfl,fun V hV=>?hy⟩) HS ?_
    case hy=>((try dsimp only at hV);go_simp;try with_reducible rfl)
    try simp only [Act.put,List.getElem_toArray,List.getElem_cons_succ,List.getElem_cons_zero,List.setIfInBounds_toArray,List.set_cons_zero,List.set_cons_succ]
    refine wpAnyH_ready (rs:=[8,12,16]) (by kernel_rfl) (by simp) ?_
    refine AllReadyH.cons rfl (fun K hK=>?_) ?_
    ·go_simp
     refine hK.out _ _ (hsB.out) (fun HS=>?_)
     clear hK
     try simp only [Act.put,List.getElem_toArray,List.getElem_cons_succ,List.getElem_cons_zero,List.setIfInBounds_toArray,List.set_cons_zero,List.set_cons_succ]
     refine wpAnyH_mono (S':=fun V=>(V.cell? ⟨w.heap.size + 1 + 1 + 1,0,none⟩=some (.int .i64 l)∧V.cell? ⟨w.heap.size + 1 + 1 + 1,1,none⟩=some (.int .i64 d))∧V.cell? ⟨wc.heap.size,v2,none⟩=some (.int .i64 c2)) (fun _ h=>h.1) _ _ _ _ ?_
     replace HS:=And.intro HS hcB.out
     try dsimp only at HS
     refine wpAnyH_ready (rs:=[12,16]) (by kernel_rfl) (by simp) ?_
     refine AllReadyH.cons rfl (fun K hK=>?_) ?_
     ·go_simp
      go_at_call 8
      refine (X2.out _).mono ?_
      rintro e w' ⟨rfl,rfl⟩
      dsimp only
      refine hK.out _ _ (HS) (fun HS=>?_)
      clear hK
      try simp only [Act.put,List.getElem_toArray,List.getElem_cons_succ,List.getElem_cons_zero,List.setIfInBounds_toArray,List.set_cons_zero,List.set_cons_succ]
      refine' wpAnyH_take (i:=13) (v:=?_) rfl (by kernel_rfl) (by kernel_rfl) (by kernel_rfl) (fun _ _ _ h=>h) (Or.inl ⟨by rfl,fun V hV=>?hy⟩) HS ?_
      case hy=>((try dsimp only at hV);go_simp;try with_reducible rfl)
      try simp only [Act.put,List.getElem_toArray,List.getElem_cons_succ,List.getElem_cons_zero,List.setIfInBounds_toArray,List.set_cons_zero,List.set_cons_succ]
      refine' wpAnyH_take (i:=14) (v:=?_) rfl (by kernel_rfl) (by kernel_rfl) (by kernel_rfl) (fun _ _ _ h=>h) (Or.inl ⟨by rfl,fun V hV=>?hy⟩) HS ?_
      case hy=>((try dsimp only at hV);go_simp;try with_reducible rfl)
      try simp only [Act.put,List.getElem_toArray,List.getElem_cons_succ,List.getElem_cons_zero,List.setIfInBounds_toArray,List.set_cons_zero,List.set_cons_succ]
      refine' wpAnyH_take (i:=15) (v:=?_) rfl (by kernel_rfl) (by kernel_rfl) (by kernel_rfl) (fun _ _ _ h=>h) (Or.inl ⟨by rfl,fun V hV=>?hy⟩) HS ?_
      case hy=>((try dsimp only at hV);go_simp;try with_reducible rfl)
      try simp only [Act.put,List.getElem_toArray,List.getElem_cons_succ,List.getElem_cons_zero,List.setIfInBounds_toArray,List.set_cons_zero,List.set_cons_succ]
      refine wpAnyH_ready (rs:=[16]) (by kernel_rfl) (by simp) ?_
      refine AllReadyH.cons rfl (fun K hK=>?_) ?_
      ·go_simp
       refine hK.out _ _ (⟨hsBA.out,hcBA.out⟩) (fun HS=>?_)
       clear hK
       try simp only [Act.put,List.getElem_toArray,List.getElem_cons_succ,List.getElem_cons_zero,List.setIfInBounds_toArray,List.set_cons_zero,List.set_cons_succ]
       refine wpAnyH_ready (rs:=[17]) (by kernel_rfl) (by simp) ?_
       refine AllReadyH.cons rfl (fun K hK=>?_) ?_
       ·go_simp
        refine hK.out _ _ (⟨hsBAZ.out,hcBAZ.out⟩) (fun HS=>?_)
        clear hK
        try simp only [Act.put,List.getElem_toArray,List.getElem_cons_succ,List.getElem_cons_zero,List.setIfInBounds_toArray,List.set_cons_zero,List.set_cons_succ]
        refine wpAnyH_done (by kernel_rfl) ?_ _
        refine NoPanic.normal ?_
        try simp only [Exit.then]
        refine ‹∀ (a':Act) (w':World),Met _ a' w'→_› _ _ ?_
        go_meet
        exact ⟨wc.heap.size + 1,d + v1,c2,rfl,by omega,by omega,⟨by omega,by omega,gc2.out⟩,HP.out.later (below2 wc _ _).drew,hp_new _ _ _ (by simp)⟩
       exact AllReadyH.nil
      exact AllReadyH.nil
     refine AllReadyH.cons rfl (fun K hK=>?_) ?_
     ·go_simp
      refine hK.out _ _ (⟨hsBA.out,hcBA.out⟩) (fun HS=>?_)
      clear hK
      try simp only [Act.put,List.getElem_toArray,List.getElem_cons_succ,List.getElem_cons_zero,List.setIfInBounds_toArray,List.set_cons_zero,List.set_cons_succ]
      refine wpAnyH_ready (rs:=[12]) (by kernel_rfl) (by simp) ?_
      refine AllReadyH.cons rfl (fun K hK=>?_) ?_
      ·go_simp
       go_at_call 8
       refine (X2.out _).mono ?_
       rintro e w' ⟨rfl,rfl⟩
       dsimp only
       refine hK.out _ _ (HS) (fun HS=>?_)
       clear hK
       try simp only [Act.put,List.getElem_toArray,List.getElem_cons_succ,List.getElem_cons_zero,List.setIfInBounds_toArray,List.set_cons_zero,List.set_cons_succ]
       refine' wpAnyH_take (i:=13) (v:=?_) rfl (by kernel_rfl) (by kernel_rfl) (by kernel_rfl) (fun _ _ _ h=>h) (Or.inl ⟨by rfl,fun V hV=>?hy⟩) HS ?_
       case hy=>((try dsimp only at hV);go_simp;try with_reducible rfl)
       try simp only [Act.put,List.getElem_toArray,List.getElem_cons_succ,List.getElem_cons_zero,List.setIfInBounds_toArray,List.set_cons_zero,List.set_cons_succ]
       refine' wpAnyH_take (i:=14) (v:=?_) rfl (by kernel_rfl) (by kernel_rfl) (by kernel_rfl) (fun _ _ _ h=>h) (Or.inl ⟨by rfl,fun V hV=>?hy⟩) HS ?_
       case hy=>((try dsimp only at hV);go_simp;try with_reducible rfl)
       try simp only [Act.put,List.getElem_toArray,List.getElem_cons_succ,List.getElem_cons_zero,List.setIfInBounds_toArray,List.set_cons_zero,List.set_cons_succ]
       refine' wpAnyH_take (i:=15) (v:=?_) rfl (by kernel_rfl) (by kernel_rfl) (by kernel_rfl) (fun _ _ _ h=>h) (Or.inl ⟨by rfl,fun V hV=>?hy⟩) HS ?_
       case hy=>((try dsimp only at hV);go_simp;try with_reducible rfl)
       try simp only [Act.put,List.getElem_toArray,List.getElem_cons_succ,List.getElem_cons_zero,List.setIfInBounds_toArray,List.set_cons_zero,List.set_cons_succ]
       refine wpAnyH_ready (rs:=[17]) (by kernel_rfl) (by simp) ?_
       refine AllReadyH.cons rfl (fun K hK=>?_) ?_
       ·go_simp
        refine hK.out _ _ (⟨hsBAZ.out,hcBAZ.out⟩) (fun HS=>?_)
        clear hK
        try simp only [Act.put,List.getElem_toArray,List.getElem_cons_succ,List.getElem_cons_zero,List.setIfInBounds_toArray,List.set_cons_zero,List.set_cons_succ]
        refine wpAnyH_done (by kernel_rfl) ?_ _
        refine NoPanic.normal ?_
        try simp only [Exit.then]
        refine ‹∀ (a':Act) (w':World),Met _ a' w'→_› _ _ ?_
        go_meet
        exact ⟨wc.heap.size + 1,d + v1,c2,rfl,by omega,by omega,⟨by omega,by omega,gc2.out⟩,HP.out.later (below2 wc _ _).drew,hp_new _ _ _ (by simp)⟩
       exact AllReadyH.nil
      exact AllReadyH.nil
     exact AllReadyH.nil
    refine AllReadyH.cons rfl (fun K hK=>?_) ?_
    ·go_simp
     go_at_call 8
     refine (X2.out _).mono ?_
     rintro e w' ⟨rfl,rfl⟩
     dsimp only
     refine hK.out _ _ (HS) (fun HS=>?_)
     clear hK
     try simp only [Act.put,List.getElem_toArray,List.getElem_cons_succ,List.getElem_cons_zero,List.setIfInBounds_toArray,List.set_cons_zero,List.set_cons_succ]
     refine wpAnyH_ready (rs:=[8,16]) (by kernel_rfl) (by simp) ?_
     refine AllReadyH.cons rfl (fun K hK=>?_) ?_
     ·go_simp
      refine hK.out _ _ (hsB.out) (fun HS=>?_)
      clear hK
      try simp only [Act.put,List.getElem_toArray,List.getElem_cons_succ,List.getElem_cons_zero,List.setIfInBounds_toArray,List.set_cons_zero,List.set_cons_succ]
      refine wpAnyH_mono (S':=fun V=>(V.cell? ⟨w.heap.size + 1 + 1 + 1,0,none⟩=some (.int .i64 l)∧V.cell? ⟨w.heap.size + 1 + 1 + 1,1,none⟩=some (.int .i64 d))∧V.cell? ⟨wc.heap.size,v2,none⟩=some (.int .i64 c2)) (fun _ h=>h.1) _ _ _ _ ?_
      replace HS:=And.intro HS hcB.out
      try dsimp only at HS
      refine' wpAnyH_take (i:=13) (v:=?_) rfl (by kernel_rfl) (by kernel_rfl) (by kernel_rfl) (fun _ _ _ h=>h) (Or.inl ⟨by rfl,fun V hV=>?hy⟩) HS ?_
      case hy=>((try dsimp only at hV);go_simp;try with_reducible rfl)
      try simp only [Act.put,List.getElem_toArray,List.getElem_cons_succ,List.getElem_cons_zero,List.setIfInBounds_toArray,List.set_cons_zero,List.set_cons_succ]
      refine' wpAnyH_take (i:=14) (v:=?_) rfl (by kernel_rfl) (by kernel_rfl) (by kernel_rfl) (fun _ _ _ h=>h) (Or.inl ⟨by rfl,fun V hV=>?hy⟩) HS ?_
      case hy=>((try dsimp only at hV);go_simp;try with_reducible rfl)
      try simp only [Act.put,List.getElem_toArray,List.getElem_cons_succ,List.getElem_cons_zero,List.setIfInBounds_toArray,List.set_cons_zero,List.set_cons_succ]
      refine' wpAnyH_take (i:=15) (v:=?_) rfl (by kernel_rfl) (by kernel_rfl) (by kernel_rfl) (fun _ _ _ h=>h) (Or.inl ⟨by rfl,fun V hV=>?hy⟩) HS ?_
      case hy=>((try dsimp only at hV);go_simp;try with_reducible rfl)
      try simp only [Act.put,List.getElem_toArray,List.getElem_cons_succ,List.getElem_cons_zero,List.setIfInBounds_toArray,List.set_cons_zero,List.set_cons_succ]
      refine wpAnyH_ready (rs:=[16]) (by kernel_rfl) (by simp) ?_
      refine AllReadyH.cons rfl (fun K hK=>?_) ?_
      ·go_simp
       refine hK.out _ _ (⟨hsBA.out,hcBA.out⟩) (fun HS=>?_)
       clear hK
       try simp only [Act.put,List.getElem_toArray,List.getElem_cons_succ,List.getElem_cons_zero,List.setIfInBounds_toArray,List.set_cons_zero,List.set_cons_succ]
       refine wpAnyH_ready (rs:=[17]) (by kernel_rfl) (by simp) ?_
       refine AllReadyH.cons rfl (fun K hK=>?_) ?_
       ·go_simp
        refine hK.out _ _ (⟨hsBAZ.out,hcBAZ.out⟩) (fun HS=>?_)
        clear hK
        try simp only [Act.put,List.getElem_toArray,List.getElem_cons_succ,List.getElem_cons_zero,List.setIfInBounds_toArray,List.set_cons_zero,List.set_cons_succ]
        refine wpAnyH_done (by kernel_rfl) ?_ _
        refine NoPanic.normal ?_
        try simp only [Exit.then]
        refine ‹∀ (a':Act) (w':World),Met _ a' w'→_› _ _ ?_
        go_meet
        exact ⟨wc.heap.size + 1,d + v1,c2,rfl,by omega,by omega,⟨by omega,by omega,gc2.out⟩,HP.out.later (below2 wc _ _).drew,hp_new _ _ _ (by simp)⟩
       exact AllReadyH.nil
      exact AllReadyH.nil
     refine AllReadyH.cons rfl (fun K hK=>?_) ?_
     ·go_simp
      refine hK.out _ _ (hsA.out) (fun HS=>?_)
      clear hK
      try simp only [Act.put,List.getElem_toArray,List.getElem_cons_succ,List.getElem_cons_zero,List.setIfInBounds_toArray,List.set_cons_zero,List.set_cons_succ]
      refine wpAnyH_ready (rs:=[8]) (by kernel_rfl) (by simp) ?_
      refine AllReadyH.cons rfl (fun K hK=>?_) ?_
      ·go_simp
       refine hK.out _ _ (hsAB.out) (fun HS=>?_)
       clear hK
       try simp only [Act.put,List.getElem_toArray,List.getElem_cons_succ,List.getElem_cons_zero,List.setIfInBounds_toArray,List.set_cons_zero,List.set_cons_succ]
       refine wpAnyH_mono (S':=fun V=>(V.cell? ⟨w.heap.size + 1 + 1 + 1,0,none⟩=some (.int .i64 l)∧V.cell? ⟨w.heap.size + 1 + 1 + 1,1,none⟩=some (.int .i64 d))∧V.cell? ⟨wc.heap.size + 1,v2,none⟩=some (.int .i64 c2)) (fun _ h=>h.1) _ _ _ _ ?_
       replace HS:=And.intro HS hcAB.out
       try dsimp only at HS
       refine' wpAnyH_take (i:=13) (v:=?_) rfl (by kernel_rfl) (by kernel_rfl) (by kernel_rfl) (fun _ _ _ h=>h) (Or.inl ⟨by rfl,fun V hV=>?hy⟩) HS ?_
       case hy=>((try dsimp only at hV);go_simp;try with_reducible rfl)
       try simp only [Act.put,List.getElem_toArray,List.getElem_cons_succ,List.getElem_cons_zero,List.setIfInBounds_toArray,List.set_cons_zero,List.set_cons_succ]
       refine' wpAnyH_take (i:=14) (v:=?_) rfl (by kernel_rfl) (by kernel_rfl) (by kernel_rfl) (fun _ _ _ h=>h) (Or.inl ⟨by rfl,fun V hV=>?hy⟩) HS ?_
       case hy=>((try dsimp only at hV);go_simp;try with_reducible rfl)
       try simp only [Act.put,List.getElem_toArray,List.getElem_cons_succ,List.getElem_cons_zero,List.setIfInBounds_toArray,List.set_cons_zero,List.set_cons_succ]
       refine' wpAnyH_take (i:=15) (v:=?_) rfl (by kernel_rfl) (by kernel_rfl) (by kernel_rfl) (fun _ _ _ h=>h) (Or.inl ⟨by rfl,fun V hV=>?hy⟩) HS ?_
       case hy=>((try dsimp only at hV);go_simp;try with_reducible rfl)
       try simp only [Act.put,List.getElem_toArray,List.getElem_cons_succ,List.getElem_cons_zero,List.setIfInBounds_toArray,List.set_cons_zero,List.set_cons_succ]
       refine wpAnyH_ready (rs:=[17]) (by kernel_rfl) (by simp) ?_
       refine AllReadyH.cons rfl (fun K hK=>?_) ?_
       ·go_simp
        refine hK.out _ _ (⟨hsABZ.out,hcABZ.out⟩) (fun HS=>?_)
        clear hK
        try simp only [Act.put,List.getElem_toArray,List.getElem_cons_succ,List.getElem_cons_zero,List.setIfInBounds_toArray,List.set_cons_zero,List.set_cons_succ]
        refine wpAnyH_done (by kernel_rfl) ?_ _
        refine NoPanic.normal ?_
        try simp only [Exit.then]
        refine ‹∀ (a':Act) (w':World),Met _ a' w'→_› _ _ ?_
        go_meet
        exact ⟨wc.heap.size,d + v1,c2,rfl,by omega,by omega,⟨by omega,by omega,gc2.out⟩,HP.out.later (below2 wc _ _).drew,(hp_old _ _ _ (by simp)).trans (hp_new _ _ _ rfl)⟩
       exact AllReadyH.nil
      exact AllReadyH.nil
     exact AllReadyH.nil
    refine AllReadyH.cons rfl (fun K hK=>?_) ?_
    ·go_simp
     refine hK.out _ _ (hsA.out) (fun HS=>?_)
     clear hK
     try simp only [Act.put,List.getElem_toArray,List.getElem_cons_succ,List.getElem_cons_zero,List.setIfInBounds_toArray,List.set_cons_zero,List.set_cons_succ]
     refine wpAnyH_ready (rs:=[8,12]) (by kernel_rfl) (by simp) ?_
     refine AllReadyH.cons rfl (fun K hK=>?_) ?_
     ·go_simp
      refine hK.out _ _ (hsAB.out) (fun HS=>?_)
      clear hK
      try simp only [Act.put,List.getElem_toArray,List.getElem_cons_succ,List.getElem_cons_zero,List.setIfInBounds_toArray,List.set_cons_zero,List.set_cons_succ]
      refine wpAnyH_mono (S':=fun V=>(V.cell? ⟨w.heap.size + 1 + 1 + 1,0,none⟩=some (.int .i64 l)∧V.cell? ⟨w.heap.size + 1 + 1 + 1,1,none⟩=some (.int .i64 d))∧V.cell? ⟨wc.heap.size + 1,v2,none⟩=some (.int .i64 c2)) (fun _ h=>h.1) _ _ _ _ ?_
      replace HS:=And.intro HS hcAB.out
      try dsimp only at HS
      refine wpAnyH_ready (rs:=[12]) (by kernel_rfl) (by simp) ?_
      refine AllReadyH.cons rfl (fun K hK=>?_) ?_
      ·go_simp
       go_at_call 8
       refine (X2.out _).mono ?_
       rintro e w' ⟨rfl,rfl⟩
       dsimp only
       refine hK.out _ _ (HS) (fun HS=>?_)
       clear hK
       try simp only [Act.put,List.getElem_toArray,List.getElem_cons_succ,List.getElem_cons_zero,List.setIfInBounds_toArray,List.set_cons_zero,List.set_cons_succ]
       refine' wpAnyH_take (i:=13) (v:=?_) rfl (by kernel_rfl) (by kernel_rfl) (by kernel_rfl) (fun _ _ _ h=>h) (Or.inl ⟨by rfl,fun V hV=>?hy⟩) HS ?_
       case hy=>((try dsimp only at hV);go_simp;try with_reducible rfl)
       try simp only [Act.put,List.getElem_toArray,List.getElem_cons_succ,List.getElem_cons_zero,List.setIfInBounds_toArray,List.set_cons_zero,List.set_cons_succ]
       refine' wpAnyH_take (i:=14) (v:=?_) rfl (by kernel_rfl) (by kernel_rfl) (by kernel_rfl) (fun _ _ _ h=>h) (Or.inl ⟨by rfl,fun V hV=>?hy⟩) HS ?_
       case hy=>((try dsimp only at hV);go_simp;try with_reducible rfl)
       try simp only [Act.put,List.getElem_toArray,List.getElem_cons_succ,List.getElem_cons_zero,List.setIfInBounds_toArray,List.set_cons_zero,List.set_cons_succ]
       refine' wpAnyH_take (i:=15) (v:=?_) rfl (by kernel_rfl) (by kernel_rfl) (by kernel_rfl) (fun _ _ _ h=>h) (Or.inl ⟨by rfl,fun V hV=>?hy⟩) HS ?_
       case hy=>((try dsimp only at hV);go_simp;try with_reducible rfl)
       try simp only [Act.put,List.getElem_toArray,List.getElem_cons_succ,List.getElem_cons_zero,List.setIfInBounds_toArray,List.set_cons_zero,List.set_cons_succ]
       refine wpAnyH_ready (rs:=[17]) (by kernel_rfl) (by simp) ?_
       refine AllReadyH.cons rfl (fun K hK=>?_) ?_
       ·go_simp
        refine hK.out _ _ (⟨hsABZ.out,hcABZ.out⟩) (fun HS=>?_)
        clear hK
        try simp only [Act.put,List.getElem_toArray,List.getElem_cons_succ,List.getElem_cons_zero,List.setIfInBounds_toArray,List.set_cons_zero,List.set_cons_succ]
        refine wpAnyH_done (by kernel_rfl) ?_ _
        refine NoPanic.normal ?_
        try simp only [Exit.then]
        refine ‹∀ (a':Act) (w':World),Met _ a' w'→_› _ _ ?_
        go_meet
        exact ⟨wc.heap.size,d + v1,c2,rfl,by omega,by omega,⟨by omega,by omega,gc2.out⟩,HP.out.later (below2 wc _ _).drew,(hp_old _ _ _ (by simp)).trans (hp_new _ _ _ rfl)⟩
       exact AllReadyH.nil
      exact AllReadyH.nil
     refine AllReadyH.cons rfl (fun K hK=>?_) ?_
     ·go_simp
      go_at_call 8
      refine (X2.out _).mono ?_
      rintro e w' ⟨rfl,rfl⟩
      dsimp only
      refine hK.out _ _ (HS) (fun HS=>?_)
      clear hK
      try simp only [Act.put,List.getElem_toArray,List.getElem_cons_succ,List.getElem_cons_zero,List.setIfInBounds_toArray,List.set_cons_zero,List.set_cons_succ]
      refine wpAnyH_ready (rs:=[8]) (by kernel_rfl) (by simp) ?_
      refine AllReadyH.cons rfl (fun K hK=>?_) ?_
      ·go_simp
       refine hK.out _ _ (hsAB.out) (fun HS=>?_)
       clear hK
       try simp only [Act.put,List.getElem_toArray,List.getElem_cons_succ,List.getElem_cons_zero,List.setIfInBounds_toArray,List.set_cons_zero,List.set_cons_succ]
       refine wpAnyH_mono (S':=fun V=>(V.cell? ⟨w.heap.size + 1 + 1 + 1,0,none⟩=some (.int .i64 l)∧V.cell? ⟨w.heap.size + 1 + 1 + 1,1,none⟩=some (.int .i64 d))∧V.cell? ⟨wc.heap.size + 1,v2,none⟩=some (.int .i64 c2)) (fun _ h=>h.1) _ _ _ _ ?_
       replace HS:=And.intro HS hcAB.out
       try dsimp only at HS
       refine' wpAnyH_take (i:=13) (v:=?_) rfl (by kernel_rfl) (by kernel_rfl) (by kernel_rfl) (fun _ _ _ h=>h) (Or.inl ⟨by rfl,fun V hV=>?hy⟩) HS ?_
       case hy=>((try dsimp only at hV);go_simp;try with_reducible rfl)
       try simp only [Act.put,List.getElem_toArray,List.getElem_cons_succ,List.getElem_cons_zero,List.setIfInBounds_toArray,List.set_cons_zero,List.set_cons_succ]
       refine' wpAnyH_take (i:=14) (v:=?_) rfl (by kernel_rfl) (by kernel_rfl) (by kernel_rfl) (fun _ _ _ h=>h) (Or.inl ⟨by rfl,fun V hV=>?hy⟩) HS ?_
       case hy=>((try dsimp only at hV);go_simp;try with_reducible rfl)
       try simp only [Act.put,List.getElem_toArray,List.getElem_cons_succ,List.getElem_cons_zero,List.setIfInBounds_toArray,List.set_cons_zero,List.set_cons_succ]
       refine' wpAnyH_take (i:=15) (v:=?_) rfl (by kernel_rfl) (by kernel_rfl) (by kernel_rfl) (fun _ _ _ h=>h) (Or.inl ⟨by rfl,fun V hV=>?hy⟩) HS ?_
       case hy=>((try dsimp only at hV);go_simp;try with_reducible rfl)
       try simp only [Act.put,List.getElem_toArray,List.getElem_cons_succ,List.getElem_cons_zero,List.setIfInBounds_toArray,List.set_cons_zero,List.set_cons_succ]
       refine wpAnyH_ready (rs:=[17]) (by kernel_rfl) (by simp) ?_
       refine AllReadyH.cons rfl (fun K hK=>?_) ?_
       ·go_simp
        refine hK.out _ _ (⟨hsABZ.out,hcABZ.out⟩) (fun HS=>?_)
        clear hK
        try simp only [Act.put,List.getElem_toArray,List.getElem_cons_succ,List.getElem_cons_zero,List.setIfInBounds_toArray,List.set_cons_zero,List.set_cons_succ]
        refine wpAnyH_done (by kernel_rfl) ?_ _
        refine NoPanic.normal ?_
        try simp only [Exit.then]
        refine ‹∀ (a':Act) (w':World),Met _ a' w'→_› _ _ ?_
        go_meet
        exact ⟨wc.heap.size,d + v1,c2,rfl,by omega,by omega,⟨by omega,by omega,gc2.out⟩,HP.out.later (below2 wc _ _).drew,(hp_old _ _ _ (by simp)).trans (hp_new _ _ _ rfl)⟩
       exact AllReadyH.nil
      exact AllReadyH.nil
     exact AllReadyH.nil
    exact AllReadyH.nil
   refine AllReadyH.cons rfl (fun K hK=>?_) ?_
   ·go_simp
    refine hK.out _ _ (hsB.out) (fun HS=>?_)
    clear hK
    try simp only [Act.put,List.getElem_toArray,List.getElem_cons_succ,List.getElem_cons_zero,List.setIfInBounds_toArray,List.set_cons_zero,List.set_cons_succ]
    refine wpAnyH_mono (S':=fun V=>(V.cell? ⟨w.heap.size + 1 + 1 + 1,0,none⟩=some (.int .i64 l)∧V.cell? ⟨w.heap.size + 1 + 1 + 1,1,none⟩=some (.int .i64 d))∧V.cell? ⟨wc.heap.size,v2,none⟩=some (.int .i64 c2)) (fun _ h=>h.1) _ _ _ _ ?_
    replace HS:=And.intro HS hcB.out
    try dsimp only at HS
    refine wpAnyH_ready (rs:=[6,16]) (by kernel_rfl) (by simp) ?_
    refine AllReadyH.cons rfl (fun K hK=>?_) ?_
    ·go_simp
     go_at_call 8
     refine (X1.out _).mono ?_
     rintro e w' ⟨rfl,rfl⟩
     dsimp only
     refine hK.out _ _ (HS) (fun HS=>?_)
     clear hK
     try simp only [Act.put,List.getElem_toArray,List.getElem_cons_succ,List.getElem_cons_zero,List.setIfInBounds_toArray,List.set_cons_zero,List.set_cons_succ]
     refine' wpAnyH_take (i:=7) (v:=?_) rfl (by kernel_rfl) (by kernel_rfl) (by kernel_rfl) (fun _ _ _ h=>h) (Or.inl ⟨by rfl,fun V hV=>?hy⟩) HS ?_
     case hy=>((try dsimp only at hV);go_simp;try with_reducible rfl)
     try simp only [Act.put,List.getElem_toArray,List.getElem_cons_succ,List.getElem_cons_zero,List.setIfInBounds_toArray,List.set_cons_zero,List.set_cons_succ]
     refine wpAnyH_ready (rs:=[12,16]) (by kernel_rfl) (by simp) ?_
     refine AllReadyH.cons rfl (fun K hK=>?_) ?_
     ·go_simp
      go_at_call 8
      refine (X2.out _).mono ?_
      rintro e w' ⟨rfl,rfl⟩
      dsimp only
      refine hK.out _ _ (HS) (fun HS=>?_)
      clear hK
      try simp only [Act.put,List.getElem_toArray,List.getElem_cons_succ,List.getElem_cons_zero,List.setIfInBounds_toArray,List.set_cons_zero,List.set_cons_succ]
      refine' wpAnyH_take (i:=13) (v:=?_) rfl (by kernel_rfl) (by kernel_rfl) (by kernel_rfl) (fun _ _ _ h=>h) (Or.inl ⟨by rfl,fun V hV=>?hy⟩) HS ?_
      case hy=>((try dsimp only at hV);go_simp;try with_reducible rfl)
      try simp only [Act.put,List.getElem_toArray,List.getElem_cons_succ,List.getElem_cons_zero,List.setIfInBounds_toArray,List.set_cons_zero,List.set_cons_succ]
      refine' wpAnyH_take (i:=14) (v:=?_) rfl (by kernel_rfl) (by kernel_rfl) (by kernel_rfl) (fun _ _ _ h=>h) (Or.inl ⟨by rfl,fun V hV=>?hy⟩) HS ?_
      case hy=>((try dsimp only at hV);go_simp;try with_reducible rfl)
      try simp only [Act.put,List.getElem_toArray,List.getElem_cons_succ,List.getElem_cons_zero,List.setIfInBounds_toArray,List.set_cons_zero,List.set_cons_succ]
      refine' wpAnyH_take (i:=15) (v:=?_) rfl (by kernel_rfl) (by kernel_rfl) (by kernel_rfl) (fun _ _ _ h=>h) (Or.inl ⟨by rfl,fun V hV=>?hy⟩) HS ?_
      case hy=>((try dsimp only at hV);go_simp;try with_reducible rfl)
      try simp only [Act.put,List.getElem_toArray,List.getElem_cons_succ,List.getElem_cons_zero,List.setIfInBounds_toArray,List.set_cons_zero,List.set_cons_succ]
      refine wpAnyH_ready (rs:=[16]) (by kernel_rfl) (by simp) ?_
      refine AllReadyH.cons rfl (fun K hK=>?_) ?_
      ·go_simp
       refine hK.out _ _ (⟨hsBA.out,hcBA.out⟩) (fun HS=>?_)
       clear hK
       try simp only [Act.put,List.getElem_toArray,List.getElem_cons_succ,List.getElem_cons_zero,List.setIfInBounds_toArray,List.set_cons_zero,List.set_cons_succ]
       refine wpAnyH_ready (rs:=[17]) (by kernel_rfl) (by simp) ?_
       refine AllReadyH.cons rfl (fun K hK=>?_) ?_
       ·go_simp
        refine hK.out _ _ (⟨hsBAZ.out,hcBAZ.out⟩) (fun HS=>?_)
        clear hK
        try simp only [Act.put,List.getElem_toArray,List.getElem_cons_succ,List.getElem_cons_zero,List.setIfInBounds_toArray,List.set_cons_zero,List.set_cons_succ]
        refine wpAnyH_done (by kernel_rfl) ?_ _
        refine NoPanic.normal ?_
        try simp only [Exit.then]
        refine ‹∀ (a':Act) (w':World),Met _ a' w'→_› _ _ ?_
        go_meet
        exact ⟨wc.heap.size + 1,d + v1,c2,rfl,by omega,by omega,⟨by omega,by omega,gc2.out⟩,HP.out.later (below2 wc _ _).drew,hp_new _ _ _ (by simp)⟩
       exact AllReadyH.nil
      exact AllReadyH.nil
     refine AllReadyH.cons rfl (fun K hK=>?_) ?_
     ·go_simp
      refine hK.out _ _ (⟨hsBA.out,hcBA.out⟩) (fun HS=>?_)
      clear hK
      try simp only [Act.put,List.getElem_toArray,List.getElem_cons_succ,List.getElem_cons_zero,List.setIfInBounds_toArray,List.set_cons_zero,List.set_cons_succ]
      refine wpAnyH_ready (rs:=[12]) (by kernel_rfl) (by simp) ?_
      refine AllReadyH.cons rfl (fun K hK=>?_) ?_
      ·go_simp
       go_at_call 8
       refine (X2.out _).mono ?_
       rintro e w' ⟨rfl,rfl⟩
       dsimp only
       refine hK.out _ _ (HS) (fun HS=>?_)
       clear hK
       try simp only [Act.put,List.getElem_toArray,List.getElem_cons_succ,List.getElem_cons_zero,List.setIfInBounds_toArray,List.set_cons_zero,List.set_cons_succ]
       refine' wpAnyH_take (i:=13) (v:=?_) rfl (by kernel_rfl) (by kernel_rfl) (by kernel_rfl) (fun _ _ _ h=>h) (Or.inl ⟨by rfl,fun V hV=>?hy⟩) HS ?_
       case hy=>((try dsimp only at hV);go_simp;try with_reducible rfl)
       try simp only [Act.put,List.getElem_toArray,List.getElem_cons_succ,List.getElem_cons_zero,List.setIfInBounds_toArray,List.set_cons_zero,List.set_cons_succ]
       refine' wpAnyH_take (i:=14) (v:=?_) rfl (by kernel_rfl) (by kernel_rfl) (by kernel_rfl) (fun _ _ _ h=>h) (Or.inl ⟨by rfl,fun V hV=>?hy⟩) HS ?_
       case hy=>((try dsimp only at hV);go_simp;try with_reducible rfl)
       try simp only [Act.put,List.getElem_toArray,List.getElem_cons_succ,List.getElem_cons_zero,List.setIfInBounds_toArray,List.set_cons_zero,List.set_cons_succ]
       refine' wpAnyH_take (i:=15) (v:=?_) rfl (by kernel_rfl) (by kernel_rfl) (by kernel_rfl) (fun _ _ _ h=>h) (Or.inl ⟨by rfl,fun V hV=>?hy⟩) HS ?_
       case hy=>((try dsimp only at hV);go_simp;try with_reducible rfl)
       try simp only [Act.put,List.getElem_toArray,List.getElem_cons_succ,List.getElem_cons_zero,List.setIfInBounds_toArray,List.set_cons_zero,List.set_cons_succ]
       refine wpAnyH_ready (rs:=[17]) (by kernel_rfl) (by simp) ?_
       refine AllReadyH.cons rfl (fun K hK=>?_) ?_
       ·go_simp
        refine hK.out _ _ (⟨hsBAZ.out,hcBAZ.out⟩) (fun HS=>?_)
        clear hK
        try simp only [Act.put,List.getElem_toArray,List.getElem_cons_succ,List.getElem_cons_zero,List.setIfInBounds_toArray,List.set_cons_zero,List.set_cons_succ]
        refine wpAnyH_done (by kernel_rfl) ?_ _
        refine NoPanic.normal ?_
        try simp only [Exit.then]
        refine ‹∀ (a':Act) (w':World),Met _ a' w'→_› _ _ ?_
        go_meet
        exact ⟨wc.heap.size + 1,d + v1,c2,rfl,by omega,by omega,⟨by omega,by omega,gc2.out⟩,HP.out.later (below2 wc _ _).drew,hp_new _ _ _ (by simp)⟩
       exact AllReadyH.nil
      exact AllReadyH.nil
     exact AllReadyH.nil
    refine AllReadyH.cons rfl (fun K hK=>?_) ?_
    ·go_simp
     refine hK.out _ _ (⟨hsBA.out,hcBA.out⟩) (fun HS=>?_)
     clear hK
     try simp only [Act.put,List.getElem_toArray,List.getElem_cons_succ,List.getElem_cons_zero,List.setIfInBounds_toArray,List.set_cons_zero,List.set_cons_succ]
     refine wpAnyH_ready (rs:=[6]) (by kernel_rfl) (by simp) ?_
     refine AllReadyH.cons rfl (fun K hK=>?_) ?_
     ·go_simp
      go_at_call 8
      refine (X1.out _).mono ?_
      rintro e w' ⟨rfl,rfl⟩
      dsimp only
      refine hK.out _ _ (HS) (fun HS=>?_)
      clear hK
      try simp only [Act.put,List.getElem_toArray,List.getElem_cons_succ,List.getElem_cons_zero,List.setIfInBounds_toArray,List.set_cons_zero,List.set_cons_succ]
      refine' wpAnyH_take (i:=7) (v:=?_) rfl (by kernel_rfl) (by kernel_rfl) (by kernel_rfl) (fun _ _ _ h=>h) (Or.inl ⟨by rfl,fun V hV=>?hy⟩) HS ?_
      case hy=>((try dsimp only at hV);go_simp;try with_reducible rfl)
      try simp only [Act.put,List.getElem_toArray,List.getElem_cons_succ,List.getElem_cons_zero,List.setIfInBounds_toArray,List.set_cons_zero,List.set_cons_succ]
      refine wpAnyH_ready (rs:=[12]) (by kernel_rfl) (by simp) ?_
      refine AllReadyH.cons rfl (fun K hK=>?_) ?_
      ·go_simp
       go_at_call 8
       refine (X2.out _).mono ?_
       rintro e w' ⟨rfl,rfl⟩
       dsimp only
       refine hK.out _ _ (HS) (fun HS=>?_)
       clear hK
       try simp only [Act.put,List.getElem_toArray,List.getElem_cons_succ,List.getElem_cons_zero,List.setIfInBounds_toArray,List.set_cons_zero,List.set_cons_succ]
       refine' wpAnyH_take (i:=13) (v:=?_) rfl (by kernel_rfl) (by kernel_rfl) (by kernel_rfl) (fun _ _ _ h=>h) (Or.inl ⟨by rfl,fun V hV=>?hy⟩) HS ?_
       case hy=>((try dsimp only at hV);go_simp;try with_reducible rfl)
       try simp only [Act.put,List.getElem_toArray,List.getElem_cons_succ,List.getElem_cons_zero,List.setIfInBounds_toArray,List.set_cons_zero,List.set_cons_succ]
       refine' wpAnyH_take (i:=14) (v:=?_) rfl (by kernel_rfl) (by kernel_rfl) (by kernel_rfl) (fun _ _ _ h=>h) (Or.inl ⟨by rfl,fun V hV=>?hy⟩) HS ?_
       case hy=>((try dsimp only at hV);go_simp;try with_reducible rfl)
       try simp only [Act.put,List.getElem_toArray,List.getElem_cons_succ,List.getElem_cons_zero,List.setIfInBounds_toArray,List.set_cons_zero,List.set_cons_succ]
       refine' wpAnyH_take (i:=15) (v:=?_) rfl (by kernel_rfl) (by kernel_rfl) (by kernel_rfl) (fun _ _ _ h=>h) (Or.inl ⟨by rfl,fun V hV=>?hy⟩) HS ?_
       case hy=>((try dsimp only at hV);go_simp;try with_reducible rfl)
       try simp only [Act.put,List.getElem_toArray,List.getElem_cons_succ,List.getElem_cons_zero,List.setIfInBounds_toArray,List.set_cons_zero,List.set_cons_succ]
       refine wpAnyH_ready (rs:=[17]) (by kernel_rfl) (by simp) ?_
       refine AllReadyH.cons rfl (fun K hK=>?_) ?_
       ·go_simp
        refine hK.out _ _ (⟨hsBAZ.out,hcBAZ.out⟩) (fun HS=>?_)
        clear hK
        try simp only [Act.put,List.getElem_toArray,List.getElem_cons_succ,List.getElem_cons_zero,List.setIfInBounds_toArray,List.set_cons_zero,List.set_cons_succ]
        refine wpAnyH_done (by kernel_rfl) ?_ _
        refine NoPanic.normal ?_
        try simp only [Exit.then]
        refine ‹∀ (a':Act) (w':World),Met _ a' w'→_› _ _ ?_
        go_meet
        exact ⟨wc.heap.size + 1,d + v1,c2,rfl,by omega,by omega,⟨by omega,by omega,gc2.out⟩,HP.out.later (below2 wc _ _).drew,hp_new _ _ _ (by simp)⟩
       exact AllReadyH.nil
      exact AllReadyH.nil
     exact AllReadyH.nil
    exact AllReadyH.nil
   refine AllReadyH.cons rfl (fun K hK=>?_) ?_
   ·go_simp
    refine hK.out _ _ (hsA.out) (fun HS=>?_)
    clear hK
    try simp only [Act.put,List.getElem_toArray,List.getElem_cons_succ,List.getElem_cons_zero,List.setIfInBounds_toArray,List.set_cons_zero,List.set_cons_succ]
    refine wpAnyH_ready (rs:=[6,8]) (by kernel_rfl) (by simp) ?_
    refine AllReadyH.cons rfl (fun K hK=>?_) ?_
    ·go_simp
     go_at_call 8
     refine (X1.out _).mono ?_
     rintro e w' ⟨rfl,rfl⟩
     dsimp only
     refine hK.out _ _ (HS) (fun HS=>?_)
     clear hK
     try simp only [Act.put,List.getElem_toArray,List.getElem_cons_succ,List.getElem_cons_zero,List.setIfInBounds_toArray,List.set_cons_zero,List.set_cons_succ]
     refine' wpAnyH_take (i:=7) (v:=?_) rfl (by kernel_rfl) (by kernel_rfl) (by kernel_rfl) (fun _ _ _ h=>h) (Or.inl ⟨by rfl,fun V hV=>?hy⟩) HS ?_
     case hy=>((try dsimp only at hV);go_simp;try with_reducible rfl)
     try simp only [Act.put,List.getElem_toArray,List.getElem_cons_succ,List.getElem_cons_zero,List.setIfInBounds_toArray,List.set_cons_zero,List.set_cons_succ]
     refine wpAnyH_ready (rs:=[8,12]) (by kernel_rfl) (by simp) ?_
     refine AllReadyH.cons rfl (fun K hK=>?_) ?_
     ·go_simp
      refine hK.out _ _ (hsAB.out) (fun HS=>?_)
      clear hK
      try simp only [Act.put,List.getElem_toArray,List.getElem_cons_succ,List.getElem_cons_zero,List.setIfInBounds_toArray,List.set_cons_zero,List.set_cons_succ]
      refine wpAnyH_mono (S':=fun V=>(V.cell? ⟨w.heap.size + 1 + 1 + 1,0,none⟩=some (.int .i64 l)∧V.cell? ⟨w.heap.size + 1 + 1 + 1,1,none⟩=some (.int .i64 d))∧V.cell? ⟨wc.heap.size + 1,v2,none⟩=some (.int .i64 c2)) (fun _ h=>h.1) _ _ _ _ ?_
      replace HS:=And.intro HS hcAB.out
      try dsimp only at HS
      refine wpAnyH_ready (rs:=[12]) (by kernel_rfl) (by simp) ?_
      refine AllReadyH.cons rfl (fun K hK=>?_) ?_
      ·go_simp
       go_at_call 8
       refine (X2.out _).mono ?_
       rintro e w' ⟨rfl,rfl⟩
       dsimp only
       refine hK.out _ _ (HS) (fun HS=>?_)
       clear hK
       try simp only [Act.put,List.getElem_toArray,List.getElem_cons_succ,List.getElem_cons_zero,List.setIfInBounds_toArray,List.set_cons_zero,List.set_cons_succ]
       refine' wpAnyH_take (i:=13) (v:=?_) rfl (by kernel_rfl) (by kernel_rfl) (by kernel_rfl) (fun _ _ _ h=>h) (Or.inl ⟨by rfl,fun V hV=>?hy⟩) HS ?_
       case hy=>((try dsimp only at hV);go_simp;try with_reducible rfl)
       try simp only [Act.put,List.getElem_toArray,List.getElem_cons_succ,List.getElem_cons_zero,List.setIfInBounds_toArray,List.set_cons_zero,List.set_cons_succ]
       refine' wpAnyH_take (i:=14) (v:=?_) rfl (by kernel_rfl) (by kernel_rfl) (by kernel_rfl) (fun _ _ _ h=>h) (Or.inl ⟨by rfl,fun V hV=>?hy⟩) HS ?_
       case hy=>((try dsimp only at hV);go_simp;try with_reducible rfl)
       try simp only [Act.put,List.getElem_toArray,List.getElem_cons_succ,List.getElem_cons_zero,List.setIfInBounds_toArray,List.set_cons_zero,List.set_cons_succ]
       refine' wpAnyH_take (i:=15) (v:=?_) rfl (by kernel_rfl) (by kernel_rfl) (by kernel_rfl) (fun _ _ _ h=>h) (Or.inl ⟨by rfl,fun V hV=>?hy⟩) HS ?_
       case hy=>((try dsimp only at hV);go_simp;try with_reducible rfl)
       try simp only [Act.put,List.getElem_toArray,List.getElem_cons_succ,List.getElem_cons_zero,List.setIfInBounds_toArray,List.set_cons_zero,List.set_cons_succ]
       refine wpAnyH_ready (rs:=[17]) (by kernel_rfl) (by simp) ?_
       refine AllReadyH.cons rfl (fun K hK=>?_) ?_
       ·go_simp
        refine hK.out _ _ (⟨hsABZ.out,hcABZ.out⟩) (fun HS=>?_)
        clear hK
        try simp only [Act.put,List.getElem_toArray,List.getElem_cons_succ,List.getElem_cons_zero,List.setIfInBounds_toArray,List.set_cons_zero,List.set_cons_succ]
        refine wpAnyH_done (by kernel_rfl) ?_ _
        refine NoPanic.normal ?_
        try simp only [Exit.then]
        refine ‹∀ (a':Act) (w':World),Met _ a' w'→_› _ _ ?_
        go_meet
        exact ⟨wc.heap.size,d + v1,c2,rfl,by omega,by omega,⟨by omega,by omega,gc2.out⟩,HP.out.later (below2 wc _ _).drew,(hp_old _ _ _ (by simp)).trans (hp_new _ _ _ rfl)⟩
       exact AllReadyH.nil
      exact AllReadyH.nil
     refine AllReadyH.cons rfl (fun K hK=>?_) ?_
     ·go_simp
      go_at_call 8
      refine (X2.out _).mono ?_
      rintro e w' ⟨rfl,rfl⟩
      dsimp only
      refine hK.out _ _ (HS) (fun HS=>?_)
      clear hK
      try simp only [Act.put,List.getElem_toArray,List.getElem_cons_succ,List.getElem_cons_zero,List.setIfInBounds_toArray,List.set_cons_zero,List.set_cons_succ]
      refine wpAnyH_ready (rs:=[8]) (by kernel_rfl) (by simp) ?_
      refine AllReadyH.cons rfl (fun K hK=>?_) ?_
      ·go_simp
       refine hK.out _ _ (hsAB.out) (fun HS=>?_)
       clear hK
       try simp only [Act.put,List.getElem_toArray,List.getElem_cons_succ,List.getElem_cons_zero,List.setIfInBounds_toArray,List.set_cons_zero,List.set_cons_succ]
       refine wpAnyH_mono (S':=fun V=>(V.cell? ⟨w.heap.size + 1 + 1 + 1,0,none⟩=some (.int .i64 l)∧V.cell? ⟨w.heap.size + 1 + 1 + 1,1,none⟩=some (.int .i64 d))∧V.cell? ⟨wc.heap.size + 1,v2,none⟩=some (.int .i64 c2)) (fun _ h=>h.1) _ _ _ _ ?_
       replace HS:=And.intro HS hcAB.out
       try dsimp only at HS
       refine' wpAnyH_take (i:=13) (v:=?_) rfl (by kernel_rfl) (by kernel_rfl) (by kernel_rfl) (fun _ _ _ h=>h) (Or.inl ⟨by rfl,fun V hV=>?hy⟩) HS ?_
       case hy=>((try dsimp only at hV);go_simp;try with_reducible rfl)
       try simp only [Act.put,List.getElem_toArray,List.getElem_cons_succ,List.getElem_cons_zero,List.setIfInBounds_toArray,List.set_cons_zero,List.set_cons_succ]
       refine' wpAnyH_take (i:=14) (v:=?_) rfl (by kernel_rfl) (by kernel_rfl) (by kernel_rfl) (fun _ _ _ h=>h) (Or.inl ⟨by rfl,fun V hV=>?hy⟩) HS ?_
       case hy=>((try dsimp only at hV);go_simp;try with_reducible rfl)
       try simp only [Act.put,List.getElem_toArray,List.getElem_cons_succ,List.getElem_cons_zero,List.setIfInBounds_toArray,List.set_cons_zero,List.set_cons_succ]
       refine' wpAnyH_take (i:=15) (v:=?_) rfl (by kernel_rfl) (by kernel_rfl) (by kernel_rfl) (fun _ _ _ h=>h) (Or.inl ⟨by rfl,fun V hV=>?hy⟩) HS ?_
       case hy=>((try dsimp only at hV);go_simp;try with_reducible rfl)
       try simp only [Act.put,List.getElem_toArray,List.getElem_cons_succ,List.getElem_cons_zero,List.setIfInBounds_toArray,List.set_cons_zero,List.set_cons_succ]
       refine wpAnyH_ready (rs:=[17]) (by kernel_rfl) (by simp) ?_
       refine AllReadyH.cons rfl (fun K hK=>?_) ?_
       ·go_simp
        refine hK.out _ _ (⟨hsABZ.out,hcABZ.out⟩) (fun HS=>?_)
        clear hK
        try simp only [Act.put,List.getElem_toArray,List.getElem_cons_succ,List.getElem_cons_zero,List.setIfInBounds_toArray,List.set_cons_zero,List.set_cons_succ]
        refine wpAnyH_done (by kernel_rfl) ?_ _
        refine NoPanic.normal ?_
        try simp only [Exit.then]
        refine ‹∀ (a':Act) (w':World),Met _ a' w'→_› _ _ ?_
        go_meet
        exact ⟨wc.heap.size,d + v1,c2,rfl,by omega,by omega,⟨by omega,by omega,gc2.out⟩,HP.out.later (below2 wc _ _).drew,(hp_old _ _ _ (by simp)).trans (hp_new _ _ _ rfl)⟩
       exact AllReadyH.nil
      exact AllReadyH.nil
     exact AllReadyH.nil
    refine AllReadyH.cons rfl (fun K hK=>?_) ?_
    ·go_simp
     refine hK.out _ _ (hsAB.out) (fun HS=>?_)
     clear hK
     try simp only [Act.put,List.getElem_toArray,List.getElem_cons_succ,List.getElem_cons_zero,List.setIfInBounds_toArray,List.set_cons_zero,List.set_cons_succ]
     refine wpAnyH_mono (S':=fun V=>(V.cell? ⟨w.heap.size + 1 + 1 + 1,0,none⟩=some (.int .i64 l)∧V.cell? ⟨w.heap.size + 1 + 1 + 1,1,none⟩=some (.int .i64 d))∧V.cell? ⟨wc.heap.size + 1,v2,none⟩=some (.int .i64 c2)) (fun _ h=>h.1) _ _ _ _ ?_
     replace HS:=And.intro HS hcAB.out
     try dsimp only at HS
     refine wpAnyH_ready (rs:=[6]) (by kernel_rfl) (by simp) ?_
     refine AllReadyH.cons rfl (fun K hK=>?_) ?_
     ·go_simp
      go_at_call 8
      refine (X1.out _).mono ?_
      rintro e w' ⟨rfl,rfl⟩
      dsimp only
      refine hK.out _ _ (HS) (fun HS=>?_)
      clear hK
      try simp only [Act.put,List.getElem_toArray,List.getElem_cons_succ,List.getElem_cons_zero,List.setIfInBounds_toArray,List.set_cons_zero,List.set_cons_succ]
      refine' wpAnyH_take (i:=7) (v:=?_) rfl (by kernel_rfl) (by kernel_rfl) (by kernel_rfl) (fun _ _ _ h=>h) (Or.inl ⟨by rfl,fun V hV=>?hy⟩) HS ?_
      case hy=>((try dsimp only at hV);go_simp;try with_reducible rfl)
      try simp only [Act.put,List.getElem_toArray,List.getElem_cons_succ,List.getElem_cons_zero,List.setIfInBounds_toArray,List.set_cons_zero,List.set_cons_succ]
      refine wpAnyH_ready (rs:=[12]) (by kernel_rfl) (by simp) ?_
      refine AllReadyH.cons rfl (fun K hK=>?_) ?_
      ·go_simp
       go_at_call 8
       refine (X2.out _).mono ?_
       rintro e w' ⟨rfl,rfl⟩
       dsimp only
       refine hK.out _ _ (HS) (fun HS=>?_)
       clear hK
       try simp only [Act.put,List.getElem_toArray,List.getElem_cons_succ,List.getElem_cons_zero,List.setIfInBounds_toArray,List.set_cons_zero,List.set_cons_succ]
       refine' wpAnyH_take (i:=13) (v:=?_) rfl (by kernel_rfl) (by kernel_rfl) (by kernel_rfl) (fun _ _ _ h=>h) (Or.inl ⟨by rfl,fun V hV=>?hy⟩) HS ?_
       case hy=>((try dsimp only at hV);go_simp;try with_reducible rfl)
       try simp only [Act.put,List.getElem_toArray,List.getElem_cons_succ,List.getElem_cons_zero,List.setIfInBounds_toArray,List.set_cons_zero,List.set_cons_succ]
       refine' wpAnyH_take (i:=14) (v:=?_) rfl (by kernel_rfl) (by kernel_rfl) (by kernel_rfl) (fun _ _ _ h=>h) (Or.inl ⟨by rfl,fun V hV=>?hy⟩) HS ?_
       case hy=>((try dsimp only at hV);go_simp;try with_reducible rfl)
       try simp only [Act.put,List.getElem_toArray,List.getElem_cons_succ,List.getElem_cons_zero,List.setIfInBounds_toArray,List.set_cons_zero,List.set_cons_succ]
       refine' wpAnyH_take (i:=15) (v:=?_) rfl (by kernel_rfl) (by kernel_rfl) (by kernel_rfl) (fun _ _ _ h=>h) (Or.inl ⟨by rfl,fun V hV=>?hy⟩) HS ?_
       case hy=>((try dsimp only at hV);go_simp;try with_reducible rfl)
       try simp only [Act.put,List.getElem_toArray,List.getElem_cons_succ,List.getElem_cons_zero,List.setIfInBounds_toArray,List.set_cons_zero,List.set_cons_succ]
       refine wpAnyH_ready (rs:=[17]) (by kernel_rfl) (by simp) ?_
       refine AllReadyH.cons rfl (fun K hK=>?_) ?_
       ·go_simp
        refine hK.out _ _ (⟨hsABZ.out,hcABZ.out⟩) (fun HS=>?_)
        clear hK
        try simp only [Act.put,List.getElem_toArray,List.getElem_cons_succ,List.getElem_cons_zero,List.setIfInBounds_toArray,List.set_cons_zero,List.set_cons_succ]
        refine wpAnyH_done (by kernel_rfl) ?_ _
        refine NoPanic.normal ?_
        try simp only [Exit.then]
        refine ‹∀ (a':Act) (w':World),Met _ a' w'→_› _ _ ?_
        go_meet
        exact ⟨wc.heap.size,d + v1,c2,rfl,by omega,by omega,⟨by omega,by omega,gc2.out⟩,HP.out.later (below2 wc _ _).drew,(hp_old _ _ _ (by simp)).trans (hp_new _ _ _ rfl)⟩
       exact AllReadyH.nil
      exact AllReadyH.nil
     exact AllReadyH.nil
    exact AllReadyH.nil
   exact AllReadyH.nil
  case rest =>
   obtain ⟨yb,d2,c2,rfl,hyb,hd2,⟨hc2a,hc2b,gc2'⟩,HP2,hy⟩:=hcut
   have hc2:1 ≤ c2∧c2 ≤ 4:=⟨hc2a,hc2b⟩
   have gc2:=Lib.hid gc2'
   clear gc2' hc2a hc2b
   clear HP x0 x1 x2 X1 X2
   have HY:=Lib.hid hy
   have HQ:=Lib.hid HP2
   have x0:=cell_of_row _ _ 0 _ _ _ HP2.2.2.1
   clear hy HP2
   go_upto_region 6 with fail
   go_cut [58] (fun v W=>∃ tb:Bool,v=.bool tb∧W=wc)
   case first =>
    rcases hl with rfl | rfl
    ·by_cases h3:v3=1
     ·subst h3
      go_wp2_with (go_at_call 8;(with_reducible refine (X3.out _).mono ?_);rintro e w' ⟨rfl,rfl⟩)
      go_meet
      exact ⟨_,rfl,rfl⟩
     ·have e3:(v3 == 1)=false:=ibeq_no h3
      clear h3
      go_wp2_with (go_at_call 8;(with_reducible refine (X3.out _).mono ?_);rintro e w' ⟨rfl,rfl⟩)
      go_meet
      exact ⟨_,rfl,rfl⟩
    ·go_wp2_with fail
     go_meet
     exact ⟨_,rfl,rfl⟩
   case rest =>
    obtain ⟨tb,rfl,rfl⟩:=hcut
    clear X3 x0
    go_upto_if 58 with fail
    go_cut [59,60,61,62,63,64,65,66] (fun _ _ _ _ _ _ _ _ W=>∃ (l2 d3:Int),(5 ≤ l2∧l2 ≤ 6∧l ≤ l2)∧(3 ≤ d3∧d ≤ d3∧d3 ≤ 7∧(4 ≤ d3∨l2=5))∧P1 w l d ck W∧W.heap[yb]?=some (.cells #[.int .i64 l2,.int .i64 d3,.int .i64 c2] 25 (0,0)))
    case first =>
     cases tb
     ·go_wp2_with fail
      go_meet
      exact ⟨l,d2,by omega,by omega,HQ.out,HY.out⟩
     ·have hw1:IntKind.i64.wrap (d + 1)=d + 1:=IntWalk.i64_in _ (by omega)
      by_cases hm:d2 < d + 1
      all_goals
       go_wp2_with (first
        |(refine wpList_store_blk rfl 3 _ _ (by rfl) yb 0 (.int .i64 6) (by rfl) (by rfl) [.int .i64 l,.int .i64 d2,.int .i64 c2] 25 HY.out [.int .i64 6] rfl 1 rfl (by kernel_rfl) (by show 0 + 1 ≤ 3;omega) (one_cell 6) [.int .i64 6,.int .i64 d2,.int .i64 c2] (by rfl) ?_
          intro w6 h6 g6
          have P6:=HQ.out.grown g6 hyb
          have HP6:=Lib.hid P6
          have x1:=cell_of_row _ _ 1 _ _ _ P6.2.2.1
          have y1:=cell_of_row _ _ 1 _ _ _ h6
          have H6:=Lib.hid h6
          clear h6 P6 g6)
        |(refine wpList_store_blk rfl 3 _ _ (by rfl) yb 1 (.int .i64 d2) (by rfl) (by rfl) [.int .i64 6,.int .i64 d2,.int .i64 c2] 25 H6.out [.int .i64 d2] rfl 1 rfl (by kernel_rfl) (by show 1 + 1 ≤ 3;omega) (one_cell d2) [.int .i64 6,.int .i64 d2,.int .i64 c2] (by rfl) ?_
          intro w7 h7 g7
          have P7:=HP6.out.grown g7 hyb
          clear g7)
        |(refine wpList_store_blk rfl 3 _ _ (by rfl) yb 1 (.int .i64 (d + 1)) (by rfl) (by rfl) [.int .i64 6,.int .i64 d2,.int .i64 c2] 25 H6.out [.int .i64 (d + 1)] rfl 1 rfl (by kernel_rfl) (by show 1 + 1 ≤ 3;omega) (one_cell (d + 1)) [.int .i64 6,.int .i64 (d + 1),.int .i64 c2] (by rfl) ?_
          intro w7 h7 g7
          have P7:=HP6.out.grown g7 hyb
          clear g7))
       go_meet
       first | exact ⟨6,d2,by omega,by omega,P7,h7⟩ | exact ⟨6,d + 1,by omega,by omega,P7,h7⟩
    case rest =>
     obtain ⟨l2,d3,hl2,hd3,HP3,hy3⟩:=hcut
     clear HY HQ
     have HP:=Lib.hid HP3
     have HY:=Lib.hid hy3
     have x0:=cell_of_row _ _ 0 _ _ _ HP3.2.2.1
     have x1:=cell_of_row _ _ 1 _ _ _ HP3.2.2.1
     have x2:=cell_of_row _ _ 2 _ _ _ HP3.2.2.1
     have y0:=cell_of_row _ _ 0 _ _ _ hy3
     have y1:=cell_of_row _ _ 1 _ _ _ hy3
     have y2:=cell_of_row _ _ 2 _ _ _ hy3
     have CC:=Lib.hid (fun W=>refCan_any l d ck l2 d3 c2 W (by omega) (by omega) (by omega) (by omega) (by omega) (by omega))
     clear HP3 hy3
     obtain ⟨can,hcan⟩:∃ x,x=gCan l d ck l2 d3 c2:=⟨_,rfl⟩
     rw [← hcan] at CC
     have HCan:=Lib.hid hcan
     clear hcan
     go_wp2_with fail
     (with_reducible refine (CC.out _).mono ?_);rintro e w9 ⟨rfl,hb9⟩
     have HP9:=Lib.hid (HP.out.later hb9)
     have HY9:=Lib.hid (show w9.heap[yb]?=_ from (hb9.block _ (Array.getElem?_eq_some_iff.1 HY.out).1).trans HY.out)
     clear HP HY CC hb9 x0 x1 x2 y0 y1 y2
     go_upto_if 70 with fail
     go_cut [71,72,73,74] (fun _ _ _ _ W=>∃ d4:Int,(3 ≤ d4∧d4 ≤ 8)∧gCan l d ck l2 d4 c2=true∧P1 w l d ck W∧W.heap[yb]?=some (.cells #[.int .i64 l2,.int .i64 d4,.int .i64 c2] 25 (0,0)))
     case first =>
      cases can
      ·have y1:=cell_of_row _ _ 1 _ _ _ HY9.out
       have hw1:IntKind.i64.wrap (d3 + 1)=d3 + 1:=IntWalk.i64_in _ (by omega)
       go_wp2_with (refine wpList_store_blk rfl 3 _ _ (by rfl) yb 1 (.int .i64 (d3 + 1)) (by rfl) (by rfl) [.int .i64 l2,.int .i64 d3,.int .i64 c2] 25 HY9.out [.int .i64 (d3 + 1)] rfl 1 rfl (by kernel_rfl) (by show 1 + 1 ≤ 3;omega) (one_cell (d3 + 1)) [.int .i64 l2,.int .i64 (d3 + 1),.int .i64 c2] (by rfl) ?_;intro w7 h7 g7;have P7:=HP9.out.grown g7 hyb;clear g7)
       go_meet
       exact ⟨d3 + 1,by omega,gCan_more hl gc.out gc2.out hd hl2 hd3,P7,h7⟩
      ·go_wp2_with fail
       go_meet
       exact ⟨d3,by omega,HCan.out.symm,HP9.out,HY9.out⟩
     case rest =>
      obtain ⟨d4,hd4,hcan4,HP3,hy3⟩:=hcut
      have HC4:=Lib.hid hcan4
      clear HP9 HY9 hcan4
      have HP:=Lib.hid HP3
      have HY:=Lib.hid hy3
      have x0:=cell_of_row _ _ 0 _ _ _ HP3.2.2.1
      have x1:=cell_of_row _ _ 1 _ _ _ HP3.2.2.1
      have x2:=cell_of_row _ _ 2 _ _ _ HP3.2.2.1
      have y0:=cell_of_row _ _ 0 _ _ _ hy3
      have y1:=cell_of_row _ _ 1 _ _ _ hy3
      have y2:=cell_of_row _ _ 2 _ _ _ hy3
      clear HP3 hy3
      go_wp2_with fail
      clear x0 x1 x2 y0 y1 y2
      have hcx:∀ V:World,V.heap[w.heap.size + 3]?=some (.cells #[.int .i64 l,.int .i64 d,.int .i64 ck] 25 (0,0))→V.heap[yb]?=some (.cells #[.int .i64 l2,.int .i64 d4,.int .i64 c2] 25 (0,0))→(V.cell? ⟨w.heap.size + 1 + 1 + 1,0,none⟩=some (.int .i64 l)∧V.cell? ⟨w.heap.size + 1 + 1 + 1,1,none⟩=some (.int .i64 d)∧V.cell? ⟨w.heap.size + 1 + 1 + 1,2,none⟩=some (.int .i64 ck)∧V.cell? ⟨yb,0,none⟩=some (.int .i64 l2)∧V.cell? ⟨yb,1,none⟩=some (.int .i64 d4)∧V.cell? ⟨yb,2,none⟩=some (.int .i64 c2)):=fun V hv1 hv2 =>
       ⟨cell_of_row _ _ 0 _ _ _ hv1,cell_of_row _ _ 1 _ _ _ hv1,cell_of_row _ _ 2 _ _ _ hv1,cell_of_row _ _ 0 _ _ _ hv2,cell_of_row _ _ 1 _ _ _ hv2,cell_of_row _ _ 2 _ _ _ hv2⟩
      have HX:=Lib.hid hcx
      clear hcx
      have s0':=Lib.hid (HX.out wc.drew HP.out.2.2.1 HY.out)
      refine wp_region_noPanic (wp_region_held_drew (S:=fun V=>V.cell? ⟨w.heap.size + 1 + 1 + 1,0,none⟩=some (.int .i64 l)∧V.cell? ⟨w.heap.size + 1 + 1 + 1,1,none⟩=some (.int .i64 d)∧V.cell? ⟨w.heap.size + 1 + 1 + 1,2,none⟩=some (.int .i64 ck)∧V.cell? ⟨yb,0,none⟩=some (.int .i64 l2)∧V.cell? ⟨yb,1,none⟩=some (.int .i64 d4)∧V.cell? ⟨yb,2,none⟩=some (.int .i64 c2)) (by kernel_rfl) (s0'.out) (fun HS=>?_))
      try dsimp only at HS
      change wpAnyH _ _ _ _ _ 4 _ _ wc.drew
      refine' wpAnyH_take (i:=0) (v:=?_) rfl (by kernel_rfl) (by kernel_rfl) (by kernel_rfl) (fun _ _ _ h=>h) (Or.inl ⟨by rfl,fun V hV=>?hy⟩) HS ?_
      case hy=>((try dsimp only at hV);go_simp;try with_reducible rfl)
      try simp only [Act.put,List.getElem_toArray,List.getElem_cons_succ,List.getElem_cons_zero,List.setIfInBounds_toArray,List.set_cons_zero,List.set_cons_succ]
      refine' wpAnyH_take (i:=1) (v:=?_) rfl (by kernel_rfl) (by kernel_rfl) (by kernel_rfl) (fun _ _ _ h=>h) (Or.inl ⟨by rfl,fun V hV=>?hy⟩) HS ?_
      case hy=>((try dsimp only at hV);go_simp;try with_reducible rfl)
      try simp only [Act.put,List.getElem_toArray,List.getElem_cons_succ,List.getElem_cons_zero,List.setIfInBounds_toArray,List.set_cons_zero,List.set_cons_succ]
      clear s0'
      refine wpAnyH_ready (rs:=[2]) (by kernel_rfl) (by simp) ?_
      refine AllReadyH.cons rfl (fun K hK=>?_) AllReadyH.nil
      refine step_store_blk rfl 25 _ _ (by rfl) w.heap.size 0 (.agg #[.int .i64 l,.int .i64 d,.int .i64 ck]) (by rfl) (by rfl) [.int .i64 0,.int .i64 0,.int .i64 0] 25 (show wc.drew.heap[w.heap.size]?=_ from HP.out.1) [.int .i64 l,.int .i64 d,.int .i64 ck] rfl 3 rfl (by kernel_rfl) (by show 0 + 3 ≤ 3;omega) (three_cells l d ck) [.int .i64 l,.int .i64 d,.int .i64 ck] (by rfl) ?_
      intro wa ha1 ga
      have b0:=HP.out.2.1
      have b1:=HP.out.2.2.1
      have b2:=HY.out
      have ne:∀ k:Nat,k ≠ w.heap.size→some k ≠ some w.heap.size:=fun k hk e=>hk (by injection e)
      have kk:∀ k:Nat,k < wc.heap.size→k ≠ w.heap.size→wa.heap[k]?=wc.heap[k]?:=fun k h1 h2=>ga.block k h1 (ne k h2)
      have c0:=(kk _ (Array.getElem?_eq_some_iff.1 b0).1 (by omega)).trans b0
      have c1:=(kk _ (Array.getElem?_eq_some_iff.1 b1).1 (by omega)).trans b1
      have c2':=(kk _ (Array.getElem?_eq_some_iff.1 b2).1 (by omega)).trans b2
      have FA:=HP.out.2.2.2.drew.grown ga (HP.out.2.2.2.drew.size) (fun j e=>by injection e with e;omega)
      refine hK.out _ _ (HX.out wa c1 c2') (fun HS=>?_)
      clear hK
      try simp only [Act.put,List.getElem_toArray,List.getElem_cons_succ,List.getElem_cons_zero,List.setIfInBounds_toArray,List.set_cons_zero,List.set_cons_succ]
      refine wpAnyH_ready (rs:=[3]) (by kernel_rfl) (by simp) ?_
      refine AllReadyH.cons rfl (fun K hK=>?_) AllReadyH.nil
      refine step_store_blk rfl 25 _ _ (by rfl) (w.heap.size + 1) 0 (.agg #[.int .i64 l2,.int .i64 d4,.int .i64 c2]) (by rfl) (by rfl) [.int .i64 0,.int .i64 0,.int .i64 0] 25 c0 [.int .i64 l2,.int .i64 d4,.int .i64 c2] rfl 3 rfl (by kernel_rfl) (by show 0 + 3 ≤ 3;omega) (three_cells l2 d4 c2) [.int .i64 l2,.int .i64 d4,.int .i64 c2] (by rfl) ?_
      intro wb hb1 gb
      have kb:∀ k:Nat,k < wa.heap.size→k ≠ w.heap.size + 1→wb.heap[k]?=wa.heap[k]?:=fun k h1 h2=>gb.block k h1 (fun e=>h2 (by injection e))
      have e0:=(kb _ (Array.getElem?_eq_some_iff.1 ha1).1 (by omega)).trans ha1
      have e1:=(kb _ (Array.getElem?_eq_some_iff.1 c1).1 (by omega)).trans c1
      have e2:=(kb _ (Array.getElem?_eq_some_iff.1 c2').1 (by omega)).trans c2'
      have FB:=FA.grown gb FA.size (fun j e=>by injection e with e;omega)
      refine hK.out _ _ (HX.out wb e1 e2) (fun HS=>?_)
      clear hK
      try simp only [Act.put,List.getElem_toArray,List.getElem_cons_succ,List.getElem_cons_zero,List.setIfInBounds_toArray,List.set_cons_zero,List.set_cons_succ]
      refine wpAnyH_done (by kernel_rfl) ?_ _
      refine NoPanic.normal ?_
      have r0:=cell_of_row _ _ 0 _ _ _ e0
      have r1:=cell_of_row _ _ 1 _ _ _ e0
      have r2:=cell_of_row _ _ 2 _ _ _ e0
      have t0:=cell_of_row _ _ 0 _ _ _ hb1
      have t1:=cell_of_row _ _ 1 _ _ _ hb1
      have t2:=cell_of_row _ _ 2 _ _ _ hb1
      clear HS HP HY HX e0 e1 e2 hb1 ha1 c0 c1 c2' b0 b1 b2 kk kb ne ga gb FA
      try simp only [Exit.then]
      refine ‹∀ (a:Act) (w:World),Code.wp _ _ _ a w→_› _ _ ?_
      go_wp2_with fail
      refine bodyPost_ret (v:=.tuple #[.agg #[.int .i64 l,.int .i64 d,.int .i64 ck],.agg #[.int .i64 l2,.int .i64 d4,.int .i64 c2]]) (by simp [results,Tryz.results5,go_sem,r0,r1,r2,t0,t1,t2]) rfl ⟨l,d,ck,l2,d4,c2,rfl,HC4.out,FB⟩
theorem playPair_can (a b:Int) (w:World) (ha:(-9223372036854775808 ≤ a∧a ≤ 9223372036854775807)) (hb:(-9223372036854775808 ≤ b∧b ≤ 9223372036854775807)) :
    Calls Tryz.prog 5 #[.int .i64 a,.int .i64 b] w fun e w'=>∃ l d c l' d' c':Int,e=.returned (.tuple #[.agg #[.int .i64 l,.int .i64 d,.int .i64 c],.agg #[.int .i64 l',.int .i64 d',.int .i64 c']])∧gCan l d c l' d' c'=true∧Below w.heap.size w w':=by
 have b2:=withinI_bd (a.tdiv 2) 3 (by omega)
 obtain ⟨k2,hk2⟩:=Int.eq_ofNat_of_zero_le b2.1
 have q2:=withinI_bd (b.tdiv 3) 3 (by omega)
 obtain ⟨v2,hv2⟩:=Int.eq_ofNat_of_zero_le q2.1
 have W2:=Lib.hid fun V=>within_any (a.tdiv 2) 3 V (tdiv_i64 a 2 (by omega) ha) (by omega)
 rw [hk2] at W2
 have X2:=Lib.hid fun V=>within_any (b.tdiv 3) 3 V (tdiv_i64 b 3 (by omega) hb) (by omega)
 rw [hv2] at X2
 exact playPair_w a b _ _ _ _ k2 v2 w ha hb (withinI_bd a 2 (by omega)) (by omega) (withinI_bd (a.tdiv 6) 4 (by omega)) (withinI_bd b 3 (by omega)) (by omega) (withinI_bd (b.tdiv 9) 2 (by omega))
  (Lib.hid fun V=>within_any a 2 V ha (by omega)) W2 (Lib.hid fun V=>within_any (a.tdiv 6) 4 V (tdiv_i64 a 6 (by omega) ha) (by omega)) (Lib.hid fun V=>within_any b 3 V hb (by omega)) X2 (Lib.hid fun V=>within_any (b.tdiv 9) 2 V (tdiv_i64 b 9 (by omega) hb) (by omega))
end Go.Proofs.YtldfoadildaljaaGreat
end
