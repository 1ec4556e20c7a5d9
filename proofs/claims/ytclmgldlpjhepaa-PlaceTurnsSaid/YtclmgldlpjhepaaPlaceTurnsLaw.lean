/- PlaceTurns walked. -/
import Derived.Test.YtclmgldlpjhepaaPlaceTurnsLoops
set_option linter.unusedVariables false
set_option linter.unusedSimpArgs false
namespace Go.Proofs.Ytclmgldlpjhepaa
open Go.RowKit

set_option maxRecDepth 100000 in
set_option maxHeartbeats 3200000 in
theorem placeturns (n at0 : Int) (w : World) (hn : (-9223372036854775808 ≤ n ∧ n ≤ 9223372036854775807)) (ha : (-9223372036854775808 ≤ at0 ∧ at0 ≤ 9223372036854775807)) :
    Calls Try.prog 4 #[.int .i64 n, .int .i64 at0] w fun e w' => e = .returned (.bool true) ∧ Below w.heap.size w w' := by
  have HP := Lib.hid (fun W => playGood_any n W hn)
  have hg := go_ok n
  generalize goL n = l at HP hg
  generalize goD n = d at HP hg
  generalize goC n = c at HP hg
  have HG := Lib.hid hg
  have hb := gOk_bd hg
  have hw := gWid_bd l d c
  have hcap : gCap l d c = (d - l + 4) * 16 := by rw [gCap_yes hg]; omega
  have hcb : 32 ≤ (d - l + 4) * 16 ∧ (d - l + 4) * 16 ≤ 112 := by have := gOk_yes hg; omega
  have HW := Lib.hid (fun W => within_any at0 ((d - l + 4) * 16) W ha (by omega))
  have hwi := withinI_bd at0 ((d - l + 4) * 16) (by omega)
  generalize withinI at0 ((d - l + 4) * 16) = m at HW hwi
  have HO1 := Lib.hid (fun W => of_any l d c m W (by omega) (by omega) (by omega) (by omega))
  have HO2 := Lib.hid (fun W => of_any l d c (m + 1) W (by omega) (by omega) (by omega) (by omega))
  obtain ⟨hok1, _, hrb, _⟩ := of_back hg hwi.1 (by rw [hcap]; exact hwi.2)
  obtain ⟨hok2, hnx⟩ := of_next hg hwi.1 (by rw [hcap]; exact hwi.2)
  rw [hok1] at HO1
  rw [hcap] at hok2
  rw [hok2] at HO2
  have Hnx := Lib.hid hnx
  generalize plOfD l d c m = d1 at HO1 Hnx
  generalize plOfR l d c m = r1 at HO1 Hnx hrb
  generalize plOfD l d c (m + 1) = d2 at HO2 Hnx
  have hr1 : (-9223372036854775808 ≤ r1 ∧ r1 ≤ 9223372036854775807) := by omega
  generalize plOfR l d c (m + 1) = r2 at HO2 Hnx
  have HWk := Lib.hid (fun W => wakesPlace_any W)
  have hmm := @run_makeMap Try.prog
  clear hok1 hok2 hnx hcap hg hw
  go_enter Try.func4, Try.ntmps4
  go_wp2_with fail
  (with_reducible refine (HP.out _).mono ?_); rintro e w1 ⟨rfl, hbb⟩
  have G := gat_new w1 l d c 23 (0, 0)
  have z1 := hbb.size
  have S1 : GS w w.heap.size w1.heap.size l d c (w1.alloc (.cells #[.int .i64 l, .int .i64 d, .int .i64 c] 23)) := ⟨G.1, G.2.1, G.2.2, hbb.trans ((below1 w1 _).mono hbb.size)⟩
  clear hbb G
  have M0 := mapI_new (w1.alloc (.cells #[.int .i64 l, .int .i64 d, .int .i64 c] 23))
  rw [← tF_zero d] at M0
  have e1 : (w1.alloc (.cells #[.int .i64 l, .int .i64 d, .int .i64 c] 23)).heap.size = w1.heap.size + 1 := by simp
  rw [e1] at M0
  have T0 : TS w _ w1.heap.size (w1.heap.size + 1) l d c 0 := ⟨S1.later (by rw [e1]; exact (below1 _ (.map #[] 0)).mono (by simp)), M0, by omega, by omega⟩
  have HT0 := Lib.hid T0
  clear T0 M0 e1 S1
  go_upto_block 0 with fail
  clear hmm
  refine wp_block ?_
  refine ptA _ _ _ _ _ _ _ _ _ _ _ _ _ _ _ _ _ _ _ _ _ _ _ _ _ _ _ _ _ _ _ _ _ _ _ _ _ _ _ _ _ _ _ _ _ _ _ _ _ _ _ _ _ _ _ _ _ _ _ _ _ _ _ _ _ _ _ _ _ _ _ _ _ _ _ _ _ _ _ _ _ _ _ _ _ _ _ _ _ _ _ _ _ _ _ _ _ _ _ _ _ _ _ _ _ _ _ _ _ _ _ _ _ _ _ _ _ _ _ _ _ _ _ _ _ _ _ _ _ _ _ HG.out (by omega) ⟨by omega, HT0.out⟩ (fun v8 v9 v10 v11 v12 v25 v26 v27 v28 v29 v30 v31 v32 v33 v34 v35 v36 v37 v38 v39 v40 v41 v42 v43 v44 v45 v46 v47 v48 v49 v50 v51 v52 v53 v54 v55 v56 v57 v58 v59 v60 v61 v62 v63 v64 v65 v66 v67 v68 v69 v70 v71 v72 s V2 hI _ => ?_)
  obtain ⟨D, ho, hD⟩ := hI.2.mp
  have hlt := ho.lt
  have HT2 := Lib.hid hI.2
  clear hI HT0
  go_upto_block 4 with (at_range; refine wpList_range_own _ rfl _ 39 rfl 3 3 keyI Try.underlying39 _ (w1.heap.size + 1) s D rfl ho ?_; intro V3 hrg0 hg0 hs0)
  have HG3 := Lib.hid (HT2.out.gs.grown hg0 HT2.out.gs.2.2.2.size (fun k e => by cases e))
  have hgb := World.block_lt_of_cell? _ _ HT2.out.gs.1
  refine wp_block ?_
  refine ptC _ _ _ _ _ _ _ _ _ _ _ _ _ _ _ _ _ _ _ _ _ _ _ _ _ _ _ _ _ _ _ _ _ _ _ _ _ _ _ _ _ _ _ _ _ _ _ _ _ _ _ _ _ _ _ _ _ _ _ _ _ _ _ _ _ _ _ _ _ _ _ _ _ _ _ _ _ _ _ _ _ _ _ _ _ _ _ _ _ _ _ _ _ _ _ _ _ _ _ _ _ _ _ _ _ _ _ _ _ _ _ _ _ _ _ _ _ _ _ _ _ _ _ _ _ _ _ _ _ _ _ hD (fun x y h => tF_one h) ⟨hrg0, fun kl h => h, HG3.out, HT2.out.gs.2.2.2.size, by omega⟩ (fun v14 v75 v76 v77 v78 v79 v80 left cnt V4 hI _ => ?_)
  obtain ⟨_, _, hG4, _, _⟩ := hI
  clear hrg0 hg0 hs0 HG3 HT2 ho hD hlt
  obtain ⟨b, hbq⟩ : ∃ b, b = decide (m + 1 < (d - l + 4) * 16) := ⟨_, rfl⟩
  rw [← hbq] at HO2
  have e23 := hbq.symm
  clear hbq
  obtain ⟨g1, g2, g3, F⟩ := hG4
  go_wp2_with fail
  (with_reducible refine (HW.out _).mono ?_); rintro e w5 ⟨rfl, rfl⟩
  go_wp2_with fail
  (with_reducible refine (HO1.out _).mono ?_); rintro e w6 ⟨rfl, hbb⟩
  have S6 := GS.later ⟨g1, g2, g3, F⟩ hbb
  clear hbb g1 g2 g3 F
  obtain ⟨g1, g2, g3, F⟩ := S6
  go_wp2_with fail
  (with_reducible refine (HO2.out _).mono ?_); rintro e w7 ⟨rfl, hbb⟩
  have S7 := GS.later ⟨g1, g2, g3, F⟩ hbb
  clear hbb g1 g2 g3 F
  obtain ⟨g1, g2, g3, F⟩ := S7
  rcases Hnx.out with hz | ⟨rfl, rfl⟩
  · have ez : ((m + 1) % c == 0) = true := beq_iff_eq.2 hz
    have hz' := Lib.hid hz
    clear hz
    cases b
    all_goals
      go_wp2_with fail
      (with_reducible refine (HWk.out _).mono ?_); rintro e w8 ⟨rfl, hbb⟩
      have S8 := GS.later ⟨g1, g2, g3, F⟩ hbb
      clear hbb g1 g2 g3 F
      go_wp2_with fail
      go_ret
      exact ⟨rfl, S8.2.2.2⟩
  · by_cases hz : (m + 1) % c = 0
    all_goals
      first | have ez : ((m + 1) % c == 0) = true := beq_iff_eq.2 hz | have ez : ((m + 1) % c == 0) = false := ibeq_no hz
      have hz' := Lib.hid hz
      clear hz
      cases b
      all_goals
        go_wp2_with fail
        (with_reducible refine (HWk.out _).mono ?_); rintro e w8 ⟨rfl, hbb⟩
        have S8 := GS.later ⟨g1, g2, g3, F⟩ hbb
        clear hbb g1 g2 g3 F
        go_wp2_with fail
        go_ret
        exact ⟨rfl, S8.2.2.2⟩
end Go.Proofs.Ytclmgldlpjhepaa
