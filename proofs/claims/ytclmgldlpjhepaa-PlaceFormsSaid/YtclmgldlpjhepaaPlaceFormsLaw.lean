/- PlaceForms walked. -/
import Derived.Test.YtclmgldlpjhepaaPlaceFormsLoops
set_option linter.unusedVariables false
set_option linter.unusedSimpArgs false
namespace Go.Proofs.Ytclmgldlpjhepaa
open Go.RowKit

set_option maxRecDepth 100000 in
set_option maxHeartbeats 3200000 in
theorem placeforms (n : Int) (w : World) (hn : (-9223372036854775808 ≤ n ∧ n ≤ 9223372036854775807)) :
    Calls Try.prog 3 #[.int .i64 n] w fun e w' => e = .returned (.bool true) ∧ Below w.heap.size w w' := by
  have HWi := Lib.hid (fun W => within_any n 100 W hn (by omega))
  have hwi := withinI_bd n 100 (by omega)
  generalize withinI n 100 = x at HWi hwi
  have hx : 1 ≤ 1 + x ∧ 1 + x ≤ 100 := by omega
  have HWk := Lib.hid (fun W => wakesPlace_any W)
  have hgA : gOk 5 3 2 = true := by decide
  have hcA : gCap 5 3 2 = 32 := by decide
  have hwA : gWid 5 3 2 = 2 := by decide
  have hg0 : gOk 0 0 0 = false := by decide
  have O1 := Lib.hid (fun W => of_any 5 3 2 (-(1 + x)) W (by omega) (by omega) (by omega) (by omega))
  rw [plOfOk_no (l := 5) (d := 3) (c := 2) (n := -(1 + x)) (by omega)] at O1
  have O2 := Lib.hid (fun W => of_any 5 3 2 (31 + (1 + x)) W (by omega) (by omega) (by omega) (by omega))
  rw [plOfOk_no (l := 5) (d := 3) (c := 2) (n := 31 + (1 + x)) (by rw [hcA]; omega)] at O2
  have B1 := Lib.hid (fun W => back_any 5 3 2 (2 + (1 + x)) 0 W (by omega) (by omega) (by omega) (by omega) (by omega))
  rw [plBOk_no (l := 5) (d := 3) (c := 2) (i := 2 + (1 + x)) (r := 0) (by omega)] at B1
  have B2 := Lib.hid (fun W => back_any 5 3 2 0 (15 + (1 + x)) W (by omega) (by omega) (by omega) (by omega) (by omega))
  have n1 := plOk_no (l := 5) (d := 3) (c := 2) (r := 15 + (1 + x)) (by omega)
  rw [plBOk_no (l := 5) (d := 3) (c := 2) (i := 0) (r := 15 + (1 + x)) (by rw [n1]; simp)] at B2
  have n2 := plOk_no (l := 5) (d := 3) (c := 2) (r := -(1 + x)) (by omega)
  have P1 := Lib.hid (fun W => parity_any 5 3 2 (-(1 + x)) W (by omega) (by omega) (by omega) (by omega))
  rw [plP_no n2, plQ_no n2] at P1
  have D1 := Lib.hid (fun W => disk_any 5 3 2 0 2 W (by omega) (by omega) (by omega) (by omega) (by omega))
  rw [plD_no (plDok_no (l := 5) (d := 3) (c := 2) (r := 0) (k := 2) (by rw [hwA]; omega))] at D1
  have D2 := Lib.hid (fun W => disk_any 5 3 2 0 (-(1 + x)) W (by omega) (by omega) (by omega) (by omega) (by omega))
  rw [plD_no (plDok_no (l := 5) (d := 3) (c := 2) (r := 0) (k := -(1 + x)) (by omega))] at D2
  have N1 := Lib.hid (fun W => numbers_any 5 3 2 (15 + (1 + x)) W (by omega) (by omega) (by omega) (by omega))
  rw [plNums_no n1] at N1
  have N2 := Lib.hid (fun W => numbers_any 0 0 0 0 W (by omega) (by omega) (by omega) (by omega))
  rw [plNums_no (plOk_no (l := 0) (d := 0) (c := 0) (r := 0) (by rw [hg0]; simp))] at N2
  clear hgA hcA hwA hg0 n1 n2
  generalize plOfD 5 3 2 (-(1 + x)) = y1 at O1
  generalize plOfR 5 3 2 (-(1 + x)) = y2 at O1
  generalize plOfD 5 3 2 (31 + (1 + x)) = y3 at O2
  generalize plOfR 5 3 2 (31 + (1 + x)) = y4 at O2
  generalize plBk 5 3 2 (2 + (1 + x)) 0 = y5 at B1
  generalize plBn 5 3 2 (2 + (1 + x)) 0 = y6 at B1
  generalize plBk 5 3 2 0 (15 + (1 + x)) = y7 at B2
  generalize plBn 5 3 2 0 (15 + (1 + x)) = y8 at B2
  obtain ⟨T1, T2, T3, T4⟩ := pstart w
  go_enter Try.func3, Try.ntmps3
  go_upto_block 0 with fail
  go_name_world w1 hw1
  rw [hw1] at T1 T2 T3 T4
  clear hw1
  have HS := Lib.hid (show PS w w1 (w.heap.size + 1 + 1 + 1 + 1 + 1 + 1 + 1 + 1 + 1 + 1 + 1 + 1 + 1 + 1 + 1 + 1 + 1 + 1 + 1 + 1) from ⟨T1, T2, T3, by omega, by omega⟩)
  clear T1 T2 T3 T4
  refine wp_block ?_
  refine pfA _ _ _ _ _ _ _ _ _ _ _ _ _ _ _ _ _ _ _ _ _ _ _ _ _ _ _ _ _ _ _ _ _ _ _ _ _ _ _ _ _ _ _ _ _ _ _ _ _ _ _ _ _ _ _ _ _ _ _ _ _ _ _ _ _ _ _ _ _ _ _ _ _ _ _ _ _ _ _ _ _ _ _ _ _ _ _ _ _ _ _ _ _ _ _ _ _ _ _ _ _ _ _ _ _ _ _ _ _ _ _ _ _ _ _ _ _ _ _ _ _ _ _ _ _ _ _ _ _ _ _ _ _ _ _ _ _ _ _ _ _ _ _ _ _ _ _ _ _ _ _ _ _ _ _ _ _ _ _ _ _ _ _ _ _ _ _ _ _ _ _ _ _ _ _ _ _ _ _ _ _ _ _ _ _ _ _ _ _ _ _ _ _ _ _ _ _ _ _ _ _ _ _ _ _ _ _ _ _ _ _ _ _ _ _ _ _ _ _ _ _ _ _ _ _ _ _ _ _ _ _ _ _ _ trivial ⟨Nat.zero_le _, HS.out⟩ (fun v6 v7 v8 v9 v10 v11 v12 v13 v69 v70 v71 v72 v73 v74 v75 v76 v77 v78 v79 v80 v81 v82 v83 v84 v85 v86 v87 v88 v89 v90 v91 v92 v93 v94 v95 v96 v97 v98 v99 v100 v101 v102 v103 v104 v105 v106 v107 v108 v109 v110 v111 v112 v113 v114 v115 v116 v117 v118 v119 v120 v121 v122 v123 v124 v125 v126 v127 v128 v129 v130 v131 v132 v133 v134 v135 v136 v137 v138 v139 v140 v141 v142 v143 v144 v145 j V hI _ => ?_)
  obtain ⟨g1, g2, g3⟩ := hI.2.ga
  have S1 : GS w w.heap.size w.heap.size 5 3 2 V := ⟨g1, g2, g3, hI.2.hb⟩
  clear hI HS
  go_wp2_with fail
  (with_reducible refine (HWi.out _).mono ?_); rintro e w2 ⟨rfl, rfl⟩
  go_wp2_with fail
  (with_reducible refine (O1.out _).mono ?_); rintro e w3 ⟨rfl, hb⟩
  replace S1 := S1.later hb
  clear hb g1 g2 g3
  obtain ⟨g1, g2, g3, _⟩ := id S1
  go_wp2_with fail
  (with_reducible refine (O2.out _).mono ?_); rintro e w3 ⟨rfl, hb⟩
  replace S1 := S1.later hb
  clear hb g1 g2 g3
  obtain ⟨g1, g2, g3, _⟩ := id S1
  go_wp2_with fail
  (with_reducible refine (B1.out _).mono ?_); rintro e w3 ⟨rfl, hb⟩
  replace S1 := S1.later hb
  clear hb g1 g2 g3
  obtain ⟨g1, g2, g3, _⟩ := id S1
  go_wp2_with fail
  (with_reducible refine (B2.out _).mono ?_); rintro e w3 ⟨rfl, hb⟩
  replace S1 := S1.later hb
  clear hb g1 g2 g3
  obtain ⟨g1, g2, g3, _⟩ := id S1
  go_wp2_with fail
  (with_reducible refine (P1.out _).mono ?_); rintro e w3 ⟨rfl, hb⟩
  replace S1 := S1.later hb
  clear hb g1 g2 g3
  obtain ⟨g1, g2, g3, _⟩ := id S1
  go_wp2_with fail
  (with_reducible refine (D1.out _).mono ?_); rintro e w3 ⟨rfl, hb⟩
  replace S1 := S1.later hb
  clear hb g1 g2 g3
  obtain ⟨g1, g2, g3, _⟩ := id S1
  go_wp2_with fail
  (with_reducible refine (D2.out _).mono ?_); rintro e w3 ⟨rfl, hb⟩
  replace S1 := S1.later hb
  clear hb g1 g2 g3
  obtain ⟨g1, g2, g3, _⟩ := id S1
  go_wp2_with fail
  (with_reducible refine (N1.out _).mono ?_); rintro e w3 ⟨A, cp, rfl, _, hb⟩
  replace S1 := S1.later hb
  clear hb g1 g2 g3
  obtain ⟨g1, g2, g3, _⟩ := id S1
  go_wp2_with fail
  (with_reducible refine (N2.out _).mono ?_); rintro e w3 ⟨A, cp, rfl, _, hb⟩
  replace S1 := S1.later hb
  clear hb g1 g2 g3
  obtain ⟨g1, g2, g3, _⟩ := id S1
  go_wp2_with fail
  (with_reducible refine (HWk.out _).mono ?_); rintro e w8 ⟨rfl, hb⟩
  replace S1 := S1.later hb
  clear hb g1 g2 g3
  go_wp2_with fail
  go_ret
  exact ⟨rfl, S1.2.2.2⟩
end Go.Proofs.Ytclmgldlpjhepaa
