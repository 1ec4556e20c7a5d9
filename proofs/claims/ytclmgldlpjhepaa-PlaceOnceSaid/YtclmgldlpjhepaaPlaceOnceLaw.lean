/- PlaceOnce walked. -/
import Derived.Test.YtclmgldlpjhepaaPlaceOnceLoops
import Derived.Carry
set_option linter.unusedVariables false
set_option linter.unusedSimpArgs false
namespace Go.Proofs.Ytclmgldlpjhepaa
open Go.RowKit

set_option maxRecDepth 100000 in
set_option maxHeartbeats 3200000 in
theorem placeonce (n : Int) (w : World) (hn : (-9223372036854775808 ≤ n ∧ n ≤ 9223372036854775807)) :
    Calls Try.prog 6 #[.int .i64 n] w fun e w' => e = .returned (.bool true) ∧ Below w.heap.size w w' := by
  have HP := Lib.hid (fun W => playGood_any n W hn)
  have hg := go_ok n
  generalize goL n = l at HP hg
  generalize goD n = d at HP hg
  generalize goC n = c at HP hg
  have HG := Lib.hid hg
  have hb := gOk_bd hg
  have hcb : 32 ≤ (d - l + 4) * 16 ∧ (d - l + 4) * 16 ≤ 112 := by have := gOk_yes hg; omega
  obtain ⟨cn, hcn⟩ : ∃ cn : Nat, (d - l + 4) * 16 = (cn : Int) := ⟨((d - l + 4) * 16).toNat, by omega⟩
  have HC := Lib.hid (show gCap l d c = (cn : Int) by rw [gCap_yes hg]; omega)
  have HO := Lib.hid (fun W => of_any l d c (cn : Int) W (by omega) (by omega) (by omega) (by omega))
  rw [plOfOk_no (l := l) (d := d) (c := c) (n := (cn : Int)) (by rw [HC.out]; omega)] at HO
  generalize plOfD l d c (cn : Int) = d1 at HO
  generalize plOfR l d c (cn : Int) = r1 at HO
  have HWk := Lib.hid (fun W => wakesPlace_any W)
  have hmm := @run_makeMap Try.prog
  have Hcn := Lib.hid hcn
  rw [hcn] at hcb
  clear hg hcn
  go_enter Try.func6, Try.ntmps6
  go_wp2_with fail
  (with_reducible refine (HP.out _).mono ?_); rintro e w1 ⟨rfl, hbb⟩
  have G := gat_new w1 l d c 23 (0, 0)
  have z1 := hbb.size
  have S1 : GS w w.heap.size w1.heap.size l d c (w1.alloc (.cells #[.int .i64 l, .int .i64 d, .int .i64 c] 23)) := ⟨G.1, G.2.1, G.2.2, hbb.trans ((below1 w1 _).mono hbb.size)⟩
  clear hbb G
  have M0 := setP_new (w1.alloc (.cells #[.int .i64 l, .int .i64 d, .int .i64 c] 23))
  have e1 : (w1.alloc (.cells #[.int .i64 l, .int .i64 d, .int .i64 c] 23)).heap.size = w1.heap.size + 1 := by simp
  rw [e1] at M0
  have T0 : US w _ w1.heap.size (w1.heap.size + 1) l d c 0 := ⟨S1.later (by rw [e1]; exact (below1 _ (.map #[] 0)).mono (by simp)), M0, by omega, by omega⟩
  have HT0 := Lib.hid T0
  obtain ⟨g1, g2, g3, _⟩ := T0.gs
  clear T0 M0 e1 S1
  go_upto_block 0 with fail
  try rw [Hcn.out]
  clear hmm
  refine wp_block ?_
  refine poA _ _ _ _ _ _ _ _ _ _ _ _ _ _ _ _ _ _ _ _ _ _ _ _ _ _ _ _ _ _ _ _ _ _ _ _ _ _ _ _ _ _ _ _ _ _ _ _ _ _ _ _ _ _ _ _ _ _ _ _ _ _ _ _ _ _ _ _ _ _ _ _ _ _ _ _ _ _ _ _ _ _ _ _ _ _ _ _ _ _ _ _ _ _ _ _ _ _ _ _ _ _ _ _ _ _ _ _ _ _ _ _ _ _ _ _ _ _ _ _ _ _ _ _ _ _ _ _ _ _ _ _ _ _ _ _ _ _ _ _ _ _ _ _ _ _ _ _ _ _ _ _ _ _ _ _ _ _ _ _ _ _ _ _ _ _ _ _ _ _ _ _ _ _ _ HG.out HC.out ⟨by omega, HT0.out⟩ (fun v7 v8 v9 v10 v11 v31 v32 v33 v34 v35 v36 v37 v38 v39 v40 v41 v42 v43 v44 v45 v46 v47 v48 v49 v50 v51 v52 v53 v54 v55 v56 v57 v58 v59 v60 v61 v62 v63 v64 v65 v66 v67 v68 v69 v70 v71 v72 v73 v74 v75 v76 v77 v78 v79 v80 v81 v82 v83 v84 v85 v86 v87 v88 v89 v90 v91 v92 s V2 hI hx => ?_)
  subst hx
  have HT2 := Lib.hid hI.2
  clear hI HT0 g1 g2 g3
  go_upto_block 2 with fail
  refine wp_block ?_
  refine poB _ _ _ _ _ _ _ _ _ _ _ _ _ _ _ _ _ _ _ _ _ _ _ _ _ _ _ _ _ _ _ _ _ _ _ _ _ _ _ _ _ _ _ _ _ _ _ _ _ _ _ _ _ _ _ _ _ _ _ _ _ _ _ _ _ _ _ _ _ _ _ _ _ _ _ _ _ _ _ _ _ _ _ _ _ _ _ _ _ _ _ _ _ _ _ _ _ _ _ _ _ _ _ _ _ _ _ _ _ _ _ _ _ _ _ _ _ _ _ _ _ _ _ _ _ _ _ _ _ _ _ _ _ _ _ _ _ _ _ _ _ _ _ _ _ _ _ _ _ _ _ _ _ _ _ _ _ _ _ _ _ _ _ _ _ _ _ _ _ _ _ _ _ _ _ HG.out HC.out ⟨by omega, HT2.out⟩ (fun v13 v14 v15 v16 v17 v93 v94 v95 v96 v97 v98 v99 v100 v101 v102 v103 v104 v105 v106 v107 v108 v109 v110 v111 v112 v113 v114 v115 v116 v117 v118 v119 v120 v121 v122 v123 v124 v125 v126 v127 v128 v129 v130 v131 v132 v133 v134 v135 v136 v137 v138 v139 v140 v141 v142 v143 v144 v145 v146 v147 v148 v149 v150 v151 v152 v153 v154 v155 v156 v157 v158 v159 v160 v161 v162 v163 v164 v165 v166 v167 s V3 hI hx => ?_)
  obtain ⟨g1, g2, g3, F⟩ := hI.2.gs
  clear hI HT2
  go_wp2_with fail
  (with_reducible refine (HO.out _).mono ?_); rintro e w6 ⟨rfl, hbb⟩
  have S6 := GS.later ⟨g1, g2, g3, F⟩ hbb
  clear hbb g1 g2 g3 F
  obtain ⟨g1, g2, g3, F⟩ := S6
  go_wp2_with fail
  (with_reducible refine (HWk.out _).mono ?_); rintro e w8 ⟨rfl, hbb⟩
  have S8 := GS.later ⟨g1, g2, g3, F⟩ hbb
  clear hbb g1 g2 g3 F
  go_wp2_with fail
  go_ret
  exact ⟨rfl, S8.2.2.2⟩
end Go.Proofs.Ytclmgldlpjhepaa
