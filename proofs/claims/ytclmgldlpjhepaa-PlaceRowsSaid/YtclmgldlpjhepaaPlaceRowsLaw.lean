/- PlaceRows walked. -/
import Derived.Test.YtclmgldlpjhepaaPlaceRowsLoops
import Derived.Carry
set_option linter.unusedVariables false
set_option linter.unusedSimpArgs false
namespace Go.Proofs.Ytclmgldlpjhepaa
open Go.RowKit

set_option maxRecDepth 100000 in
set_option maxHeartbeats 3200000 in
theorem placerows (n : Int) (w : World) (hn : (-9223372036854775808 ≤ n ∧ n ≤ 9223372036854775807)) :
    Calls Try.prog 7 #[.int .i64 n] w fun e w' => e = .returned (.bool true) ∧ Below w.heap.size w w' := by
  have HP := Lib.hid (fun W => playGood_any n W hn)
  have hg := go_ok n
  generalize goL n = l at HP hg
  generalize goD n = d at HP hg
  generalize goC n = c at HP hg
  have HG := Lib.hid hg
  have hb := gOk_bd hg
  have hwb : 2 ≤ d - l + 4 ∧ d - l + 4 ≤ 7 := by have := gOk_yes hg; omega
  obtain ⟨wn, hwn⟩ : ∃ wn : Nat, d - l + 4 = (wn : Int) := ⟨(d - l + 4).toNat, by omega⟩
  have HC := Lib.hid (show gWid l d c = (wn : Int) by rw [gWid_yes hg]; omega)
  have HWk := Lib.hid (fun W => wakesPlace_any W)
  have hmm := Lib.hid (fun V => @run_makeMap Try.prog 44 V)
  have Hwn := Lib.hid hwn
  clear hg hwn
  go_enter Try.func7, Try.ntmps7
  go_wp2_with fail
  (with_reducible refine (HP.out _).mono ?_); rintro e w1 ⟨rfl, hbb⟩
  have G := gat_new w1 l d c 23 (0, 0)
  have z1 := hbb.size
  have S1 : GS w w.heap.size w1.heap.size l d c (w1.alloc (.cells #[.int .i64 l, .int .i64 d, .int .i64 c] 23)) := ⟨G.1, G.2.1, G.2.2, hbb.trans ((below1 w1 _).mono hbb.size)⟩
  clear hbb G
  have HS1 := Lib.hid S1
  obtain ⟨g1, g2, g3, _⟩ := S1
  go_upto_block 0 with fail
  try rw [Hwn.out]
  refine wp_block ?_
  refine prA _ _ _ _ _ _ _ _ _ _ _ _ _ _ _ _ _ _ _ _ _ _ _ _ _ _ _ _ _ _ _ _ _ _ _ _ _ _ _ _ _ _ _ _ _ _ _ _ _ _ _ _ _ _ _ _ _ _ _ _ _ _ _ _ _ _ _ _ _ _ _ _ _ _ _ _ _ _ _ _ _ _ _ _ _ _ _ _ _ _ _ _ _ _ _ _ _ _ _ _ _ _ _ _ _ _ _ _ _ _ _ _ _ _ _ _ _ _ _ _ _ _ _ _ _ _ _ HG.out HC.out hmm.out ⟨by omega, HS1.out⟩ (fun v6 v7 v8 v9 v10 v11 v12 v13 v14 v15 v16 v25 v26 v27 v28 v29 v30 v31 v32 v33 v34 v35 v36 v37 v38 v39 v40 v41 v42 v43 v44 v45 v46 v47 v48 v49 v50 v51 v52 v53 v54 v55 v56 v57 v58 v59 v60 v61 v62 v63 v64 v65 v66 v67 v68 v69 v70 v71 v72 v73 v74 v75 v76 v77 v78 v79 v80 v81 v82 v83 v84 v85 v86 v87 v88 v89 v90 v91 v92 v93 v94 v95 v96 v97 v98 v99 v100 v101 v102 v103 v104 v105 v106 v107 v108 v109 v110 v111 v112 v113 v114 v115 v116 v117 v118 v119 v120 v121 v122 v123 v124 v125 v126 v127 v128 v129 s V2 hI hx => ?_)
  obtain ⟨g1, g2, g3, F⟩ := hI.2
  clear hI HS1
  go_wp2_with fail
  (with_reducible refine (HWk.out _).mono ?_); rintro e w8 ⟨rfl, hbb⟩
  have S8 := GS.later ⟨g1, g2, g3, F⟩ hbb
  clear hbb g1 g2 g3 F
  go_wp2_with fail
  go_ret
  exact ⟨rfl, S8.2.2.2⟩
end Go.Proofs.Ytclmgldlpjhepaa
