/- BenchClones: all of it. -/
import Derived.Test.YtpiilfgikgkneaaBenchClonesLoops
set_option linter.unusedVariables false
set_option linter.unusedSimpArgs false
namespace Go.Proofs.Ytpiilfgikgkneaa
open Go.RowKit

set_option maxRecDepth 100000 in
set_option maxHeartbeats 3200000 in
theorem bench_clones (A : Option Addr) (l : List Int) (c0 : Nat) (l0 : Int) (A2 : Option Addr) (ks : List Bool) (c2 : Nat) (W : World) (_ : l.length ≤ c0) (hr : RdZ W W.heap.size A l) (hl : -9223372036854775808 ≤ l0 ∧ l0 ≤ 9223372036854775807) (hkc : ks.length ≤ c2) (hk : RdO W W.heap.size A2 ks) :
    Calls Try.prog 7 #[.slice A l.length c0, .int .i64 l0, .slice A2 ks.length c2] W fun e w' => e = .returned (.bool true) ∧ Below W.heap.size W w' := by
  have CN := Lib.hid (bp_new 3 W W (Below.refl _ _) (by omega))
  have hpe := ptr_eq
  have hll := hr.1
  have Hr := Lib.hid hr
  have Hk := Lib.hid hk
  clear hr hk
  go_enter Try.func7, Try.ntmps7
  go_wp2_with fail
  refine CN.out.mono ?_
  rintro e w ⟨b, H, rfl, hp, _, _⟩
  unfold ptr
  have Hp := Lib.hid hp
  clear hp
  go_upto_region 4 with fail
  refine bl4 _ _ _ _ _ _ _ _ _ _ _ _ _ _ _ _ _ _ _ _ _ _ _ _ _ _ _ _ _ _ _ _ _ _ _ _ _ _ _ _ _ _ _ _ _ _ _ _ _ _ _ _ _ _ _ _ _ _ _ _ _ _ _ _ _ _ _ _ _ _ _ _ _ _ _ _ _ _ _ _ _ _ _ _ _ _ _ _ _ _ _ _ _ _ _ _ _ _ _ _ _ _ _ _ _ _ _ _ _ _ _ _ _ _ _ _ _ _ _ _ _ _ _ _ _ _ _ _ _ _ _ _ _ _ _ _ _ _ _ _ _ _ _ _ _ _ _ _ _ _ _ _ _ _ _ _ _ _ _ _ _ _ _ _ _ _ _ _ _ _ _ _ _ _ _ _ _ _ _ _ _ _ _ _ _ _ _ _ _ _ _ _ _ _ _ _ _ _ _ _ _ _ hl Hp.out (Nice.new 3) (fun v28 v29 v30 v31 v32 v33 v34 N1 H1 V1 hp1 hN1 => ?_)
  have Hp1 := Lib.hid hp1
  have HN1 := Lib.hid hN1
  clear hp1 hN1 Hp
  go_upto_block 0 with fail
  refine wp_block ?_
  refine blA _ _ _ _ _ _ _ _ _ _ _ _ _ _ _ _ _ _ _ _ _ _ _ _ _ _ _ _ _ _ _ _ _ _ _ _ _ _ _ _ _ _ _ _ _ _ _ _ _ _ _ _ _ _ _ _ _ _ _ _ _ _ _ _ _ _ _ _ _ _ _ _ _ _ _ _ _ _ _ _ _ _ _ _ _ _ _ _ _ _ _ _ _ _ _ _ _ _ _ _ _ _ _ _ _ _ _ _ _ _ _ _ _ _ _ _ _ _ _ _ _ _ _ _ _ _ _ _ _ _ _ _ _ _ _ _ _ _ _ _ _ _ _ _ _ _ _ _ _ _ _ _ _ _ _ _ _ _ _ _ _ _ _ _ _ _ _ _ _ _ _ _ _ _ _ _ _ _ _ _ _ _ _ _ _ _ _ _ _ _ _ _ _ _ _ _ _ _ _ _ rfl hll Hr.out ⟨Nat.zero_le _, Hp1.out, HN1.out⟩ (fun v35 v36 v37 v38 v39 v40 v41 v42 v43 v44 v45 v46 v47 v48 v49 v50 v51 v52 v53 v54 v55 v56 v57 v58 v59 v60 v61 v62 v63 v64 v65 v66 v67 v68 v69 v70 v71 v72 v73 i N2 H2 V2 hI _ => ?_)
  obtain ⟨hi, hp2, hN2⟩ := hI
  have Hp2 := Lib.hid hp2
  have HN2 := Lib.hid (hN2.more hi)
  clear hp2 hN2 Hp1 HN1
  go_wp2_with fail
  refine (bp_clone _ _ _ _ _ Hp2.out (HN2.out.psb (by omega))).mono ?_
  rintro e w3 ⟨b2, H3, rfl, hp3, _⟩
  have Hp3 := Lib.hid hp3
  clear hp3 Hp2
  go_upto_region 12 with fail
  refine bl12 _ _ _ _ _ _ _ _ _ _ _ _ _ _ _ _ _ _ _ _ _ _ _ _ _ _ _ _ _ _ _ _ _ _ _ _ _ _ _ _ _ _ _ _ _ _ _ _ _ _ _ _ _ _ _ _ _ _ _ _ _ _ _ _ _ _ _ _ _ _ _ _ _ _ _ _ _ _ _ _ _ _ _ _ _ _ _ _ _ _ _ _ _ _ _ _ _ _ _ _ _ _ _ _ _ _ _ _ _ _ _ _ _ _ _ _ _ _ _ _ _ _ _ _ _ _ _ _ _ _ _ _ _ _ _ _ _ _ _ _ _ _ _ _ _ _ _ _ _ _ _ _ _ _ _ _ _ _ _ _ _ _ _ _ _ _ _ _ _ _ _ _ _ _ _ _ _ _ _ _ _ _ _ _ _ _ _ _ _ _ _ _ _ _ _ _ _ _ _ _ _ _ Hp3.out HN2.out (by omega) (fun v76 v77 v78 v79 v80 v81 v82 v83 v84 v85 v86 v87 v88 v89 v90 v91 v92 v93 v94 v95 v96 v97 v98 v99 v100 v101 v102 v103 v104 v105 v106 v107 v108 v109 v110 V4 hp4 => ?_)
  have Hp4 := Lib.hid hp4
  clear hp4 Hp3
  go_upto_block 2 with fail
  refine wp_block ?_
  refine blB _ _ _ _ _ _ _ _ _ _ _ _ _ _ _ _ _ _ _ _ _ _ _ _ _ _ _ _ _ _ _ _ _ _ _ _ _ _ _ _ _ _ _ _ _ _ _ _ _ _ _ _ _ _ _ _ _ _ _ _ _ _ _ _ _ _ _ _ _ _ _ _ _ _ _ _ _ _ _ _ _ _ _ _ _ _ _ _ _ _ _ _ _ _ _ _ _ _ _ _ _ _ _ _ _ _ _ _ _ _ _ _ _ _ _ _ _ _ _ _ _ _ _ _ _ _ _ _ _ _ _ _ _ _ _ _ _ _ _ _ _ _ _ _ _ _ _ _ _ _ _ _ _ _ _ _ _ _ _ _ _ _ _ _ _ _ _ _ _ _ _ _ _ _ _ _ _ _ _ _ _ _ _ _ _ _ _ _ _ _ _ _ _ _ _ _ _ _ _ _ ⟨Nat.zero_le _, Hp4.out, HN2.out⟩ (fun v6 v112 v113 v114 v115 v116 v117 v118 v119 v120 v121 v122 v123 v124 v125 v126 v127 v128 v129 v130 v131 v132 v133 v134 v135 v136 v137 v138 v139 v140 v141 v142 v143 i5 N5 Ha Hb V5 hI _ => ?_)
  obtain ⟨hi5, hp5, hN5⟩ := hI
  have Hp5 := Lib.hid hp5
  have HN5 := Lib.hid (hN5.more (j := 100) (by omega))
  clear hp5 hN5 Hp4 HN2
  go_wp2_with fail
  refine (bp_crash_arg Hp5.out.p1 ks A2 ks.length c2 rfl hkc Hk.out (HN5.out.psb (by omega))).mono ?_
  rintro e w6 ⟨rfl, hbc⟩
  obtain ⟨H6, hp6⟩ := Hp5.out.step1 (N' := N5.crash ks) rfl hbc
  have Hp6 := Lib.hid hp6
  clear hp6 hbc Hp5
  go_wp2_with fail
  refine (bp_crash_arg Hp6.out.p2 ks A2 ks.length c2 rfl hkc Hk.out (HN5.out.psb (by omega))).mono ?_
  rintro e w7 ⟨rfl, hbc⟩
  obtain ⟨H7, hp7⟩ := Hp6.out.step2 (N' := N5.crash ks) rfl hbc
  have Hp7 := Lib.hid hp7
  have HN7 := Lib.hid (HN5.out.crash ks)
  have Hdn := Lib.hid (show (N5.crash ks).down = false from rfl)
  have Hlf := Lib.hid (show (N5.crash ks).left = -1 from rfl)
  generalize N5.crash ks = N7 at Hp7 HN7 Hdn Hlf
  clear hbc Hp6 HN5
  go_upto_block 4 with fail
  refine wp_block ?_
  refine blC _ _ _ _ _ _ _ _ _ _ _ _ _ _ _ _ _ _ _ _ _ _ _ _ _ _ _ _ _ _ _ _ _ _ _ _ _ _ _ _ _ _ _ _ _ _ _ _ _ _ _ _ _ _ _ _ _ _ _ _ _ _ _ _ _ _ _ _ _ _ _ _ _ _ _ _ _ _ _ _ _ _ _ _ _ _ _ _ _ _ _ _ _ _ _ _ _ _ _ _ _ _ _ _ _ _ _ _ _ _ _ _ _ _ _ _ _ _ _ _ _ _ _ _ _ _ _ _ _ _ _ _ _ _ _ _ _ _ _ _ _ _ _ _ _ _ _ _ _ _ _ _ _ _ _ _ _ _ _ _ _ _ _ _ _ _ _ _ _ _ _ _ _ _ _ _ _ _ _ _ _ _ _ _ _ _ _ _ _ _ _ _ _ _ _ _ _ _ _ _ HN7.out Hdn.out ⟨Nat.zero_le _, Hp7.out⟩ (fun v6 v13 v14 v15 v16 v17 v150 v151 v152 v153 v154 v155 v156 v157 v158 v159 v160 v161 v162 v163 v164 v165 v166 v167 v168 v169 v170 v171 v172 v173 v174 v175 v176 v177 v178 v179 v180 v181 v182 v183 t V8 hI _ => ?_)
  have Hp8 := Lib.hid hI.2
  clear hI Hp7
  go_wp2_with fail
  refine (bp_fail _ _ _ _ _ Hp8.out.p2 0 ⟨by omega, by omega⟩).mono ?_
  rintro e w9 ⟨rfl, hbc⟩
  obtain ⟨H9, hp9⟩ := Hp8.out.step2 (fail_n _ _) hbc
  have Hp9 := Lib.hid hp9
  clear hp9 hbc Hp8
  go_wp2_with fail
  refine (bp_limit _ _ _ _ _ Hp9.out.p2 0 ⟨by omega, by omega⟩).mono ?_
  rintro e w10 ⟨rfl, hbc⟩
  obtain ⟨H10, hp10⟩ := Hp9.out.step2 (limit_n _ _) hbc
  have Hp10 := Lib.hid hp10.p1
  clear hp10 hbc Hp9
  have hpk : N7.pickE 0 = 0 := Bch.pickE_ok (by omega) (by rw [HN7.out.n]; omega)
  have CF := Lib.hid (show Calls _ _ _ _ (fun e w' => e = .returned (.bool false) ∧ w' = w10) by
    have := bp_failed _ _ _ _ _ Hp10.out 0 ⟨by omega, by omega⟩
    rw [show N7.failed 0 = false by unfold Bch.failed; rw [if_neg (fun e => e hpk)]; exact HN7.out.f 0] at this
    exact this)
  have HW := Lib.hid (show N7.writeE 0 0 32 = 0 by
    have h := (Bch.write_ok (N := N7) (d := 0) (k := 0) (x := sectorB 2) (by rw [HN7.out.n]; omega) (by omega) (sectorB_len _) (HN7.out.f 0) Hdn.out (by rw [Hlf.out]; omega)).1
    rw [sectorB_len] at h
    exact h)
  clear hpk
  go_wp2_with (first
    | (go_at_call 19; refine CF.out.mono ?_; rintro e w11 ⟨rfl, rfl⟩)
    | (go_at_call 11; refine (sector_any 2 _ (by omega)).mono ?_; rintro e w12 ⟨g, rfl, ho, hb⟩; have Hp12 := Lib.hid (Hp10.out.grow hb); have Hr12 := Lib.hid ho.rdS.1; clear ho hb)
    | (go_at_call 10; refine (bp_write _ _ _ _ _ Hp12.out 0 0 (sectorB 2) _ 32 32 (sectorB_len _).symm ⟨by omega, by omega⟩ ⟨by omega, by omega⟩ Hr12.out (HN7.out.psb (by omega)) (by have := HN7.out.done; omega)).mono ?_; rintro e w13 ⟨rfl, H13, hp13, _, _⟩; have Hp13 := Lib.hid hp13; clear hp13; rw [HW.out])
    | (go_at_call 17; refine (bwakes_any _).mono ?_; rintro e w14 ⟨rfl, hb14⟩; have Hb14 := Lib.hid (Hp13.out.bel.trans (hb14.mono Hp13.out.bel.size)); clear hb14))
  go_ret
  exact ⟨rfl, Hb14.out⟩
end Go.Proofs.Ytpiilfgikgkneaa
