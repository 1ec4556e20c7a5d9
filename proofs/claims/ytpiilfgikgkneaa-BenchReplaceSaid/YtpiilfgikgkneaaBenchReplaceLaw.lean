/- BenchReplace: all of it. -/
import Derived.Test.YtpiilfgikgkneaaBenchReplaceLoops
set_option linter.unusedVariables false
set_option linter.unusedSimpArgs false
namespace Go.Proofs.Ytpiilfgikgkneaa
open Go.RowKit

set_option maxRecDepth 100000 in
set_option maxHeartbeats 3200000 in
theorem bench_replace (d0 : Int) (A : Option Addr) (l : List Int) (c : Nat) (W : World) (hd : -9223372036854775808 ≤ d0 ∧ d0 ≤ 9223372036854775807) (_ : l.length ≤ c) (hr : RdZ W W.heap.size A l) :
    Calls Try.prog 4 #[.int .i64 d0, .slice A l.length c] W fun e w' => e = .returned (.bool true) ∧ Below W.heap.size W w' := by
  have CN := Lib.hid (bp_new 4 W W (Below.refl _ _) (by omega))
  have CW1 := Lib.hid (fun V => within_any d0 4 V hd (by omega))
  have b1 := withinI_bd d0 4 (by omega)
  generalize withinI d0 4 = d1 at CW1 b1
  obtain ⟨d, rfl⟩ : ∃ d : Nat, d1 = (d : Int) := ⟨d1.toNat, by omega⟩
  have hd4 : d < 4 := by omega
  have hpe := ptr_eq
  have hll := hr.1
  have Hr := Lib.hid hr
  clear b1 hd hr
  go_enter Try.func4, Try.ntmps4
  go_wp2_with fail
  refine CN.out.mono ?_
  rintro e w ⟨b, H, rfl, hp, _, _⟩
  unfold ptr
  rw [← RB_zero l] at hp
  go_upto_block 0 with fail
  refine wp_block ?_
  refine brA _ _ _ _ _ _ _ _ _ _ _ _ _ _ _ _ _ _ _ _ _ _ _ _ _ _ _ _ _ _ _ _ _ _ _ _ _ _ _ _ _ _ _ _ _ _ _ _ _ _ _ _ _ _ _ _ _ _ _ _ _ _ _ _ _ _ _ _ _ _ _ _ _ _ _ _ _ _ _ _ _ _ _ _ _ _ _ _ _ _ _ _ _ _ _ _ _ _ _ _ _ _ _ _ _ _ _ _ _ _ _ _ _ _ _ _ _ _ _ _ _ _ _ _ _ _ _ _ rfl hll Hr.out ⟨Nat.zero_le _, hp⟩ (fun v8 v24 v25 v26 v27 v28 v29 v30 v31 v32 v33 v34 v35 v36 v37 v38 v39 v40 v41 v42 v43 v44 i H4 V hI hx => ?_)
  subst hx
  have Hp4 := Lib.hid hI.2
  clear hI hp
  go_wp2_with fail
  refine (CW1.out _).mono ?_
  rintro e w1 ⟨rfl, rfl⟩
  go_upto_region 12 with fail
  refine br12 _ _ _ _ _ _ _ _ _ _ _ _ _ _ _ _ _ _ _ _ _ _ _ _ _ _ _ _ _ _ _ _ _ _ _ _ _ _ _ _ _ _ _ _ _ _ _ _ _ _ _ _ _ _ _ _ _ _ _ _ _ _ _ _ _ _ _ _ _ _ _ _ _ _ _ _ _ _ _ _ _ _ _ _ _ _ _ _ _ _ _ _ _ _ _ _ _ _ _ _ _ _ _ _ _ _ _ _ _ _ _ _ _ _ _ _ _ _ _ _ _ _ _ _ _ _ _ _ _ _ hd4 Hp4.out (fun v47 v48 v49 v50 v51 v52 v53 v54 v55 v56 v57 v58 v59 v60 v61 v62 v63 v64 v65 v66 v67 v68 v69 v70 v71 v72 v73 v74 v75 v76 v77 v78 v79 v80 v81 v82 v83 H5 V5 hp5 => ?_)
  have Hp5 := Lib.hid hp5
  clear hp5 Hp4
  go_upto_block 2 with fail
  refine wp_block ?_
  refine brB _ _ _ _ _ _ _ _ _ _ _ _ _ _ _ _ _ _ _ _ _ _ _ _ _ _ _ _ _ _ _ _ _ _ _ _ _ _ _ _ _ _ _ _ _ _ _ _ _ _ _ _ _ _ _ _ _ _ _ _ _ _ _ _ _ _ _ _ _ _ _ _ _ _ _ _ _ _ _ _ _ _ _ _ _ _ _ _ _ _ _ _ _ _ _ _ _ _ _ _ _ _ _ _ _ _ _ _ _ _ _ _ _ _ _ _ _ _ _ _ _ _ _ _ _ _ _ hd4 rfl hll Hr.out ⟨Nat.zero_le _, Hp5.out⟩ (fun v4 v10 v11 v12 v13 v85 v86 v87 v88 v89 v90 v91 v92 v93 v94 v95 v96 v97 v98 v99 v100 v101 v102 v103 v104 v105 v106 v107 v108 v109 v110 v111 v112 v113 v114 v115 v116 v117 v118 v119 v120 v121 j V6 hI hx => ?_)
  have Hp6 := Lib.hid hI.2
  clear hI hx Hp5
  have CW := Lib.hid (show Calls _ _ _ _ (fun e w' => e = .returned (.int .i64 208) ∧ w' = V6) from bp_writes _ _ _ _ _ Hp6.out)
  go_wp2_with (first
    | (go_at_call 15; refine CW.out.mono ?_; rintro e w9 ⟨rfl, rfl⟩)
    | (go_at_call 17; refine (bwakes_any _).mono ?_; rintro e w13 ⟨rfl, hb13⟩; have Hb13 := Lib.hid (Hp6.out.bel.trans (hb13.mono Hp6.out.bel.size)); clear hb13))
  go_ret
  exact ⟨rfl, Hb13.out⟩
end Go.Proofs.Ytpiilfgikgkneaa
