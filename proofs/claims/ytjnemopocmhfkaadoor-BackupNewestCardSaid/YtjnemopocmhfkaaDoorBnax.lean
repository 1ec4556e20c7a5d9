/- Texts put together: BackupNewestLaw. -/
import Derived.Test.YtjnemopocmhfkaaDoorBnaw
section
set_option linter.unusedVariables false
set_option linter.unusedSimpArgs false
namespace Go.Proofs.YtjnemopocmhfkaaDoor
open Go.RowKit

set_option maxRecDepth 100000 in
set_option maxHeartbeats 3200000 in
theorem backupnewest (A : Option Addr) (zs : List Int) (cl : Nat) (A2 : Option Addr) (ms : List Int) (cl2 : Nat) (W : World) (hcl : zs.length ≤ cl) (hz : RdZ W W.heap.size A zs) (_ : ms.length ≤ cl2) (hm : RdZ W W.heap.size A2 ms) (ht : TabOk W) :
    Calls Tryd.prog 3 #[.slice A zs.length cl, .slice A2 ms.length cl2] W fun e w' => e = .returned (.bool true) ∧ Below W.heap.size W w' := by
  have hpn := ptr_eq
  have CN := Lib.hid (bp_new 3 W W (Below.refl _ _) (by omega))
  have Hz := Lib.hid hz
  have Hm := Lib.hid hm
  have Ht := Lib.hid ht
  clear hz hm ht
  go_enter Tryd.func3, Tryd.ntmps3
  go_wp2_with fail
  refine CN.out.mono ?_
  rintro e w ⟨b, H, rfl, hp, _, _⟩
  unfold ptr
  have K1 := (show KX W w b H (Bch.new 3) [] from ⟨hp, fun p hp => by cases hp⟩).ks
  have K2 : KS W (w.alloc (.cells #[.int .i64 0, .int .i64 0, .int .i64 0] 27)) b H (Bch.new 3) [(w.heap.size, Obj.cells (hv3 fun _ => 0) 27 (0, 0))] [] [] := K1.add _
  have K3 := K2.add (.cells #[.bool true, .bool true, .bool true] 4 (0, 0))
  rw [show (w.alloc (.cells #[.int .i64 0, .int .i64 0, .int .i64 0] 27)).heap.size = w.heap.size + 1 by simp] at K3
  have K4 := Lib.hid (K3.less (K' := [(w.heap.size, Obj.cells (hv3 fun _ => 0) 27 (0, 0)), (w.heap.size + 1, Obj.cells #[.bool true, .bool true, .bool true] 4 (0, 0))]) (R' := []) (S' := []) (fun p hp => by simp only [List.mem_cons, List.not_mem_nil, or_false] at hp ⊢; exact hp.symm) (fun p hp => hp) (fun p hp => hp))
  clear hp CN K1 K2 K3
  go_upto_block 0 with fail
  refine wp_block ?_
  refine bnA _ _ _ _ _ _ _ _ _ _ _ _ _ _ _ _ _ _ _ _ _ _ _ _ _ _ _ _ _ _ _ _ _ _ _ _ _ _ _ _ _ _ _ _ _ _ _ _ _ _ _ _ _ _ _ _ _ _ _ _ _ _ _ _ _ _ _ _ _ _ _ _ _ _ _ _ _ _ _ _ _ _ _ _ _ _ _ _ _ _ _ _ _ _ _ _ _ _ _ _ _ _ _ _ _ _ _ _ _ _ _ _ _ _ _ _ _ _ _ _ _ _ _ _ _ _ _ (cl := cl) (gh := w.heap.size) (ga := w.heap.size + 1) hcl Hz.out Hm.out Ht.out (by omega) ⟨Nat.zero_le _, K4.out, Cl.new 3, Nat.zero_le _, nst_new zs⟩ (fun v10 v11 v29 v30 v31 v32 v33 v34 v35 v36 v37 v38 v39 v40 v41 v42 v43 v44 v45 v46 v47 v48 v49 v50 v51 v52 v53 v54 v55 v56 v57 v58 v59 v60 v61 v62 v63 v64 v65 v66 v67 v68 v69 v70 v71 v72 i fh H1 N1 V1 hI1 _ => ?_)
  obtain ⟨hi, hk, hc, _, hs⟩ := hI1
  have K5 := Lib.hid hk
  have Hc := Lib.hid hc
  have Hs := Lib.hid hs
  clear hk hc hs K4
  go_upto_block 4 with fail
  refine wp_block ?_
  refine bnC _ _ _ _ _ _ _ _ _ _ _ _ _ _ _ _ _ _ _ _ _ _ _ _ _ _ _ _ _ _ _ _ _ _ _ _ _ _ _ _ _ _ _ _ _ _ _ _ _ _ _ _ _ _ _ _ _ _ _ _ _ _ _ _ _ _ _ _ _ _ _ _ _ _ _ _ _ _ _ _ _ _ _ _ _ _ _ _ _ _ _ _ _ _ _ _ _ _ _ _ _ _ _ _ _ _ _ _ _ _ _ _ _ _ _ _ _ _ _ _ _ _ _ _ _ _ _ (cl := cl) (gh := w.heap.size) (ga := w.heap.size + 1) hcl Hz.out Ht.out Hc.out Hs.out hi ⟨Nat.zero_le _, K5.out⟩ (fun v13 v14 v15 v16 v17 v73 v74 v75 v76 v77 v78 v79 v80 v81 v82 v83 v84 v85 v86 v87 v88 v89 v90 v91 v92 v93 v94 v95 v96 v97 v98 v99 v100 v101 v102 v103 v104 v105 v106 v107 v108 v109 v110 v111 v112 v113 v114 v115 v116 v117 v118 v119 v120 v121 v122 v123 v124 v125 v126 v127 v128 v129 v130 v131 k V2 hI2 _ => ?_)
  have HF := Lib.hid hI2.2.bp.bel
  have CW := Lib.hid (bkWakes_any V2 (Ht.out.below hI2.2.bp.bel Ht.out.pos))
  clear hI2 K5
  go_wp2_with fail
  (with_reducible refine CW.out.mono ?_); rintro e w12 ⟨rfl, hb12⟩
  have F12 := HF.out.trans (hb12.mono HF.out.size)
  clear hb12
  go_wp2_with fail
  go_ret
  exact ⟨rfl, F12⟩
end Go.Proofs.YtjnemopocmhfkaaDoor
end
