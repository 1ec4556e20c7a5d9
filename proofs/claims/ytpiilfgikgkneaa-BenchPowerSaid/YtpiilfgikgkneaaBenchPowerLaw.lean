/- BenchPower: all of it. -/
import Derived.Test.YtpiilfgikgkneaaBenchPowerLoops
set_option linter.unusedVariables false
set_option linter.unusedSimpArgs false
namespace Go.Proofs.Ytpiilfgikgkneaa
open Go.RowKit

set_option maxRecDepth 100000 in
set_option maxHeartbeats 3200000 in
theorem bench_power (n0 l0 : Int) (all : Bool) (W : World) (hn : -9223372036854775808 ≤ n0 ∧ n0 ≤ 9223372036854775807) (hl : -9223372036854775808 ≤ l0 ∧ l0 ≤ 9223372036854775807) :
    Calls Try.prog 6 #[.int .i64 n0, .int .i64 l0, .bool all] W fun e w' => e = .returned (.bool true) ∧ Below W.heap.size W w' := by
  have CN := Lib.hid (bp_new 2 W W (Below.refl _ _) (by omega))
  have CW1 := Lib.hid (fun V => within_any n0 20 V hn (by omega))
  have CW2 := Lib.hid (fun V => within_any l0 20 V hl (by omega))
  have b1 := withinI_bd n0 20 (by omega)
  have b2 := withinI_bd l0 20 (by omega)
  generalize withinI n0 20 = n1 at CW1 b1
  generalize withinI l0 20 = l1 at CW2 b2
  obtain ⟨n, rfl⟩ : ∃ n : Nat, n1 = (n : Int) := ⟨n1.toNat, by omega⟩
  obtain ⟨lim, rfl⟩ : ∃ n : Nat, l1 = (n : Int) := ⟨l1.toNat, by omega⟩
  have hn20 : n < 20 := by omega
  have hl20 : lim < 20 := by omega
  have hpe := ptr_eq
  clear b1 b2 hn hl
  go_enter Try.func6, Try.ntmps6
  go_wp2_with fail
  refine CN.out.mono ?_
  rintro e w ⟨b, H, rfl, hp, _, _⟩
  unfold ptr
  go_wp2_with fail
  refine (CW1.out _).mono ?_
  rintro e w1 ⟨rfl, rfl⟩
  go_wp2_with fail
  refine (CW2.out _).mono ?_
  rintro e w2 ⟨rfl, rfl⟩
  go_wp2_with fail
  refine (bp_limit _ _ _ _ _ hp lim ⟨by omega, by omega⟩).mono ?_
  rintro e w3 ⟨rfl, H3, hp3, _, _⟩
  rw [PC_zero] at hp3
  clear hp
  go_upto_block 0 with fail
  refine wp_block ?_
  refine bpA _ _ _ _ _ _ _ _ _ _ _ _ _ _ _ _ _ _ _ _ _ _ _ _ _ _ _ _ _ _ _ _ _ _ _ _ _ _ _ _ _ _ _ _ _ _ _ _ _ _ _ _ _ _ _ _ _ _ _ _ _ _ _ _ _ _ _ _ _ _ _ _ _ _ _ _ _ _ _ _ _ _ _ _ _ _ _ _ _ _ _ _ _ _ _ _ _ _ _ _ _ _ _ _ _ _ _ _ _ _ _ _ _ _ _ _ _ _ _ _ _ _ _ _ _ _ _ _ _ _ _ _ _ _ _ _ _ _ _ _ _ _ _ _ _ _ _ _ _ _ _ _ _ _ _ _ _ _ _ _ _ _ _ hn20 hl20 ⟨Nat.zero_le _, hp3⟩ (fun v6 v10 v37 v38 v39 v40 v41 v42 v43 v44 v45 v46 v47 v48 v49 v50 v51 v52 v53 v54 v55 v56 v57 v58 v59 v60 v61 v62 v63 v64 v65 n2 H4 V hI hx => ?_)
  have HI := Lib.hid hI.2
  clear hI hp3
  subst hx
  go_upto_region 12 with fail
  refine bp12 (W := W) _ _ _ _ _ _ _ _ _ _ _ _ _ _ _ _ _ _ _ _ _ _ _ _ _ _ _ _ _ _ _ _ _ _ _ _ _ _ _ _ _ _ _ _ _ _ _ _ _ _ _ _ _ _ _ _ _ _ _ _ _ _ _ _ _ _ _ _ _ _ _ _ _ _ _ _ _ _ _ _ _ _ _ _ _ _ _ _ _ _ _ _ _ _ _ _ _ _ _ _ _ _ _ _ _ _ _ _ _ _ _ _ _ _ _ _ _ _ _ _ _ _ _ _ _ _ _ _ _ _ _ _ _ _ _ _ _ _ _ _ _ _ _ _ _ _ _ _ _ _ _ _ _ _ _ _ _ _ _ _ _ _ _ _ _ hn20 hl20 (fun v66 v67 v68 => ?_)
  go_upto_region 13 with fail
  refine bp13 _ _ _ _ _ _ _ _ _ _ _ _ _ _ _ _ _ _ _ _ _ _ _ _ _ _ _ _ _ _ _ _ _ _ _ _ _ _ _ _ _ _ _ _ _ _ _ _ _ _ _ _ _ _ _ _ _ _ _ _ _ _ _ _ _ _ _ _ _ _ _ _ _ _ _ _ _ _ _ _ _ _ _ _ _ _ _ _ _ _ _ _ _ _ _ _ _ _ _ _ _ _ _ _ _ _ _ _ _ _ _ _ _ _ _ _ _ _ _ _ _ _ _ _ _ _ _ _ _ _ _ _ _ _ _ _ _ _ _ _ _ _ _ _ _ _ _ _ _ _ _ _ _ _ _ _ _ _ _ _ _ _ _ _ hn20 hl20 HI.out (fun v69 v70 v71 v72 v73 v74 v75 v76 v77 v78 v79 v80 v81 v82 v83 v84 v85 v86 v87 v88 v89 v90 v91 v92 v93 v94 v95 v96 v97 v98 v99 H5 V5 hp5 => ?_)
  have Hp5 := Lib.hid hp5
  clear hp5 HI
  have hm20 : min n2 lim < 20 := by omega
  have hmP : (PC lim n2).pend = min n2 lim := PC_pend _ _
  go_upto_block 2 with fail
  refine wp_block ?_
  refine bpB (B0 := V5.heap.size) (N := PC lim n2) _ _ _ _ _ _ _ _ _ _ _ _ _ _ _ _ _ _ _ _ _ _ _ _ _ _ _ _ _ _ _ _ _ _ _ _ _ _ _ _ _ _ _ _ _ _ _ _ _ _ _ _ _ _ _ _ _ _ _ _ _ _ _ _ _ _ _ _ _ _ _ _ _ _ _ _ _ _ _ _ _ _ _ _ _ _ _ _ _ _ _ _ _ _ _ _ _ _ _ _ _ _ _ _ _ _ _ _ _ _ _ _ _ _ _ _ _ _ _ _ _ _ _ _ _ _ _ _ _ _ _ _ _ _ _ _ _ _ _ _ _ _ _ _ _ _ _ _ _ _ _ _ _ _ _ _ _ _ _ _ _ _ _ hm20 ⟨Nat.zero_le _, fun _ => rfl, ⟨Hp5.out, fun k hk => (Hp5.out.at'.flt hk).2, ⟨Hp5.out.bel.size, Nat.le_refl _⟩, World.ownsRow_nil _ _ _ _⟩⟩ (fun v101 v102 v103 v104 v105 v106 v107 v108 v109 v110 v111 i v V6 hI hx => ?_)
  obtain ⟨A, c, q, rfl, hc, hk, hq, hqn⟩ := hI.2.2.rd (by omega)
  have CC := Lib.hid (bp_crash _ _ _ _ _ hI.2.2.p (List.replicate i true) A i c (by simp) (by simpa using hc) hk q hq hqn (fun j _ => PC_ps lim n2 (by omega) j))
  have Hx := Lib.hid hx
  clear hI hx hc hk hq hqn hmP
  go_wp2_with fail
  refine CC.out.mono ?_
  rintro e w7 ⟨rfl, H7, hp7, _, _⟩
  have Hp7 := Lib.hid hp7
  clear hp7 CC
  go_upto_block 4 with fail
  refine wp_block ?_
  refine bpC (N := (PC lim n2).crash (List.replicate i true)) _ _ _ _ _ _ _ _ _ _ _ _ _ _ _ _ _ _ _ _ _ _ _ _ _ _ _ _ _ _ _ _ _ _ _ _ _ _ _ _ _ _ _ _ _ _ _ _ _ _ _ _ _ _ _ _ _ _ _ _ _ _ _ _ _ _ _ _ _ _ _ _ _ _ _ _ _ _ _ _ _ _ _ _ _ _ _ _ _ _ _ _ _ _ _ _ _ _ _ _ _ _ _ _ _ _ _ _ _ _ _ _ _ _ _ _ _ _ _ _ _ _ _ _ _ _ _ _ _ _ _ _ _ _ _ _ _ _ _ _ _ _ _ _ _ _ _ _ _ _ _ _ _ _ _ _ _ _ _ _ _ _ _ hn20 rfl (fun d => ?_) rfl (fun j hj => ?_) ⟨Nat.zero_le _, Hp7.out⟩ (fun v6 v15 v16 v17 v115 v116 v117 v118 v119 v120 v121 v122 v123 v124 v125 v126 v127 v128 v129 v130 v131 v132 v133 v134 v135 v136 v137 v138 v139 v140 v141 v142 v143 v144 v145 v146 v147 j V8 hI hx => ?_)
  · show (if d < 2 then _ else _ : Dsk).f = false
    split <;> rfl
  · have := PC_left lim n2 all (by omega) j hj
    rw [← Hx.out] at this
    exact this
  have Hp8 := Lib.hid hI.2
  clear hI hx Hx Hp7
  have CD := Lib.hid (bp_down _ _ _ _ _ Hp8.out)
  have hps8 : ∀ d, d < 2 → (((PC lim n2).crash (List.replicate i true)).D d).ps = [] := fun d hd => by
    show (if d < 2 then _ else _ : Dsk).ps = []
    rw [if_pos hd]; rfl
  have hpl8 : ∀ d, d < ((PC lim n2).crash (List.replicate i true)).n → (((PC lim n2).crash (List.replicate i true)).D d).ps.length ≤ 2000000 := fun d hd => by rw [hps8 d hd]; exact Nat.zero_le _
  have CP := Lib.hid (show Calls _ _ _ _ (fun e w' => e = .returned (.int .i64 0) ∧ Below V8.heap.size V8 w') by
    have := bp_pending _ _ _ _ _ Hp8.out hpl8
    rw [show ((PC lim n2).crash (List.replicate i true)).pend = 0 from offs_zero hps8] at this
    exact this)
  have hW := (Bch.write_ok (N := (PC lim n2).crash (List.replicate i true)) (d := 0) (k := 0) (x := List.replicate 32 0) (show 0 < 2 by omega) (by omega) rfl (by
    show (if 0 < 2 then _ else _ : Dsk).f = false
    rfl) rfl (by show (-1 : Int) ≠ 0; omega)).1
  have hmk := makeS
  have Hl := Lib.hid hpl8
  have HW := Lib.hid hW
  clear hps8 hpl8 hW
  have hd8 : ((PC lim n2).crash (List.replicate i true)).down = false := rfl
  go_wp2_with (first
    | (go_at_call 34; refine CD.out.mono ?_; rintro e w9 ⟨rfl, rfl⟩)
    | (go_at_call 16; refine CP.out.mono ?_; rintro e w10 ⟨rfl, hb10⟩; have Hp10 := Lib.hid (Hp8.out.grow hb10); clear hb10; have Hz := Lib.hid (own_make 5 w10 32 (by omega)).rdS.1; have Hp11 := Lib.hid (Hp10.out.alloc (.cells (zcells 32) 5)))
    | (go_at_call 10; refine (bp_write _ _ _ _ _ Hp11.out 0 0 (List.replicate 32 0) _ 32 32 rfl ⟨by omega, by omega⟩ ⟨by omega, by omega⟩ Hz.out Hl.out (by show min n2 lim ≤ _; omega)).mono ?_; rintro e w12 ⟨rfl, H12, hp12, _, _⟩; have Hp12 := Lib.hid hp12; clear hp12; have h0 := HW.out; rw [show ((PC lim n2).crash (List.replicate i true)).writeE 0 0 32 = 0 from h0]; clear h0)
    | (go_at_call 17; refine (bwakes_any _).mono ?_; rintro e w13 ⟨rfl, hb13⟩; have Hb13 := Lib.hid (Hp12.out.bel.trans (hb13.mono Hp12.out.bel.size)); clear hb13))
  go_ret
  exact ⟨rfl, Hb13.out⟩
end Go.Proofs.Ytpiilfgikgkneaa
