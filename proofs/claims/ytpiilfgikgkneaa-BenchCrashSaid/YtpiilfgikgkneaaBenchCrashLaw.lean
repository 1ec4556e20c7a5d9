/- BenchCrash: all of it. -/
import Derived.Test.YtpiilfgikgkneaaBenchCrashLoops
set_option linter.unusedVariables false
set_option linter.unusedSimpArgs false
namespace Go.Proofs.Ytpiilfgikgkneaa
open Go.RowKit

set_option maxRecDepth 100000 in
set_option maxHeartbeats 3200000 in
theorem bench_crash (A : Option Addr) (l : List Int) (c0 : Nat) (A2 : Option Addr) (ks : List Bool) (c2 : Nat) (W : World) (_ : l.length ≤ c0) (hr : RdZ W W.heap.size A l) (hkc : ks.length ≤ c2) (hk : RdO W W.heap.size A2 ks) :
    Calls Try.prog 3 #[.slice A l.length c0, .slice A2 ks.length c2] W fun e w' => e = .returned (.bool true) ∧ Below W.heap.size W w' := by
  have CN := Lib.hid (bp_new 3 W W (Below.refl _ _) (by omega))
  have hpe := ptr_eq
  have hll := hr.1
  have hkl := hk.1
  have Hr := Lib.hid hr
  have Hk := Lib.hid hk
  clear hr hk
  go_enter Try.func3, Try.ntmps3
  go_wp2_with fail
  refine CN.out.mono ?_
  rintro e w ⟨b, H, rfl, hp, _, _⟩
  unfold ptr
  rw [← NB_zero] at hp
  have hp0 : PD W (w.alloc (.cells #[.slice none 0 0, .slice none 0 0, .slice none 0 0] 28)) b H (NB (fun _ => 0) 0) w.heap.size (fun _ => 0) (fun _ => .slice none 0 0) :=
    ⟨hp.alloc _, hp_new _ _ _ rfl, fun _ _ => World.ownsRow_nil _ _ _ _, hp.bel.size, fun hk => by have := (hp.at'.flt hk).2; omega, (fun _ _ _ h => by simp [Value.ownBlock] at h), (fun _ _ _ _ _ _ h => by simp [Value.ownBlock] at h)⟩
  have Hp0 := Lib.hid hp0
  clear hp0 hp
  go_upto_block 0 with fail
  refine wp_block ?_
  refine bcA _ _ _ _ _ _ _ _ _ _ _ _ _ _ _ _ _ _ _ _ _ _ _ _ _ _ _ _ _ _ _ _ _ _ _ _ _ _ _ _ _ _ _ _ _ _ _ _ _ _ _ _ _ _ _ _ _ _ _ _ _ _ _ _ _ _ _ _ _ _ _ _ _ _ _ _ _ _ _ _ _ _ _ _ _ _ _ _ _ _ _ _ _ _ _ _ _ _ _ _ _ _ _ _ _ _ _ _ _ _ _ _ _ _ _ _ _ _ _ _ _ _ _ _ _ _ _ rfl hll Hr.out ⟨Nat.zero_le _, rfl, Hp0.out⟩ (fun v4 v9 v10 v28 v29 v30 v31 v32 v33 v34 v35 v36 v37 v38 v39 v40 v41 v42 v43 v44 v45 v46 v47 v48 v49 v50 v51 v52 v53 v54 v55 v56 v57 v58 v59 v60 v61 v62 v63 v64 v65 i c v H4 V hI _ => ?_)
  obtain ⟨hi, hs, hp4⟩ := hI
  have hcs : ∀ d, d < 3 → c d ≤ 20 := fun j hj => by
    match j, hj with
    | 0, _ => omega
    | 1, _ => omega
    | 2, _ => omega
  have CC := Lib.hid (bp_crash_arg hp4.p ks A2 ks.length c2 rfl hkc Hk.out (fun j hj => NB_ps c i hcs j hj))
  have Hp4 := Lib.hid hp4
  have HS := Lib.hid (show sumC c 3 = i by show 0 + c 0 + c 1 + c 2 = i; omega)
  clear hp4 hs Hp0
  go_wp2_with fail
  refine CC.out.mono ?_
  rintro e w5 ⟨rfl, hbc⟩
  obtain ⟨H5, hp5⟩ := Hp4.out.bench (N' := (NB c i).crash ks) rfl hbc
  have Hp5 := Lib.hid hp5
  have Hcs := Lib.hid hcs
  clear hp5 hbc CC Hp4 hcs
  go_upto_block 2 with fail
  refine wp_block ?_
  refine bcB (pb := w.heap.size) (m := i) (c := c) (v := v) (H := H5) _ _ _ _ _ _ _ _ _ _ _ _ _ _ _ _ _ _ _ _ _ _ _ _ _ _ _ _ _ _ _ _ _ _ _ _ _ _ _ _ _ _ _ _ _ _ _ _ _ _ _ _ _ _ _ _ _ _ _ _ _ _ _ _ _ _ _ _ _ _ _ _ _ _ _ _ _ _ _ _ _ _ _ _ _ _ _ _ _ _ _ _ _ _ _ _ _ _ _ _ _ _ _ _ _ _ _ _ _ _ _ _ _ _ _ _ _ _ _ _ _ _ _ _ _ _ rfl hkl Hk.out Hcs.out ⟨Nat.zero_le _, rfl, Hp5.out⟩ (fun v4 v12 v14 v15 v16 v17 v70 v71 v72 v73 v74 v75 v76 v77 v78 v79 v80 v81 v82 v83 v84 v85 v86 v87 v88 v89 v90 v91 v92 v93 v94 v95 v96 v97 v98 v99 v100 v101 v102 v103 v104 v105 v106 v107 v108 v109 v110 v111 v112 v113 v114 v115 t k V6 hI hx => ?_)
  obtain ⟨_, hk6, hp6⟩ := hI
  subst hx
  have hki : k = i := hk6.trans HS.out
  subst hki
  have Hp6 := Lib.hid hp6
  have CW := Lib.hid (show Calls _ _ _ _ (fun e w' => e = .returned (.int .i64 (k : Int)) ∧ w' = V6) from bp_writes _ _ _ _ _ hp6.p)
  have CP := Lib.hid (show Calls _ _ _ _ (fun e w' => e = .returned (.int .i64 0) ∧ Below V6.heap.size V6 w') by
    have := bp_pending _ _ _ _ _ hp6.p (fun d hd => by rw [crash_pend c k ks d hd]; exact Nat.zero_le _)
    rw [show ((NB c k).crash ks).pend = 0 from offs_zero (crash_pend c k ks)] at this
    exact this)
  clear hp6 hk6 Hp5
  go_wp2_with (first
    | (go_at_call 15; refine CW.out.mono ?_; rintro e w9 ⟨rfl, rfl⟩)
    | (go_at_call 16; refine CP.out.mono ?_; rintro e w10 ⟨rfl, hb10⟩; have Hp10 := Lib.hid (Hp6.out.p.grow hb10); clear hb10)
    | (go_at_call 17; refine (bwakes_any _).mono ?_; rintro e w13 ⟨rfl, hb13⟩; have Hb13 := Lib.hid (Hp10.out.bel.trans (hb13.mono Hp10.out.bel.size)); clear hb13))
  go_ret
  exact ⟨rfl, Hb13.out⟩
end Go.Proofs.Ytpiilfgikgkneaa
