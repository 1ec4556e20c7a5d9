/- What Of makes, whole. -/
import Derived.Test.YtfgiomidlfoonaaDoorRecOf
set_option linter.unusedVariables false
set_option linter.unusedSimpArgs false
namespace Go.Proofs.YtfgiomidlfoonaaDoor
open Go.RowKit

set_option maxRecDepth 100000 in
set_option maxHeartbeats 3200000 in
theorem of_any (seq how : Int) (A : Option Addr) (zs : List Int) (cl : Nat) (w : World) (hseq : (-9223372036854775808 ≤ seq ∧ seq ≤ 9223372036854775807)) (hhow : (-9223372036854775808 ≤ how ∧ how ≤ 9223372036854775807)) (hz : RdZ w w.heap.size A zs) :
    Calls Tryd.prog 15 #[.int .i64 seq, .slice A zs.length cl, .int .i64 how] w fun e w' => ∃ (s : Int) (l : List It) (B : Option Addr) (c : Nat), e = .returned (.agg #[.int .i64 s, .slice B l.length c]) ∧ (-9223372036854775808 ≤ s ∧ s ≤ 9223372036854775807) ∧ Its64 l ∧ l.length ≤ 6 ∧ OwIt 29 w' w.heap.size w.heap.size (.slice B l.length c) l ∧ Below w.heap.size w w' := by
  have Hz := Lib.hid hz
  have W0 := Lib.hid fun V => within_any seq 2147483647 V hseq (by omega)
  have b0 := withinI_bd seq 2147483647 (by omega)
  generalize withinI seq 2147483647 = s0 at W0 b0
  have W4 := Lib.hid fun V => within_any how 4 V hhow (by omega)
  have b4 := withinI_bd how 4 (by omega)
  generalize withinI how 4 = q4 at W4 b4
  have t64 := i64_tdiv how 4 (by omega) hhow
  have W20 := Lib.hid fun V => within_any (how.tdiv 4) 20 V t64 (by omega)
  have b20 := withinI_bd (how.tdiv 4) 20 (by omega)
  generalize withinI (how.tdiv 4) 20 = q at W20 b20
  have kq : IntKind.i64.wrap (how.tdiv 4) = how.tdiv 4 := by rw [IntKind.wrap_i64]; omega
  have k1 : IntKind.i64.wrap (1 + s0) = 1 + s0 := by rw [IntKind.wrap_i64]; omega
  have S0 := Lib.hid (FdS.start2 w 32 (1 + s0))
  clear hz
  go_enter Tryd.func15, Tryd.ntmps15
  go_wp2_with fail
  (with_reducible refine (W0.out _).mono ?_); rintro e wx ⟨rfl, rfl⟩
  go_upto_block 0 with fail
  refine wp_block ?_
  refine ofR _ _ _ _ _ _ _ _ _ _ _ _ _ _ _ _ _ _ _ _ _ _ _ _ _ _ _ _ _ _ _ _ _ _ _ _ _ _ _ _ _ _ _ _ _ _ _ _ _ _ _ _ _ _ _ _ _ _ _ _ _ _ _ _ _ _ _ _ _ _ _ _ _ _ _ _ _ _ _ _ _ _ _ _ _ _ _ _ _ _ _ _ _ _ _ _ _ _ _ _ _ _ _ _ _ _ _ _ _ _ _ Hz.out W4 (by omega) ⟨by simp, by simp, S0.out, fun k hk => by simp at hk, fun x hx => by simp at hx⟩ (fun v16 v17 v18 v19 v20 v21 v22 v23 v24 v25 v26 v27 v28 v29 v30 v31 v32 v33 v34 v35 v36 v37 v38 v39 v40 v41 v42 v43 v44 v45 v46 v47 v48 v49 v50 v51 v52 v53 v54 v55 v56 i v l V hI hx => ?_)
  obtain ⟨hi, hl3, hst, h64, h32⟩ := hI
  go_upto_block 2 with (go_at_call 11; (with_reducible refine (W20.out _).mono ?_); rintro e wx ⟨rfl, rfl⟩)
  refine ofS _ _ _ _ _ _ _ _ _ _ _ _ _ _ _ _ _ _ _ _ _ _ _ _ _ _ _ _ _ _ _ _ _ _ _ _ _ _ _ _ _ _ _ _ _ _ _ _ _ _ _ _ _ _ _ _ _ _ _ _ _ _ _ _ _ _ _ _ _ _ _ _ _ _ _ _ _ _ _ _ _ _ _ _ _ _ _ _ _ _ _ _ _ _ _ _ _ _ _ _ _ _ _ _ _ _ _ _ _ _ _ _ hst h64 h32 (by omega) hseq (by omega) (fun v61 v62 v63 v64 v65 v66 v67 v68 v69 v70 v71 v72 s1 v1 l1 V1 hst1 h641 h321 hl1 hs1 => ?_)
  clear hst h64 h32
  obtain ⟨A5, c5, rfl, hc5, _⟩ := hst1.1.rd
  have Hst := Lib.hid hst1
  have H64 := Lib.hid h641
  have H32 := Lib.hid h321
  have q3 := hst1.2.2.2.1
  clear hst1 h641 h321
  by_cases h0 : l1.length = 0
  · have FE := Lib.hid (FdS.put_end Hst.out)
    obtain ⟨_, _, q2, _, q4, q5, q6, q7⟩ := Hst.out
    have q8 := q7 0
    have q9 := q7 1
    rw [h0] at q3 FE
    go_wp2_with fail
    refine bodyPost_ret (v := .agg #[.int .i64 s1, .slice A5 0 c5]) (by simp [results, Tryd.results15, go_sem, FE.out.1, FE.out.2.1]) rfl ⟨_, _, _, _, by rw [h0], hs1, H64.out, hl1, by rw [h0]; exact FE.out.2.2.1, FE.out.2.2.2⟩
  · obtain ⟨k, hk⟩ : ∃ k, l1.length = k + 1 := ⟨l1.length - 1, by omega⟩
    have kk : IntKind.i64.wrap ((l1.length : Int) - 1) = ((k : Nat) : Int) := by rw [IntKind.wrap_i64]; omega
    have kp : (0 : Int) ≤ ((k : Nat) : Int) := by omega
    go_upto_if 78 with fail
    refine ofT _ _ _ _ _ _ _ _ _ _ _ _ _ _ _ _ _ _ _ _ _ _ _ _ _ _ _ _ _ _ _ _ _ _ _ _ _ _ _ _ _ _ _ _ _ _ _ _ _ _ _ _ _ _ _ _ _ _ _ _ _ _ _ _ _ _ _ _ _ _ _ _ _ _ _ _ _ _ _ _ _ _ _ _ _ _ _ _ _ _ _ _ _ _ _ _ _ _ _ _ _ _ _ _ _ _ _ _ _ _ _ Hst.out H64.out H32.out hs1 hseq hl1 (by omega) hhow (fun v79 v80 v81 v82 v83 v84 v85 v86 v87 v88 v89 v90 v91 v92 v93 v94 v95 v96 v97 v98 v99 v100 v101 v102 v103 v104 v105 v106 v107 v108 v109 v110 v111 v112 v113 v114 v115 s2 v2 l2 V2 hst2 h642 hl2 hs2 => ?_)
    obtain ⟨A6, c6, rfl, hc6, _⟩ := hst2.1.rd
    have FE := Lib.hid (FdS.put_end hst2)
    obtain ⟨_, _, q2, q3', q4, q5, q6, q7⟩ := hst2
    have q8 := q7 0
    have q9 := q7 1
    clear q3
    go_wp2_with fail
    refine bodyPost_ret (v := .agg #[.int .i64 s2, .slice A6 l2.length c6]) (by simp [results, Tryd.results15, go_sem, FE.out.1, FE.out.2.1]) rfl ⟨_, _, _, _, rfl, hs2, h642, hl2, FE.out.2.2.1, FE.out.2.2.2⟩
end Go.Proofs.YtfgiomidlfoonaaDoor
