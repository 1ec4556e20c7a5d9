/- Texts put together: UpdateErrorsPc, UpdateErrorsEnd. -/
import Derived.Test.YtenkkdnepmoihaaGreatDoorUebm
section
set_option linter.unusedVariables false
set_option linter.unusedSimpArgs false
namespace Go.Proofs.YtenkkdnepmoihaaGreatDoor
open Go.RowKit

set_option maxRecDepth 100000 in
set_option maxHeartbeats 3200000 in
theorem ueR10 {aa cc l c : Int} {D gb : Nat} {w : World} (u0 u1 u2 u3 u6 u7 u8 u9 u10 u11 u12 u14 u15 u16 u17 u18 u19 u20 u21 u22 u23 u24 u25 u26 u27 u28 u29 u30 u31 u32 u33 u34 u35 u36 u37 u38 u39 u40 u41 u42 u43 u44 u45 u46 u47 u48 u49 u50 u51 u52 u53 u54 u55 u56 u57 u58 u59 u60 u61 u62 u63 u64 u65 u66 u67 u68 u69 u70 u71 u72 u73 u74 u75 u76 u77 u78 u79 u80 u81 u82 u83 u84 u85 u86 u87 u88 u89 u90 u91 u92 u93 u94 u95 u96 u97 u98 u99 u100 u101 u102 u103 u104 u105 u106 u107 u108 u109 u110 u111 u112 u113 u114 u115 u116 u117 u118 u119 u120 u121 u122 u123 u124 u125 u126 u127 u128 u129 u130 u131 u132 u133 u134 u135 u136 u137 u138 u139 u140 u141 u142 u143 u144 u145 u146 u147 u148 u149 u150 u151 u152 u153 u154 u155 u156 u157 u158 u159 u160 u161 u162 u163 u164 u165 u166 u167 u168 u169 u170 u171 u172 : Value) (K : Act → World → Prop) (Q0 : Exit → Act → World → Prop) (hd : 3 ≤ D ∧ D ≤ 8) (haa : (-9223372036854775808 ≤ aa ∧ aa ≤ 9223372036854775807)) (hcc : (-9223372036854775808 ≤ cc ∧ cc ≤ 9223372036854775807)) (hg : GAt w gb l (D : Int) c)
    (hK : ∀ (v97 v98 v99 v100 v101 v102 v103 v104 : Value) (a1 c1 m : Nat), a1 < D → c1 < D → K ⟨List.toArray (u0 :: u1 :: u2 :: u3 :: (.int .i64 ((a1 : Nat) : Int)) :: (.int .i64 ((c1 : Nat) : Int)) :: u6 :: u7 :: u8 :: u9 :: u10 :: u11 :: u12 :: (.pointer (some ⟨gb, 0, none⟩)) :: u14 :: u15 :: u16 :: u17 :: u18 :: u19 :: u20 :: u21 :: u22 :: u23 :: u24 :: u25 :: u26 :: u27 :: u28 :: u29 :: u30 :: u31 :: u32 :: u33 :: u34 :: u35 :: u36 :: u37 :: u38 :: u39 :: u40 :: u41 :: u42 :: u43 :: u44 :: u45 :: u46 :: u47 :: u48 :: u49 :: u50 :: u51 :: u52 :: u53 :: u54 :: u55 :: u56 :: u57 :: u58 :: u59 :: u60 :: u61 :: u62 :: u63 :: u64 :: u65 :: u66 :: u67 :: u68 :: u69 :: u70 :: u71 :: u72 :: u73 :: u74 :: u75 :: u76 :: u77 :: u78 :: u79 :: u80 :: u81 :: u82 :: u83 :: u84 :: u85 :: u86 :: u87 :: u88 :: u89 :: u90 :: u91 :: u92 :: u93 :: u94 :: u95 :: u96 :: v97 :: v98 :: v99 :: v100 :: v101 :: v102 :: v103 :: v104 :: u105 :: u106 :: u107 :: u108 :: u109 :: u110 :: u111 :: u112 :: u113 :: u114 :: u115 :: u116 :: u117 :: u118 :: u119 :: u120 :: u121 :: u122 :: u123 :: u124 :: u125 :: u126 :: u127 :: u128 :: u129 :: u130 :: u131 :: u132 :: u133 :: u134 :: u135 :: u136 :: u137 :: u138 :: u139 :: u140 :: u141 :: u142 :: u143 :: u144 :: u145 :: u146 :: u147 :: u148 :: u149 :: u150 :: u151 :: u152 :: u153 :: u154 :: u155 :: u156 :: u157 :: u158 :: u159 :: u160 :: u161 :: u162 :: u163 :: u164 :: u165 :: u166 :: u167 :: u168 :: u169 :: u170 :: u171 :: u172 :: []), []⟩ (w.drewN m)) :
    Code.wp Tryz.prog (sub [1, 1, 1, 1, 1, 1, 1, 1, 0] codeUE) (Exit.then K Q0) ⟨List.toArray (u0 :: u1 :: u2 :: u3 :: (.int .i64 aa) :: (.int .i64 cc) :: u6 :: u7 :: u8 :: u9 :: u10 :: u11 :: u12 :: (.pointer (some ⟨gb, 0, none⟩)) :: u14 :: u15 :: u16 :: u17 :: u18 :: u19 :: u20 :: u21 :: u22 :: u23 :: u24 :: u25 :: u26 :: u27 :: u28 :: u29 :: u30 :: u31 :: u32 :: u33 :: u34 :: u35 :: u36 :: u37 :: u38 :: u39 :: u40 :: u41 :: u42 :: u43 :: u44 :: u45 :: u46 :: u47 :: u48 :: u49 :: u50 :: u51 :: u52 :: u53 :: u54 :: u55 :: u56 :: u57 :: u58 :: u59 :: u60 :: u61 :: u62 :: u63 :: u64 :: u65 :: u66 :: u67 :: u68 :: u69 :: u70 :: u71 :: u72 :: u73 :: u74 :: u75 :: u76 :: u77 :: u78 :: u79 :: u80 :: u81 :: u82 :: u83 :: u84 :: u85 :: u86 :: u87 :: u88 :: u89 :: u90 :: u91 :: u92 :: u93 :: u94 :: u95 :: u96 :: u97 :: u98 :: u99 :: u100 :: u101 :: u102 :: u103 :: u104 :: u105 :: u106 :: u107 :: u108 :: u109 :: u110 :: u111 :: u112 :: u113 :: u114 :: u115 :: u116 :: u117 :: u118 :: u119 :: u120 :: u121 :: u122 :: u123 :: u124 :: u125 :: u126 :: u127 :: u128 :: u129 :: u130 :: u131 :: u132 :: u133 :: u134 :: u135 :: u136 :: u137 :: u138 :: u139 :: u140 :: u141 :: u142 :: u143 :: u144 :: u145 :: u146 :: u147 :: u148 :: u149 :: u150 :: u151 :: u152 :: u153 :: u154 :: u155 :: u156 :: u157 :: u158 :: u159 :: u160 :: u161 :: u162 :: u163 :: u164 :: u165 :: u166 :: u167 :: u168 :: u169 :: u170 :: u171 :: u172 :: []), []⟩ w := by
  have HK := Lib.hid hK
  clear hK
  conv => arg 2; whnf
  have CWa := Lib.hid (fun V => within_any aa (D : Int) V haa (by omega))
  have hab := withinI_bd aa (D : Int) (by omega)
  obtain ⟨a1, ha1⟩ := Int.eq_ofNat_of_zero_le hab.1
  rw [ha1] at CWa hab
  have CWc := Lib.hid (fun V => within_any cc (D : Int) V hcc (by omega))
  have hcb := withinI_bd cc (D : Int) (by omega)
  obtain ⟨c1, hc1⟩ := Int.eq_ofNat_of_zero_le hcb.1
  rw [hc1] at CWc hcb
  obtain ⟨g1, g2, g3⟩ := hg
  clear ha1 hc1
  go_wp2_with fail
  go_quiet ((go_at_call 10; first | with_reducible exact Calls.quiet_of_same (CWa.out _) | with_reducible exact Calls.quiet_of_same (CWc.out _)))
  exact HK.out _ _ _ _ _ _ _ _ a1 c1 nq (by omega) (by omega)
end Go.Proofs.YtenkkdnepmoihaaGreatDoor
end
section
set_option linter.unusedVariables false
set_option linter.unusedSimpArgs false
namespace Go.Proofs.YtenkkdnepmoihaaGreatDoor
open Go.RowKit

set_option maxRecDepth 100000 in
set_option maxHeartbeats 3200000 in
theorem ueT {W0 : World} {n l c r : Int} {D F W a1 c1 b gb gl gx : Nat} {lv : List Bool} {x : List UInt8} {H : BH} {N : Bch} {ds : Nat → List (List UInt8)} {w : World} (u0 u1 u2 u3 u6 u7 u8 u9 u10 u11 u12 u17 u18 u19 u20 u21 u22 u23 u24 u25 u26 u27 u28 u29 u30 u31 u32 u33 u34 u35 u36 u37 u38 u39 u40 u41 u42 u43 u44 u45 u46 u47 u48 u49 u50 u51 u52 u53 u54 u55 u56 u57 u58 u59 u60 u61 u62 u63 u64 u65 u66 u67 u68 u69 u70 u71 u72 u73 u74 u75 u76 u77 u78 u79 u80 u81 u82 u83 u84 u85 u86 u87 u88 u89 u90 u91 u92 u93 u94 u95 u96 u97 u98 u99 u100 u101 u102 u103 u104 u105 u106 u107 u108 u109 u110 u111 u112 u113 u114 u115 u116 u117 u118 u119 u120 u121 u122 u123 u124 u125 u126 u127 u128 u129 u130 u131 u132 u133 u134 u135 u136 u137 u138 u139 u140 u141 u142 u143 u144 u145 u146 u147 u148 u149 u150 u151 u152 u153 u154 u155 u156 u157 u158 u159 u160 u161 u162 u163 u164 u165 u166 u167 u168 u169 u170 u171 u172 : Value) (Q : Exit → Act → World → Prop) (hu : UpdC) (hp : UpdP) (ht : TabOk W0) (gr : Gr n l c r D F W) (haD : a1 < D) (hcD : c1 < D) (hx : x.length = 32) (hll : lv.length = D) (hglb : gl ≠ gb) (hgxl : gx ≠ gl) (ha : ∀ lv, Arr N D lv l c W ds) (hup : Up N D) (hdn : N.done = 0) (hk : KS W0 w b H N [(gl, Obj.cells (lv.map Value.bool).toArray 4 (0, 0)), (gb, Obj.cells #[.int .i64 l, .int .i64 (D : Int), .int .i64 c] 24 (0, 0))] [] [(some ⟨gx, 0, none⟩, x)])
    (hQ : ∀ (v0 v1 v2 v3 v4 v5 v6 v7 v8 v9 v10 v11 v13 v14 v15 v16 v17 v18 v19 v20 v21 v22 v23 v24 v25 v26 v27 v28 v29 v30 v31 v32 v33 v34 v35 v36 v37 v38 v39 v40 v41 v42 v43 v44 v45 v46 v47 v48 v49 v50 v51 v52 v53 v54 v55 v56 v57 v58 v59 v60 v61 v62 v63 v64 v65 v66 v67 v68 v69 v70 v71 v72 v73 v74 v75 v76 v77 v78 v79 v80 v81 v82 v83 v84 v85 v86 v87 v88 v89 v90 v91 v92 v93 v94 v95 v96 v97 v98 v99 v100 v101 v102 v103 v104 v105 v106 v107 v108 v109 v110 v111 v112 v113 v114 v115 v116 v117 v118 v119 v120 v121 v122 v123 v124 v125 v126 v127 v128 v129 v130 v131 v132 v133 v134 v135 v136 v137 v138 v139 v140 v141 v142 v143 v144 v145 v146 v147 v148 v149 v150 v151 v152 v153 v154 v155 v156 v157 v158 v159 v160 v161 v162 v163 v164 v165 v166 v167 v168 v169 v170 v171 v172 : Value) (V : World), Below W0.heap.size W0 V → Q .ret ⟨List.toArray (v0 :: v1 :: v2 :: v3 :: v4 :: v5 :: v6 :: v7 :: v8 :: v9 :: v10 :: v11 :: (.bool true) :: v13 :: v14 :: v15 :: v16 :: v17 :: v18 :: v19 :: v20 :: v21 :: v22 :: v23 :: v24 :: v25 :: v26 :: v27 :: v28 :: v29 :: v30 :: v31 :: v32 :: v33 :: v34 :: v35 :: v36 :: v37 :: v38 :: v39 :: v40 :: v41 :: v42 :: v43 :: v44 :: v45 :: v46 :: v47 :: v48 :: v49 :: v50 :: v51 :: v52 :: v53 :: v54 :: v55 :: v56 :: v57 :: v58 :: v59 :: v60 :: v61 :: v62 :: v63 :: v64 :: v65 :: v66 :: v67 :: v68 :: v69 :: v70 :: v71 :: v72 :: v73 :: v74 :: v75 :: v76 :: v77 :: v78 :: v79 :: v80 :: v81 :: v82 :: v83 :: v84 :: v85 :: v86 :: v87 :: v88 :: v89 :: v90 :: v91 :: v92 :: v93 :: v94 :: v95 :: v96 :: v97 :: v98 :: v99 :: v100 :: v101 :: v102 :: v103 :: v104 :: v105 :: v106 :: v107 :: v108 :: v109 :: v110 :: v111 :: v112 :: v113 :: v114 :: v115 :: v116 :: v117 :: v118 :: v119 :: v120 :: v121 :: v122 :: v123 :: v124 :: v125 :: v126 :: v127 :: v128 :: v129 :: v130 :: v131 :: v132 :: v133 :: v134 :: v135 :: v136 :: v137 :: v138 :: v139 :: v140 :: v141 :: v142 :: v143 :: v144 :: v145 :: v146 :: v147 :: v148 :: v149 :: v150 :: v151 :: v152 :: v153 :: v154 :: v155 :: v156 :: v157 :: v158 :: v159 :: v160 :: v161 :: v162 :: v163 :: v164 :: v165 :: v166 :: v167 :: v168 :: v169 :: v170 :: v171 :: v172 :: []), []⟩ V) :
    Code.wp Tryz.prog (sub [1, 1, 1, 1, 1, 1, 1, 1, 1] codeUE) Q ⟨List.toArray (u0 :: u1 :: u2 :: u3 :: (.int .i64 ((a1 : Nat) : Int)) :: (.int .i64 ((c1 : Nat) : Int)) :: u6 :: u7 :: u8 :: u9 :: u10 :: u11 :: u12 :: (.pointer (some ⟨gb, 0, none⟩)) :: (.pointer (some ⟨b, 0, none⟩)) :: (.slice (some ⟨gl, 0, none⟩) D D) :: (.slice (some ⟨gx, 0, none⟩) 32 32) :: u17 :: u18 :: u19 :: u20 :: u21 :: u22 :: u23 :: u24 :: u25 :: u26 :: u27 :: u28 :: u29 :: u30 :: u31 :: u32 :: u33 :: u34 :: u35 :: u36 :: u37 :: u38 :: u39 :: u40 :: u41 :: u42 :: u43 :: u44 :: u45 :: u46 :: u47 :: u48 :: u49 :: u50 :: u51 :: u52 :: u53 :: u54 :: u55 :: u56 :: u57 :: u58 :: u59 :: u60 :: u61 :: u62 :: u63 :: u64 :: u65 :: u66 :: u67 :: u68 :: u69 :: u70 :: u71 :: u72 :: u73 :: u74 :: u75 :: u76 :: u77 :: u78 :: u79 :: u80 :: u81 :: u82 :: u83 :: u84 :: u85 :: u86 :: u87 :: u88 :: u89 :: u90 :: u91 :: u92 :: u93 :: u94 :: u95 :: u96 :: u97 :: u98 :: u99 :: u100 :: u101 :: u102 :: u103 :: u104 :: u105 :: u106 :: u107 :: u108 :: u109 :: u110 :: u111 :: u112 :: u113 :: u114 :: u115 :: u116 :: u117 :: u118 :: u119 :: u120 :: u121 :: u122 :: u123 :: u124 :: u125 :: u126 :: u127 :: u128 :: u129 :: u130 :: u131 :: u132 :: u133 :: u134 :: u135 :: u136 :: u137 :: u138 :: u139 :: u140 :: u141 :: u142 :: u143 :: u144 :: u145 :: u146 :: u147 :: u148 :: u149 :: u150 :: u151 :: u152 :: u153 :: u154 :: u155 :: u156 :: u157 :: u158 :: u159 :: u160 :: u161 :: u162 :: u163 :: u164 :: u165 :: u166 :: u167 :: u168 :: u169 :: u170 :: u171 :: u172 :: []), []⟩ w := by
  have HQ := Lib.hid hQ
  clear hQ
  conv => arg 2; whnf
  have hd8 := gr.d8
  have hd3 := gr.d3
  have w1 := gr.w1
  have L1 := gr.l64
  have L2 := gr.d64
  have L3 := gr.c64
  have hlv := gr.lv
  have HWk := Lib.hid (fun V => wakesUpd_any hp V)
  have Gr' := Lib.hid gr
  have Ha := Lib.hid ha
  have Hup := Lib.hid hup
  have hdx := Lib.hid (show True from trivial)
  have Hk := Lib.hid hk
  clear hk ha hup gr hp
  go_upto_block 0 with fail
  refine wp_block ?_
  refine ueA _ _ _ _ _ _ _ _ _ _ _ _ _ _ _ _ _ _ _ _ _ _ _ _ _ _ _ _ _ _ _ _ _ _ _ _ _ _ _ _ _ _ _ _ _ _ _ _ _ _ _ _ _ _ _ _ _ _ _ _ _ _ _ _ _ _ _ _ _ _ _ _ _ _ _ _ _ _ _ _ _ _ _ _ _ _ _ _ _ _ _ _ _ _ _ _ _ _ _ _ _ _ _ _ _ _ _ _ _ _ _ _ _ _ _ _ _ _ _ _ _ _ _ _ _ _ _ _ _ _ _ _ _ _ _ _ _ _ _ _ _ _ _ _ _ _ _ _ _ _ _ _ _ _ _ _ _ _ _ _ _ _ _ _ _ _ _ _ _ _ _ trivial ⟨Nat.zero_le _, fun j hj => by omega, Hk.out⟩ (fun v105 v106 v107 v108 v109 v110 v111 v112 v113 v114 d V1 hI hx1 => ?_)
  obtain ⟨_, _, k1⟩ := hI
  obtain ⟨hda, hdc, hd2⟩ := hx1
  have hdD : d < D := by omega
  have i1 : (0 : Int) ≤ (a1 : Int) := by omega
  have i2 : (a1 : Int) < (D : Int) := by omega
  have i3 : (0 : Int) ≤ (c1 : Int) := by omega
  have i4 : (c1 : Int) < (D : Int) := by omega
  have i5 : (0 : Int) ≤ (d : Int) := by omega
  have i6 : (d : Int) < (D : Int) := by omega
  have hblk := (k1.kx.kp (gl, Obj.cells (lv.map Value.bool).toArray 4 (0, 0)) (by simp)).1
  dsimp only at hblk
  obtain ⟨hc0, hf0, hb0, gg0⟩ := lv_setCell hblk (d := a1) (by rw [hll]; exact haD) false
  have hl1 : (lv.set a1 false).length = D := by rw [List.length_set]; exact hll
  obtain ⟨hc1, hf1, hb1, gg1⟩ := lv_setCell hb0 (d := c1) (by rw [hl1]; exact hcD) false
  have hne : ∀ r ∈ [(gb, Obj.cells #[.int .i64 l, .int .i64 (D : Int), .int .i64 c] 24 (0, 0))], r.1 ≠ gl := fun r hr => by rw [List.mem_singleton.1 hr]; exact Ne.symm hglb
  have hnx : ∀ q ∈ [(some ⟨gx, 0, none⟩, x)], ∀ a : Addr, q.1 = some a → a.block ≠ gl := fun q hq a e => by
    rw [List.mem_singleton.1 hq] at e; injection e with e; subst e; exact hgxl
  have K3 := Lib.hid ((k1.put2 gg0 hb0 hne hnx).put2 gg1 hb1 hne hnx)
  have hl2 : ((lv.set a1 false).set c1 false).length = D := by rw [List.length_set]; exact hl1
  clear k1 hblk hb0 hb1 gg0 gg1 Hk
  go_upto_region 15 with fail
  generalize (V1.setCell ⟨gl, a1, none⟩ (.bool false)).setCell ⟨gl, c1, none⟩ (.bool false) = w3 at K3 ⊢
  generalize (lv.set a1 false).set c1 false = lv1 at hl2 K3
  clear hc0 hf0 hc1 hf1 hl1
  obtain ⟨g1, g2, g3⟩ := K3.out.gat (g := gb) (l := l) (d := (D : Int)) (c := c) (t := 24) (f := (0, 0)) (by simp)
  by_cases h6 : l = 6
  · have e6 : (l == 6) = true := by rw [h6]; exact beq_self_eq_true _
    have hblk := (K3.out.kx.kp (gl, Obj.cells (lv1.map Value.bool).toArray 4 (0, 0)) (by simp)).1
    dsimp only at hblk
    obtain ⟨hc0, hf0, hb0, gg0⟩ := lv_setCell hblk (d := d) (by rw [hl2]; exact hdD) false
    have hll2 : (lv1.set d false).length = D := by rw [List.length_set]; exact hl2
    have K5 := Lib.hid (K3.out.put2 gg0 hb0 hne hnx)
    clear hblk hb0 gg0 K3 h6 hl2
    go_upto_region 17 with fail
    generalize w3.setCell ⟨gl, d, none⟩ (.bool false) = w5 at K5 ⊢
    generalize lv1.set d false = lv2 at hll2 K5
    clear hc0 hf0 g1 g2 g3
    have hb5 := hdx.out
    have CNT := Lib.hid (show cntB D (fun i => !srvD N lv2 i) = cntB D (fun i => !lv2.getD i false) from cntB_congr fun i hi => by
      cases e : lv2.getD i false with
      | true => rw [srvD_mk (by rw [Hup.out.n]; exact hi) e (Hup.out.f i hi)]
      | false => rw [srvD_no fun q => by rw [e] at q; exact absurd q.2.1 (by decide)])
    go_upto_block 2 with fail
    refine wp_block ?_
    refine ueB _ _ _ _ _ _ _ _ _ _ _ _ _ _ _ _ _ _ _ _ _ _ _ _ _ _ _ _ _ _ _ _ _ _ _ _ _ _ _ _ _ _ _ _ _ _ _ _ _ _ _ _ _ _ _ _ _ _ _ _ _ _ _ _ _ _ _ _ _ _ _ _ _ _ _ _ _ _ _ _ _ _ _ _ _ _ _ _ _ _ _ _ _ _ _ _ _ _ _ _ _ _ _ _ _ _ _ _ _ _ _ _ _ _ _ _ _ _ _ _ _ _ _ _ _ _ _ _ _ _ _ _ _ _ _ _ _ _ _ _ _ _ _ _ _ _ _ _ _ _ _ _ _ _ _ _ _ _ _ _ _ _ _ _ _ _ _ _ _ _ hll2 hd8 ⟨Nat.zero_le _, rfl, K5.out⟩ (fun v20 v130 v131 v132 v133 v134 v135 v136 v137 i cn V6 hI hi => ?_)
    obtain ⟨_, hcn, k6⟩ := hI
    rw [hi] at hcn
    clear hi
    rw [← CNT.out] at hcn
    have hcn8 : cn ≤ 8 := by rw [hcn]; have := cntB_le D (fun i => !srvD N lv2 i); omega
    obtain ⟨g4, g5, g6⟩ := k6.gat (g := gb) (l := l) (d := (D : Int)) (c := c) (t := 24) (f := (0, 0)) (by simp)
    have CDo := ks_do k6 hu ht lv2 (some ⟨gl, 0, none⟩) D D hll2.symm (k6.lv (g := gl) (t := 4) (f := (0, 0)) (lv := lv2) (by simp) rfl (by omega)) l (D : Int) c 0 L1 L2 L3 (by omega) (some ⟨gx, 0, none⟩) 32 32 x hx (Nat.le_refl _) (k6.sl (A := some ⟨gx, 0, none⟩) (bs := x) (by simp)) 1 (by omega) (fun e => (Ha.out lv2).fok Gr'.out hx e) (fun j hj => by rw [(Ha.out lv2).st.good.ps j hj]; exact Nat.zero_le _) (by rw [hdn]; omega)
    have e00 : plN l (D : Int) c ((0 : Nat) : Int) ((0 : Nat) : Int) = 0 := by unfold plN; simp
    by_cases hle : (cn : Int) ≤ l - 4
    · have hd0 := ((Ha.out lv2).do_ (ρ := 0) (k := 0) (s := 1) Gr'.out (by omega) (by omega) hx (by rw [← hcn]; exact hle) (by omega)).1
      rw [e00] at hd0
      rw [hd0] at CDo
      generalize (doS N lv2 l (D : Int) c 0 x 1).2 = M at CDo
      have CDo := Lib.hid CDo
      have eg : decide ((cn : Int) > l - 4) = false := decide_eq_false (by omega)
      have ig : ¬ l - 4 < (cn : Int) := by omega
      clear hcn k6 hd0 e00 CNT hb5
      go_wp2_with fail
      (with_reducible refine CDo.out.mono ?_); rintro e w7 ⟨rfl, H7, k7⟩
      obtain ⟨g1, g2, g3⟩ := k7.gat (g := gb) (l := l) (d := (D : Int)) (c := c) (t := 24) (f := (0, 0)) (by simp)
      have F7 := Lib.hid k7.bp.bel
      clear k7 CDo g4 g5 g6
      go_wp2_with fail
      (with_reducible refine (HWk.out _).mono ?_); rintro e w8 ⟨rfl, hb8⟩
      have F8 := F7.out.trans (hb8.mono F7.out.size)
      go_wp2_with fail
      exact HQ.out _ _ _ _ _ _ _ _ _ _ _ _ _ _ _ _ _ _ _ _ _ _ _ _ _ _ _ _ _ _ _ _ _ _ _ _ _ _ _ _ _ _ _ _ _ _ _ _ _ _ _ _ _ _ _ _ _ _ _ _ _ _ _ _ _ _ _ _ _ _ _ _ _ _ _ _ _ _ _ _ _ _ _ _ _ _ _ _ _ _ _ _ _ _ _ _ _ _ _ _ _ _ _ _ _ _ _ _ _ _ _ _ _ _ _ _ _ _ _ _ _ _ _ _ _ _ _ _ _ _ _ _ _ _ _ _ _ _ _ _ _ _ _ _ _ _ _ _ _ _ _ _ _ _ _ _ _ _ _ _ _ _ _ _ _ _ _ _ _ _ _ _ _ F8
    · have h7 := (Ha.out lv2).lost (ρ := 0) Gr'.out (by omega) (by rw [← hcn]; omega)
      have hE : upE N lv2 l (D : Int) c 0 x = 7 := by
        have := up_lost (N := N) (lv := lv2) (k := 0) (x := x) (Gr'.out.at (show 0 < 16 by omega)) (by omega) hx
        rw [e00] at this; exact this.trans h7
      rw [doS_no (by rw [hE]; decide), hE] at CDo
      have CDo := Lib.hid CDo
      have ig : l - 4 < (cn : Int) := by omega
      clear hcn k6 h7 hE e00 CNT hb5
      go_wp2_with fail
      (with_reducible refine CDo.out.mono ?_); rintro e w7 ⟨rfl, H7, k7⟩
      obtain ⟨g1, g2, g3⟩ := k7.gat (g := gb) (l := l) (d := (D : Int)) (c := c) (t := 24) (f := (0, 0)) (by simp)
      have CWr := bp_writes W0 w7 b H7 N k7.bp
      rw [hdn] at CWr
      have CWr := Lib.hid CWr
      have F7 := Lib.hid k7.bp.bel
      clear k7 CDo g4 g5 g6
      go_wp2_with fail
      (with_reducible refine CWr.out.mono ?_); rintro e w8 ⟨rfl, rfl⟩
      go_wp2_with fail
      (with_reducible refine (HWk.out _).mono ?_); rintro e w9 ⟨rfl, hb9⟩
      have F9 := F7.out.trans (hb9.mono F7.out.size)
      go_wp2_with fail
      exact HQ.out _ _ _ _ _ _ _ _ _ _ _ _ _ _ _ _ _ _ _ _ _ _ _ _ _ _ _ _ _ _ _ _ _ _ _ _ _ _ _ _ _ _ _ _ _ _ _ _ _ _ _ _ _ _ _ _ _ _ _ _ _ _ _ _ _ _ _ _ _ _ _ _ _ _ _ _ _ _ _ _ _ _ _ _ _ _ _ _ _ _ _ _ _ _ _ _ _ _ _ _ _ _ _ _ _ _ _ _ _ _ _ _ _ _ _ _ _ _ _ _ _ _ _ _ _ _ _ _ _ _ _ _ _ _ _ _ _ _ _ _ _ _ _ _ _ _ _ _ _ _ _ _ _ _ _ _ _ _ _ _ _ _ _ _ _ _ _ _ _ _ _ _ _ F9
  · have e6 : (l == 6) = false := by rw [beq_eq_false_iff_ne]; exact h6
    have K5 := Lib.hid K3.out
    have hll2 := hl2
    obtain ⟨lv2, hlv2⟩ : ∃ lv2, lv1 = lv2 := ⟨_, rfl⟩
    rw [hlv2] at K5 hll2
    clear h6 K3 hlv2 hl2
    go_upto_region 17 with fail
    clear g1 g2 g3
    have hb5 := hdx.out
    have CNT := Lib.hid (show cntB D (fun i => !srvD N lv2 i) = cntB D (fun i => !lv2.getD i false) from cntB_congr fun i hi => by
      cases e : lv2.getD i false with
      | true => rw [srvD_mk (by rw [Hup.out.n]; exact hi) e (Hup.out.f i hi)]
      | false => rw [srvD_no fun q => by rw [e] at q; exact absurd q.2.1 (by decide)])
    go_upto_block 2 with fail
    refine wp_block ?_
    refine ueB _ _ _ _ _ _ _ _ _ _ _ _ _ _ _ _ _ _ _ _ _ _ _ _ _ _ _ _ _ _ _ _ _ _ _ _ _ _ _ _ _ _ _ _ _ _ _ _ _ _ _ _ _ _ _ _ _ _ _ _ _ _ _ _ _ _ _ _ _ _ _ _ _ _ _ _ _ _ _ _ _ _ _ _ _ _ _ _ _ _ _ _ _ _ _ _ _ _ _ _ _ _ _ _ _ _ _ _ _ _ _ _ _ _ _ _ _ _ _ _ _ _ _ _ _ _ _ _ _ _ _ _ _ _ _ _ _ _ _ _ _ _ _ _ _ _ _ _ _ _ _ _ _ _ _ _ _ _ _ _ _ _ _ _ _ _ _ _ _ _ hll2 hd8 ⟨Nat.zero_le _, rfl, K5.out⟩ (fun v20 v130 v131 v132 v133 v134 v135 v136 v137 i cn V6 hI hi => ?_)
    obtain ⟨_, hcn, k6⟩ := hI
    rw [hi] at hcn
    clear hi
    rw [← CNT.out] at hcn
    have hcn8 : cn ≤ 8 := by rw [hcn]; have := cntB_le D (fun i => !srvD N lv2 i); omega
    obtain ⟨g4, g5, g6⟩ := k6.gat (g := gb) (l := l) (d := (D : Int)) (c := c) (t := 24) (f := (0, 0)) (by simp)
    have CDo := ks_do k6 hu ht lv2 (some ⟨gl, 0, none⟩) D D hll2.symm (k6.lv (g := gl) (t := 4) (f := (0, 0)) (lv := lv2) (by simp) rfl (by omega)) l (D : Int) c 0 L1 L2 L3 (by omega) (some ⟨gx, 0, none⟩) 32 32 x hx (Nat.le_refl _) (k6.sl (A := some ⟨gx, 0, none⟩) (bs := x) (by simp)) 1 (by omega) (fun e => (Ha.out lv2).fok Gr'.out hx e) (fun j hj => by rw [(Ha.out lv2).st.good.ps j hj]; exact Nat.zero_le _) (by rw [hdn]; omega)
    have e00 : plN l (D : Int) c ((0 : Nat) : Int) ((0 : Nat) : Int) = 0 := by unfold plN; simp
    by_cases hle : (cn : Int) ≤ l - 4
    · have hd0 := ((Ha.out lv2).do_ (ρ := 0) (k := 0) (s := 1) Gr'.out (by omega) (by omega) hx (by rw [← hcn]; exact hle) (by omega)).1
      rw [e00] at hd0
      rw [hd0] at CDo
      generalize (doS N lv2 l (D : Int) c 0 x 1).2 = M at CDo
      have CDo := Lib.hid CDo
      have eg : decide ((cn : Int) > l - 4) = false := decide_eq_false (by omega)
      have ig : ¬ l - 4 < (cn : Int) := by omega
      clear hcn k6 hd0 e00 CNT hb5
      go_wp2_with fail
      (with_reducible refine CDo.out.mono ?_); rintro e w7 ⟨rfl, H7, k7⟩
      obtain ⟨g1, g2, g3⟩ := k7.gat (g := gb) (l := l) (d := (D : Int)) (c := c) (t := 24) (f := (0, 0)) (by simp)
      have F7 := Lib.hid k7.bp.bel
      clear k7 CDo g4 g5 g6
      go_wp2_with fail
      (with_reducible refine (HWk.out _).mono ?_); rintro e w8 ⟨rfl, hb8⟩
      have F8 := F7.out.trans (hb8.mono F7.out.size)
      go_wp2_with fail
      exact HQ.out _ _ _ _ _ _ _ _ _ _ _ _ _ _ _ _ _ _ _ _ _ _ _ _ _ _ _ _ _ _ _ _ _ _ _ _ _ _ _ _ _ _ _ _ _ _ _ _ _ _ _ _ _ _ _ _ _ _ _ _ _ _ _ _ _ _ _ _ _ _ _ _ _ _ _ _ _ _ _ _ _ _ _ _ _ _ _ _ _ _ _ _ _ _ _ _ _ _ _ _ _ _ _ _ _ _ _ _ _ _ _ _ _ _ _ _ _ _ _ _ _ _ _ _ _ _ _ _ _ _ _ _ _ _ _ _ _ _ _ _ _ _ _ _ _ _ _ _ _ _ _ _ _ _ _ _ _ _ _ _ _ _ _ _ _ _ _ _ _ _ _ _ _ F8
    · have h7 := (Ha.out lv2).lost (ρ := 0) Gr'.out (by omega) (by rw [← hcn]; omega)
      have hE : upE N lv2 l (D : Int) c 0 x = 7 := by
        have := up_lost (N := N) (lv := lv2) (k := 0) (x := x) (Gr'.out.at (show 0 < 16 by omega)) (by omega) hx
        rw [e00] at this; exact this.trans h7
      rw [doS_no (by rw [hE]; decide), hE] at CDo
      have CDo := Lib.hid CDo
      have ig : l - 4 < (cn : Int) := by omega
      clear hcn k6 h7 hE e00 CNT hb5
      go_wp2_with fail
      (with_reducible refine CDo.out.mono ?_); rintro e w7 ⟨rfl, H7, k7⟩
      obtain ⟨g1, g2, g3⟩ := k7.gat (g := gb) (l := l) (d := (D : Int)) (c := c) (t := 24) (f := (0, 0)) (by simp)
      have CWr := bp_writes W0 w7 b H7 N k7.bp
      rw [hdn] at CWr
      have CWr := Lib.hid CWr
      have F7 := Lib.hid k7.bp.bel
      clear k7 CDo g4 g5 g6
      go_wp2_with fail
      (with_reducible refine CWr.out.mono ?_); rintro e w8 ⟨rfl, rfl⟩
      go_wp2_with fail
      (with_reducible refine (HWk.out _).mono ?_); rintro e w9 ⟨rfl, hb9⟩
      have F9 := F7.out.trans (hb9.mono F7.out.size)
      go_wp2_with fail
      exact HQ.out _ _ _ _ _ _ _ _ _ _ _ _ _ _ _ _ _ _ _ _ _ _ _ _ _ _ _ _ _ _ _ _ _ _ _ _ _ _ _ _ _ _ _ _ _ _ _ _ _ _ _ _ _ _ _ _ _ _ _ _ _ _ _ _ _ _ _ _ _ _ _ _ _ _ _ _ _ _ _ _ _ _ _ _ _ _ _ _ _ _ _ _ _ _ _ _ _ _ _ _ _ _ _ _ _ _ _ _ _ _ _ _ _ _ _ _ _ _ _ _ _ _ _ _ _ _ _ _ _ _ _ _ _ _ _ _ _ _ _ _ _ _ _ _ _ _ _ _ _ _ _ _ _ _ _ _ _ _ _ _ _ _ _ _ _ _ _ _ _ _ _ _ _ F9
end Go.Proofs.YtenkkdnepmoihaaGreatDoor
end
