/- Texts put together: UpdateDoesLaw. -/
import Derived.Test.YtenkkdnepmoihaaGreatDoorUdbp
import Derived.Test.YtenkkdnepmoihaaGreatDoorUdbm
section
set_option maxRecDepth 20000
set_option linter.unusedVariables false
set_option linter.unusedSimpArgs false
namespace Go.Proofs.YtenkkdnepmoihaaGreatDoor
open Go.RowKit

set_option maxRecDepth 100000 in
set_option maxHeartbeats 3200000 in
theorem udM  {w : World} (u0 u1 u2 u3 u4 u5 u6 u7 u8 u9 u10 u11 u12 u13 u14 u15 u16 u17 u18 u19 u20 u21 u22 u23 u24 u25 u26 u27 u28 u29 u30 u31 u32 u33 u34 u35 u36 u37 u38 u39 u40 u41 u42 u43 u44 u45 u46 u47 u48 u49 u50 u51 u52 u53 u54 u55 u56 u57 u58 u59 u60 u61 u62 u63 u64 u65 u66 u67 u68 u69 u70 u71 u72 u73 u74 u75 u76 u77 u78 u79 u80 u81 u82 u83 u84 u85 u86 u87 u88 u89 u90 u91 u92 u93 u94 u95 u96 u97 u98 u99 u100 u101 u102 u103 u104 u105 u106 u107 u108 u109 u110 u111 u112 u113 u114 u115 u116 u117 u118 u119 u120 u121 u122 u123 u124 u125 u126 u127 u128 u129 u130 u131 u132 u133 u134 u135 u136 u137 u138 u139 u140 u141 u142 u143 u144 u145 u146 u147 u148 u149 u150 u151 u152 u153 u154 u155 u156 u157 u158 u159 u160 u161 u162 u163 u164 u165 u166 u167 u168 u169 u170 u171 u172 u173 u174 u175 u176 u177 u178 u179 u180 u181 u182 u183 u184 u185 u186 u187 u188 : Value) (K : Act → World → Prop) (Q0 : Exit → Act → World → Prop) 
    (hK : ∀ (v53 : Value) (mb : Nat) (V : World), mb = w.heap.size → V = w.alloc (.map #[] 0) → K ⟨List.toArray (u0 :: u1 :: u2 :: u3 :: u4 :: u5 :: u6 :: u7 :: u8 :: u9 :: u10 :: u11 :: u12 :: (.map (some mb)) :: u14 :: u15 :: u16 :: u17 :: u18 :: u19 :: u20 :: u21 :: u22 :: u23 :: u24 :: u25 :: u26 :: u27 :: u28 :: u29 :: u30 :: u31 :: u32 :: u33 :: u34 :: u35 :: u36 :: u37 :: u38 :: u39 :: u40 :: u41 :: u42 :: u43 :: u44 :: u45 :: u46 :: u47 :: u48 :: u49 :: u50 :: u51 :: u52 :: v53 :: u54 :: u55 :: u56 :: u57 :: u58 :: u59 :: u60 :: u61 :: u62 :: u63 :: u64 :: u65 :: u66 :: u67 :: u68 :: u69 :: u70 :: u71 :: u72 :: u73 :: u74 :: u75 :: u76 :: u77 :: u78 :: u79 :: u80 :: u81 :: u82 :: u83 :: u84 :: u85 :: u86 :: u87 :: u88 :: u89 :: u90 :: u91 :: u92 :: u93 :: u94 :: u95 :: u96 :: u97 :: u98 :: u99 :: u100 :: u101 :: u102 :: u103 :: u104 :: u105 :: u106 :: u107 :: u108 :: u109 :: u110 :: u111 :: u112 :: u113 :: u114 :: u115 :: u116 :: u117 :: u118 :: u119 :: u120 :: u121 :: u122 :: u123 :: u124 :: u125 :: u126 :: u127 :: u128 :: u129 :: u130 :: u131 :: u132 :: u133 :: u134 :: u135 :: u136 :: u137 :: u138 :: u139 :: u140 :: u141 :: u142 :: u143 :: u144 :: u145 :: u146 :: u147 :: u148 :: u149 :: u150 :: u151 :: u152 :: u153 :: u154 :: u155 :: u156 :: u157 :: u158 :: u159 :: u160 :: u161 :: u162 :: u163 :: u164 :: u165 :: u166 :: u167 :: u168 :: u169 :: u170 :: u171 :: u172 :: u173 :: u174 :: u175 :: u176 :: u177 :: u178 :: u179 :: u180 :: u181 :: u182 :: u183 :: u184 :: u185 :: u186 :: u187 :: u188 :: []), []⟩ V) :
    Code.wp Tryz.prog (sub [1, 1, 1, 1, 1, 1, 0] codeUD) (Exit.then K Q0) ⟨List.toArray (u0 :: u1 :: u2 :: u3 :: u4 :: u5 :: u6 :: u7 :: u8 :: u9 :: u10 :: u11 :: u12 :: u13 :: u14 :: u15 :: u16 :: u17 :: u18 :: u19 :: u20 :: u21 :: u22 :: u23 :: u24 :: u25 :: u26 :: u27 :: u28 :: u29 :: u30 :: u31 :: u32 :: u33 :: u34 :: u35 :: u36 :: u37 :: u38 :: u39 :: u40 :: u41 :: u42 :: u43 :: u44 :: u45 :: u46 :: u47 :: u48 :: u49 :: u50 :: u51 :: u52 :: u53 :: u54 :: u55 :: u56 :: u57 :: u58 :: u59 :: u60 :: u61 :: u62 :: u63 :: u64 :: u65 :: u66 :: u67 :: u68 :: u69 :: u70 :: u71 :: u72 :: u73 :: u74 :: u75 :: u76 :: u77 :: u78 :: u79 :: u80 :: u81 :: u82 :: u83 :: u84 :: u85 :: u86 :: u87 :: u88 :: u89 :: u90 :: u91 :: u92 :: u93 :: u94 :: u95 :: u96 :: u97 :: u98 :: u99 :: u100 :: u101 :: u102 :: u103 :: u104 :: u105 :: u106 :: u107 :: u108 :: u109 :: u110 :: u111 :: u112 :: u113 :: u114 :: u115 :: u116 :: u117 :: u118 :: u119 :: u120 :: u121 :: u122 :: u123 :: u124 :: u125 :: u126 :: u127 :: u128 :: u129 :: u130 :: u131 :: u132 :: u133 :: u134 :: u135 :: u136 :: u137 :: u138 :: u139 :: u140 :: u141 :: u142 :: u143 :: u144 :: u145 :: u146 :: u147 :: u148 :: u149 :: u150 :: u151 :: u152 :: u153 :: u154 :: u155 :: u156 :: u157 :: u158 :: u159 :: u160 :: u161 :: u162 :: u163 :: u164 :: u165 :: u166 :: u167 :: u168 :: u169 :: u170 :: u171 :: u172 :: u173 :: u174 :: u175 :: u176 :: u177 :: u178 :: u179 :: u180 :: u181 :: u182 :: u183 :: u184 :: u185 :: u186 :: u187 :: u188 :: []), []⟩ w := by
  have HK := Lib.hid hK
  clear hK
  conv => arg 2; whnf
  have hmm := @run_makeMap Tryz.prog 31 w
  go_wp2_with fail
  exact HK.out _ _ _ rfl rfl
set_option maxRecDepth 100000 in
set_option maxHeartbeats 3200000 in
theorem udT {W0 : World} {n l c r : Int} {D F W b gb gl mb cm cz : Nat} {A B : Option Addr} {zs ats : List Int} {lv : List Bool} {H0 : BH} {N0 : Bch} {w : World} (u0 u3 u4 u5 u6 u7 u8 u12 u14 u15 u16 u17 u18 u19 u20 u21 u22 u23 u24 u25 u26 u27 u28 u29 u30 u31 u32 u33 u34 u35 u36 u37 u38 u39 u40 u41 u42 u43 u44 u45 u46 u47 u48 u49 u50 u51 u52 u53 u54 u55 u56 u57 u58 u59 u60 u61 u62 u63 u64 u65 u66 u67 u68 u69 u70 u71 u72 u73 u74 u75 u76 u77 u78 u79 u80 u81 u82 u83 u84 u85 u86 u87 u88 u89 u90 u91 u92 u93 u94 u95 u96 u97 u98 u99 u100 u101 u102 u103 u104 u105 u106 u107 u108 u109 u110 u111 u112 u113 u114 u115 u116 u117 u118 u119 u120 u121 u122 u123 u124 u125 u126 u127 u128 u129 u130 u131 u132 u133 u134 u135 u136 u137 u138 u139 u140 u141 u142 u143 u144 u145 u146 u147 u148 u149 u150 u151 u152 u153 u154 u155 u156 u157 u158 u159 u160 u161 u162 u163 u164 u165 u166 u167 u168 u169 u170 u171 u172 u173 u174 u175 u176 u177 u178 u179 u180 u181 u182 u183 u184 u185 u186 u187 u188 : Value) (Q : Exit → Act → World → Prop) (hu : UpdC) (hp : UpdP) (ht : TabOk W0) (gr : Gr n l c r D F W) (hcz : zs.length ≤ cz) (hz : RdZ W0 W0.heap.size A zs) (hcm : ats.length ≤ cm) (hzm : RdZ W0 W0.heap.size B ats) (hll : lv.length = D) (hcn : ∀ M : Bch, M.n = D → (∀ j, j < D → (M.D j).f = false) → cntB D (fun i => !srvD M lv i) ≤ 1) (hlx : ∃ j, j < D ∧ lv.getD j false = true) (hmb : ∀ q ∈ [(gl, Obj.cells (lv.map Value.bool).toArray 4 (0, 0)), (gb, Obj.cells #[.int .i64 l, .int .i64 (D : Int), .int .i64 c] 24 (0, 0))], q.1 ≠ mb) (f0 : Fld N0 D D (rowL l c D W zs) 16 0) (hk : KS W0 w b H0 N0 ((mb, Obj.map #[] 0) :: [(gl, Obj.cells (lv.map Value.bool).toArray 4 (0, 0)), (gb, Obj.cells #[.int .i64 l, .int .i64 (D : Int), .int .i64 c] 24 (0, 0))]) [] [])
    (hQ : ∀ (v0 v1 v2 v3 v4 v5 v6 v7 v9 v10 v11 v12 v13 v14 v15 v16 v17 v18 v19 v20 v21 v22 v23 v24 v25 v26 v27 v28 v29 v30 v31 v32 v33 v34 v35 v36 v37 v38 v39 v40 v41 v42 v43 v44 v45 v46 v47 v48 v49 v50 v51 v52 v53 v54 v55 v56 v57 v58 v59 v60 v61 v62 v63 v64 v65 v66 v67 v68 v69 v70 v71 v72 v73 v74 v75 v76 v77 v78 v79 v80 v81 v82 v83 v84 v85 v86 v87 v88 v89 v90 v91 v92 v93 v94 v95 v96 v97 v98 v99 v100 v101 v102 v103 v104 v105 v106 v107 v108 v109 v110 v111 v112 v113 v114 v115 v116 v117 v118 v119 v120 v121 v122 v123 v124 v125 v126 v127 v128 v129 v130 v131 v132 v133 v134 v135 v136 v137 v138 v139 v140 v141 v142 v143 v144 v145 v146 v147 v148 v149 v150 v151 v152 v153 v154 v155 v156 v157 v158 v159 v160 v161 v162 v163 v164 v165 v166 v167 v168 v169 v170 v171 v172 v173 v174 v175 v176 v177 v178 v179 v180 v181 v182 v183 v184 v185 v186 v187 v188 : Value) (V : World), Below W0.heap.size W0 V → Q .ret ⟨List.toArray (v0 :: v1 :: v2 :: v3 :: v4 :: v5 :: v6 :: v7 :: (.bool true) :: v9 :: v10 :: v11 :: v12 :: v13 :: v14 :: v15 :: v16 :: v17 :: v18 :: v19 :: v20 :: v21 :: v22 :: v23 :: v24 :: v25 :: v26 :: v27 :: v28 :: v29 :: v30 :: v31 :: v32 :: v33 :: v34 :: v35 :: v36 :: v37 :: v38 :: v39 :: v40 :: v41 :: v42 :: v43 :: v44 :: v45 :: v46 :: v47 :: v48 :: v49 :: v50 :: v51 :: v52 :: v53 :: v54 :: v55 :: v56 :: v57 :: v58 :: v59 :: v60 :: v61 :: v62 :: v63 :: v64 :: v65 :: v66 :: v67 :: v68 :: v69 :: v70 :: v71 :: v72 :: v73 :: v74 :: v75 :: v76 :: v77 :: v78 :: v79 :: v80 :: v81 :: v82 :: v83 :: v84 :: v85 :: v86 :: v87 :: v88 :: v89 :: v90 :: v91 :: v92 :: v93 :: v94 :: v95 :: v96 :: v97 :: v98 :: v99 :: v100 :: v101 :: v102 :: v103 :: v104 :: v105 :: v106 :: v107 :: v108 :: v109 :: v110 :: v111 :: v112 :: v113 :: v114 :: v115 :: v116 :: v117 :: v118 :: v119 :: v120 :: v121 :: v122 :: v123 :: v124 :: v125 :: v126 :: v127 :: v128 :: v129 :: v130 :: v131 :: v132 :: v133 :: v134 :: v135 :: v136 :: v137 :: v138 :: v139 :: v140 :: v141 :: v142 :: v143 :: v144 :: v145 :: v146 :: v147 :: v148 :: v149 :: v150 :: v151 :: v152 :: v153 :: v154 :: v155 :: v156 :: v157 :: v158 :: v159 :: v160 :: v161 :: v162 :: v163 :: v164 :: v165 :: v166 :: v167 :: v168 :: v169 :: v170 :: v171 :: v172 :: v173 :: v174 :: v175 :: v176 :: v177 :: v178 :: v179 :: v180 :: v181 :: v182 :: v183 :: v184 :: v185 :: v186 :: v187 :: v188 :: []), []⟩ V) :
    Code.wp Tryz.prog (sub [1, 1, 1, 1, 1, 1, 1] codeUD) Q ⟨List.toArray (u0 :: (.slice A zs.length cz) :: (.slice B ats.length cm) :: u3 :: u4 :: u5 :: u6 :: u7 :: u8 :: (.pointer (some ⟨gb, 0, none⟩)) :: (.pointer (some ⟨b, 0, none⟩)) :: (.slice (some ⟨gl, 0, none⟩) D D) :: u12 :: (.map (some mb)) :: u14 :: u15 :: u16 :: u17 :: u18 :: u19 :: u20 :: u21 :: u22 :: u23 :: u24 :: u25 :: u26 :: u27 :: u28 :: u29 :: u30 :: u31 :: u32 :: u33 :: u34 :: u35 :: u36 :: u37 :: u38 :: u39 :: u40 :: u41 :: u42 :: u43 :: u44 :: u45 :: u46 :: u47 :: u48 :: u49 :: u50 :: u51 :: u52 :: u53 :: u54 :: u55 :: u56 :: u57 :: u58 :: u59 :: u60 :: u61 :: u62 :: u63 :: u64 :: u65 :: u66 :: u67 :: u68 :: u69 :: u70 :: u71 :: u72 :: u73 :: u74 :: u75 :: u76 :: u77 :: u78 :: u79 :: u80 :: u81 :: u82 :: u83 :: u84 :: u85 :: u86 :: u87 :: u88 :: u89 :: u90 :: u91 :: u92 :: u93 :: u94 :: u95 :: u96 :: u97 :: u98 :: u99 :: u100 :: u101 :: u102 :: u103 :: u104 :: u105 :: u106 :: u107 :: u108 :: u109 :: u110 :: u111 :: u112 :: u113 :: u114 :: u115 :: u116 :: u117 :: u118 :: u119 :: u120 :: u121 :: u122 :: u123 :: u124 :: u125 :: u126 :: u127 :: u128 :: u129 :: u130 :: u131 :: u132 :: u133 :: u134 :: u135 :: u136 :: u137 :: u138 :: u139 :: u140 :: u141 :: u142 :: u143 :: u144 :: u145 :: u146 :: u147 :: u148 :: u149 :: u150 :: u151 :: u152 :: u153 :: u154 :: u155 :: u156 :: u157 :: u158 :: u159 :: u160 :: u161 :: u162 :: u163 :: u164 :: u165 :: u166 :: u167 :: u168 :: u169 :: u170 :: u171 :: u172 :: u173 :: u174 :: u175 :: u176 :: u177 :: u178 :: u179 :: u180 :: u181 :: u182 :: u183 :: u184 :: u185 :: u186 :: u187 :: u188 :: []), []⟩ w := by
  have HQ := Lib.hid hQ
  clear hQ
  have hd8 := gr.d8
  have HWk := Lib.hid (fun V => wakesUpd_any hp V)
  have Hf0 := Lib.hid f0
  have Hk := Lib.hid hk
  have Gr' := Lib.hid gr
  have Hz := Lib.hid hz
  have Hzm := Lib.hid hzm
  have Hcn := Lib.hid hcn
  have Hlx := Lib.hid hlx
  have Hmb := Lib.hid hmb
  have hlm := hzm.1
  have hlv := gr.lv
  clear f0 hk hz hzm hcn hlx hmb hp gr
  conv => arg 2; whnf
  go_upto_block 0 with fail
  refine wp_block ?_
  refine udB _ _ _ _ _ _ _ _ _ _ _ _ _ _ _ _ _ _ _ _ _ _ _ _ _ _ _ _ _ _ _ _ _ _ _ _ _ _ _ _ _ _ _ _ _ _ _ _ _ _ _ _ _ _ _ _ _ _ _ _ _ _ _ _ _ _ _ _ _ _ _ _ _ _ _ _ _ _ _ _ _ _ _ _ _ _ _ _ _ _ _ _ _ _ _ _ _ _ _ _ _ _ _ _ _ _ _ _ _ _ _ _ _ _ _ _ _ _ _ _ _ _ _ _ _ _ _ _ _ _ _ _ _ _ _ _ _ _ _ _ _ _ _ _ _ _ _ _ _ _ _ _ _ _ _ _ _ _ _ _ _ _ _ _ _ _ _ _ _ _ _ _ _ _ _ _ _ _ _ _ _ _ _ _ _ _ Gr'.out hcz Hz.out Hmb.out ⟨Nat.zero_le _, Nat.zero_le _, Hk.out, fun U hU => mapV_zero hU, Wnt.nil, Frm.nil _⟩ (fun v15 v16 v17 v54 v55 v56 v57 v58 v59 v60 v61 v62 v63 v64 v65 v66 v67 v68 v69 v70 v71 v72 v73 v74 v75 v76 v77 ρ o Mp m S V1 hI hx => ?_)
  obtain ⟨_, hm1, k1, hmap1, hw1, hfr1⟩ := hI
  have K1 := Lib.hid k1
  have Hmap1 := Lib.hid hmap1
  have Hw1 := Lib.hid hw1
  have Hfr1 := Lib.hid hfr1
  clear k1 hmap1 hw1 hfr1 Hk
  go_upto_block 4 with fail
  refine wp_block ?_
  refine udC _ _ _ _ _ _ _ _ _ _ _ _ _ _ _ _ _ _ _ _ _ _ _ _ _ _ _ _ _ _ _ _ _ _ _ _ _ _ _ _ _ _ _ _ _ _ _ _ _ _ _ _ _ _ _ _ _ _ _ _ _ _ _ _ _ _ _ _ _ _ _ _ _ _ _ _ _ _ _ _ _ _ _ _ _ _ _ _ _ _ _ _ _ _ _ _ _ _ _ _ _ _ _ _ _ _ _ _ _ _ _ _ _ _ _ _ _ _ _ _ _ _ _ _ _ _ _ _ _ _ _ _ _ _ _ _ _ _ _ _ _ _ _ _ _ _ _ _ _ _ _ _ _ _ _ _ _ _ _ _ _ _ _ _ _ _ _ _ _ _ _ _ _ _ _ _ _ _ _ _ _ _ _ _ hu ht Gr'.out hcm Hzm.out hll Hcn.out Hlx.out Hmb.out ⟨Nat.zero_le _, by omega, K1.out, Hmap1.out, Hw1.out, Hfr1.out, Hf0.out.arr lv, Hf0.out.gd.f, by rw [Hf0.out.gd.done]; omega⟩ (fun v8 v19 v20 v21 v22 v78 v79 v80 v81 v82 v83 v84 v85 v86 v87 v88 v89 v90 v91 v92 v93 v94 v95 v96 v97 v98 v99 v100 v101 v102 v103 v104 v105 v106 v107 v108 v109 v110 v111 v112 v113 v114 v115 v116 v117 v118 v119 v120 v121 v122 v123 v124 v125 v126 v127 v128 v129 v130 v131 v132 v133 v134 v135 v136 v137 v138 i H2 N2 ds2 o2 Mp2 m2 S2 V2 hI hx2 => ?_)
  obtain ⟨hi20, hm2, k2, hmap2, hw2, hfr2, ha2, hfl2, hdn2⟩ := hI
  obtain ⟨MD, hown, hMD⟩ := hmap2 V2 (k2.kx.kp _ (List.mem_cons_self ..)).1
  have hcnt1 := Hcn.out N2 ha2.st.n hfl2
  have Hcnt := Lib.hid (show ((cntB D (fun i => !srvD N2 lv i) : Nat) : Int) ≤ l - 4 by omega)
  have K2 := Lib.hid k2
  have Hw2 := Lib.hid hw2
  have Ha2 := Lib.hid ha2
  have Hfl2 := Lib.hid hfl2
  have HMD := Lib.hid hMD
  clear k2 hmap2 hw2 hfr2 ha2 hfl2 hMD hcnt1 K1 Hmap1 Hw1 Hfr1 Hf0 hx hx2
  go_upto_block 6 with (at_range; refine wpList_range_own _ rfl _ 31 rfl 3 35 keyI Tryz.underlying31 _ mb m2 MD rfl hown ?_; intro V3 hrg0 hg0 hs0)
  have hb3 := (Below.refl V2.heap.size V2).grown hg0 (Nat.le_refl _) (fun j hj => by cases hj)
  obtain ⟨n1, n2, n3, n4⟩ := K2.out.newer (p := V2.heap.size) (Nat.le_refl _)
  refine wp_block ?_
  refine udD _ _ _ _ _ _ _ _ _ _ _ _ _ _ _ _ _ _ _ _ _ _ _ _ _ _ _ _ _ _ _ _ _ _ _ _ _ _ _ _ _ _ _ _ _ _ _ _ _ _ _ _ _ _ _ _ _ _ _ _ _ _ _ _ _ _ _ _ _ _ _ _ _ _ _ _ _ _ _ _ _ _ _ _ _ _ _ _ _ _ _ _ _ _ _ _ _ _ _ _ _ _ _ _ _ _ _ _ _ _ _ _ _ _ _ _ _ _ _ _ _ _ _ _ _ _ _ _ _ _ _ _ _ _ _ _ _ _ _ _ _ _ _ _ _ _ _ _ _ _ _ _ _ _ _ _ _ _ _ _ _ _ _ _ _ _ _ _ _ _ _ _ _ _ _ _ _ _ _ _ _ _ _ _ _ _ Gr'.out hll Ha2.out Hcnt.out HMD.out Hw2.out n2 n1 n3 n4 ⟨hrg0, fun kl h => h, K2.out.below hb3⟩ (fun v8 v23 v24 v25 v26 v141 v142 v143 v144 v145 v146 v147 v148 v149 v150 v151 v152 v153 v154 v155 v156 v157 v158 v159 v160 v161 left cnt V4 hI hx => ?_)
  obtain ⟨_, _, k4⟩ := hI
  have K4 := Lib.hid (k4.less (K' := [(gl, Obj.cells (lv.map Value.bool).toArray 4 (0, 0)), (gb, Obj.cells #[.int .i64 l, .int .i64 (D : Int), .int .i64 c] 24 (0, 0))]) (R' := []) (S' := []) (fun p hp => List.mem_cons_of_mem _ hp) (fun _ h => h) (fun _ h => absurd h (by simp)))
  clear k4 hrg0 hg0 hs0 hb3 n1 n2 n3 n4 K2 Hw2 HMD hown Hcnt hx
  by_cases h0 : 0 < ats.length
  · have i0 : (0 : Int) < (ats.length : Int) := by omega
    obtain ⟨e0, hget⟩ := empty_get (lv := lv) (s := 99) Ha2.out.st.good Ha2.out.st.n hd8 Hfl2.out (by omega) Hlx.out
    have CE := ks_empty K4.out hu ht lv (some ⟨gl, 0, none⟩) D D hll.symm (K4.out.lv (g := gl) (t := 4) (f := (0, 0)) (lv := lv) (by simp) rfl (by omega)) 99 (by omega) (fun j hj => by rw [Ha2.out.st.good.ps j hj]; exact Nat.zero_le _) (by omega)
    rw [e0] at CE
    generalize (putS N2 lv 99 []).2 = M at CE hget
    have CE := Lib.hid CE
    have Hget := Lib.hid hget
    clear e0 hget h0 Ha2 Hfl2 Hcn Hlx
    go_wp2_with (first
      | (go_at_call 20
         (with_reducible refine CE.out.mono ?_)
         rintro e w5 ⟨rfl, H5, k5⟩
         have K5 := Lib.hid k5
         have CG := Lib.hid (ku_get K5.out.ku ht lv (some ⟨gl, 0, none⟩) D D hll.symm (K5.out.lv (g := gl) (t := 4) (f := (0, 0)) (lv := lv) (by simp) rfl (by omega)) 99 [] Hget.out)
         clear k5)
      | (go_at_call 17
         (with_reducible refine CG.out.mono ?_)
         rintro e w6 ⟨A6, c6, rfl, _, ku6, hb6⟩
         have K6 := Lib.hid (ku6.ks.below (below1 w6 (.cells #[.int .i64 99, .slice A6 0 c6] 43)))
         clear ku6 hb6)
      | (go_at_call 21
         (with_reducible refine (HWk.out _).mono ?_)
         rintro e w9 ⟨rfl, hb9⟩
         have F9 := Lib.hid (K6.out.bp.bel.trans (hb9.mono K6.out.bp.bel.size))
         clear hb9))
    exact HQ.out _ _ _ _ _ _ _ _ _ _ _ _ _ _ _ _ _ _ _ _ _ _ _ _ _ _ _ _ _ _ _ _ _ _ _ _ _ _ _ _ _ _ _ _ _ _ _ _ _ _ _ _ _ _ _ _ _ _ _ _ _ _ _ _ _ _ _ _ _ _ _ _ _ _ _ _ _ _ _ _ _ _ _ _ _ _ _ _ _ _ _ _ _ _ _ _ _ _ _ _ _ _ _ _ _ _ _ _ _ _ _ _ _ _ _ _ _ _ _ _ _ _ _ _ _ _ _ _ _ _ _ _ _ _ _ _ _ _ _ _ _ _ _ _ _ _ _ _ _ _ _ _ _ _ _ _ _ _ _ _ _ _ _ _ _ _ _ _ _ _ _ _ _ _ _ _ _ _ _ _ _ _ _ _ _ _ _ _ _ F9.out
  · have i0 : ¬ (0 : Int) < (ats.length : Int) := by omega
    clear h0 Ha2 Hfl2 Hcn Hlx
    go_wp2_with (first
      | (go_at_call 21
         (with_reducible refine (HWk.out _).mono ?_)
         rintro e w9 ⟨rfl, hb9⟩
         have F9 := Lib.hid (K4.out.bp.bel.trans (hb9.mono K4.out.bp.bel.size))
         clear hb9))
    exact HQ.out _ _ _ _ _ _ _ _ _ _ _ _ _ _ _ _ _ _ _ _ _ _ _ _ _ _ _ _ _ _ _ _ _ _ _ _ _ _ _ _ _ _ _ _ _ _ _ _ _ _ _ _ _ _ _ _ _ _ _ _ _ _ _ _ _ _ _ _ _ _ _ _ _ _ _ _ _ _ _ _ _ _ _ _ _ _ _ _ _ _ _ _ _ _ _ _ _ _ _ _ _ _ _ _ _ _ _ _ _ _ _ _ _ _ _ _ _ _ _ _ _ _ _ _ _ _ _ _ _ _ _ _ _ _ _ _ _ _ _ _ _ _ _ _ _ _ _ _ _ _ _ _ _ _ _ _ _ _ _ _ _ _ _ _ _ _ _ _ _ _ _ _ _ _ _ _ _ _ _ _ _ _ _ _ _ _ _ _ _ F9.out
set_option maxRecDepth 100000 in
set_option maxHeartbeats 3200000 in
theorem updatedoes (hu : UpdC) (hp : UpdP) (n : Int) (A : Option Addr) (zl : List Int) (cl : Nat) (B : Option Addr) (ats : List Int) (cm : Nat) (al : Int) (w : World) (hn : (-9223372036854775808 ≤ n ∧ n ≤ 9223372036854775807)) (hcl : zl.length ≤ cl) (hzl : RdZ w w.heap.size A zl) (hcm : ats.length ≤ cm) (hzm : RdZ w w.heap.size B ats) (hal : (-9223372036854775808 ≤ al ∧ al ≤ 9223372036854775807)) (ht : TabOk w) :
    Calls Tryz.prog 3 #[.int .i64 n, .slice A zl.length cl, .slice B ats.length cm, .int .i64 al] w fun e w' => e = .returned (.bool true) ∧ Below w.heap.size w w' := by
  have hpn := ptr_eq
  have HP := Lib.hid (fun V => playGood_any n V hn)
  obtain ⟨D, F, W, hD, gr⟩ := gr_of n (r := 0) (by omega) (by omega)
  rw [hD] at HP
  have hd8 := gr.d8; have hd3 := gr.d3; have hw7 := gr.w7
  generalize goL n = l at *
  generalize goC n = c at *
  have CFl := Lib.hid (fun (w1 : World) (hb1 : Below w.heap.size w w1) => filled_open gr D (Nat.le_refl _) hd8 zl.length cl hb1 rfl hcl hzl)
  have Gr' := Lib.hid gr
  have Hzm := Lib.hid hzm
  have Hzl := Lib.hid hzl
  have hl0 := liveL_len 0 D
  have hlv0 := fun i (hi : i < D) => live0 hi
  have CW := fun V => within_any al (2 * (D : Int)) V hal (by omega)
  have hab := withinI_bd al (2 * (D : Int)) (by omega)
  obtain ⟨d1, hd1⟩ := Int.eq_ofNat_of_zero_le hab.1
  rw [hd1] at CW hab
  replace CW := Lib.hid CW
  clear hD hn hzl hzm gr hal hd1
  go_enter Tryz.func3, Tryz.ntmps3
  go_wp2_with fail
  (with_reducible refine (HP.out _).mono ?_); rintro e w1 ⟨rfl, hb1⟩
  have G := gat_new w1 l D c 24 (0, 0)
  obtain ⟨g1, g2, g3⟩ := G
  have CFl1 := Lib.hid (CFl.out w1 hb1)
  clear hb1 CFl
  go_wp2_with fail
  (with_reducible refine CFl1.out.mono ?_); rintro e w2 ⟨b, H0, N0, rfl, k0, f0⟩
  have CLv := Lib.hid (ks_live k0 0 D (by omega) (by omega))
  have hgbs := (Array.getElem?_eq_some_iff.1 (k0.kx.kp _ (List.mem_cons_self ..)).1).1
  obtain ⟨g4, g5, g6⟩ := k0.gat (g := w1.heap.size) (l := l) (d := (D : Int)) (c := c) (t := 24) (f := (0, 0)) (by simp)
  have Hf0 := Lib.hid f0
  clear k0 f0 CFl1 g1 g2 g3
  generalize w1.heap.size = gb at *
  go_wp2_with fail
  (with_reducible refine CLv.out.mono ?_); rintro e w3 ⟨gl, rfl, k1⟩
  have K1 := Lib.hid k1
  have hgne : gl ≠ gb := fun e => by
    have h3 := (k1.kx.kp (gl, Obj.cells ((liveL 0 D).map Value.bool).toArray 4 (0, 0)) (by simp)).1
    have h4 := (k1.kx.kp (gb, Obj.cells #[.int .i64 l, .int .i64 (D : Int), .int .i64 c] 24 (0, 0)) (by simp)).1
    rw [show (gl, Obj.cells ((liveL 0 D).map Value.bool).toArray 4 (0, 0)).1 = gb from e, h4] at h3
    injection h3 with h3
    injection h3 with h3 _ _
    have h5 := congrArg (fun t : Array Value => t[0]?) h3
    simp [show 0 < (liveL 0 D).length by omega] at h5
  obtain ⟨g7, g8, g9⟩ := k1.gat (g := gb) (l := l) (d := (D : Int)) (c := c) (t := 24) (f := (0, 0)) (by simp)
  clear k1 CLv g4 g5 g6
  go_wp2_with fail
  (with_reducible refine (CW.out _).mono ?_); rintro e w4 ⟨rfl, h4⟩
  obtain rfl : w3 = w4 := h4.symm
  have i0 : (0 : Int) ≤ (d1 : Int) := by omega
  by_cases hdD : d1 < D
  · have i1 : (d1 : Int) < (D : Int) := by omega
    have hblk := (K1.out.kx.kp (gl, Obj.cells ((liveL 0 D).map Value.bool).toArray 4 (0, 0)) (by simp)).1
    dsimp only at hblk
    have hll : ((liveL 0 D).set d1 false).length = D := by rw [List.length_set]; exact hl0
    have hlt2 : ∀ i, i < D → i ≠ d1 → ((liveL 0 D).set d1 false).getD i false = true := fun i hi hne => by
      rw [List.getD_eq_getElem?_getD, List.getElem?_set_ne (by omega), ← List.getD_eq_getElem?_getD]
      exact live0 hi
    obtain ⟨hc0, hfz0, hb2, gg2⟩ := lv_setCell hblk (d := d1) (by rw [hl0]; exact hdD) false
    have K2 := Lib.hid (K1.out.put gg2 hb2 (by simpa using Ne.symm hgne))
    have Hlx := Lib.hid (show ∃ j, j < D ∧ ((liveL 0 D).set d1 false).getD j false = true from by
      by_cases h : d1 = 0
      · exact ⟨1, by omega, hlt2 1 (by omega) (by omega)⟩
      · exact ⟨0, by omega, hlt2 0 (by omega) (by omega)⟩)
    have Hcn := Lib.hid (fun (M : Bch) (hM : M.n = D) (hf : ∀ j, j < D → (M.D j).f = false) => cnt_one (N := M) (lv := (liveL 0 D).set d1 false) (D := D) (d := d1) (by rw [hM]; exact Nat.le_refl _) hf hlt2)
    generalize (liveL 0 D).set d1 false = lv at hll K2 Hlx Hcn
    clear hblk hb2 gg2 K1 hlt2 hlv0 h4
    go_upto_region 9 with fail
    generalize w3.setCell ⟨gl, d1, none⟩ (.bool false) = w5 at K2 ⊢
    clear hc0 hfz0 g7 g8 g9
    refine udM _ _ _ _ _ _ _ _ _ _ _ _ _ _ _ _ _ _ _ _ _ _ _ _ _ _ _ _ _ _ _ _ _ _ _ _ _ _ _ _ _ _ _ _ _ _ _ _ _ _ _ _ _ _ _ _ _ _ _ _ _ _ _ _ _ _ _ _ _ _ _ _ _ _ _ _ _ _ _ _ _ _ _ _ _ _ _ _ _ _ _ _ _ _ _ _ _ _ _ _ _ _ _ _ _ _ _ _ _ _ _ _ _ _ _ _ _ _ _ _ _ _ _ _ _ _ _ _ _ _ _ _ _ _ _ _ _ _ _ _ _ _ _ _ _ _ _ _ _ _ _ _ _ _ _ _ _ _ _ _ _ _ _ _ _ _ _ _ _ _ _ _ _ _ _ _ _ _ _ _ _ _ _ _ _ _ _ _ _ _ _ (fun v53 mb V5 hmb hV5 => ?_)
    refine ‹∀ (a : Act) (w : World), Code.wp Tryz.prog _ _ a w → _› _ _ ?_
    subst hV5
    subst hmb
    have k5 := K2.out.add (.map #[] 0)
    refine udT _ _ _ _ _ _ _ _ _ _ _ _ _ _ _ _ _ _ _ _ _ _ _ _ _ _ _ _ _ _ _ _ _ _ _ _ _ _ _ _ _ _ _ _ _ _ _ _ _ _ _ _ _ _ _ _ _ _ _ _ _ _ _ _ _ _ _ _ _ _ _ _ _ _ _ _ _ _ _ _ _ _ _ _ _ _ _ _ _ _ _ _ _ _ _ _ _ _ _ _ _ _ _ _ _ _ _ _ _ _ _ _ _ _ _ _ _ _ _ _ _ _ _ _ _ _ _ _ _ _ _ _ _ _ _ _ _ _ _ _ _ _ _ _ _ _ _ _ _ _ _ _ _ _ _ _ _ _ _ _ _ _ _ _ _ _ _ _ _ _ _ _ _ _ _ _ _ _ _ _ _ _ _ _ hu hp ht Gr'.out hcl Hzl.out hcm Hzm.out hll Hcn.out Hlx.out (fun q hq e => by have := (Array.getElem?_eq_some_iff.1 (K2.out.kx.kp q hq).1).1; omega) Hf0.out k5 (fun v0 v1 v2 v3 v4 v5 v6 v7 v9 v10 v11 v12 v13 v14 v15 v16 v17 v18 v19 v20 v21 v22 v23 v24 v25 v26 v27 v28 v29 v30 v31 v32 v33 v34 v35 v36 v37 v38 v39 v40 v41 v42 v43 v44 v45 v46 v47 v48 v49 v50 v51 v52 v53 v54 v55 v56 v57 v58 v59 v60 v61 v62 v63 v64 v65 v66 v67 v68 v69 v70 v71 v72 v73 v74 v75 v76 v77 v78 v79 v80 v81 v82 v83 v84 v85 v86 v87 v88 v89 v90 v91 v92 v93 v94 v95 v96 v97 v98 v99 v100 v101 v102 v103 v104 v105 v106 v107 v108 v109 v110 v111 v112 v113 v114 v115 v116 v117 v118 v119 v120 v121 v122 v123 v124 v125 v126 v127 v128 v129 v130 v131 v132 v133 v134 v135 v136 v137 v138 v139 v140 v141 v142 v143 v144 v145 v146 v147 v148 v149 v150 v151 v152 v153 v154 v155 v156 v157 v158 v159 v160 v161 v162 v163 v164 v165 v166 v167 v168 v169 v170 v171 v172 v173 v174 v175 v176 v177 v178 v179 v180 v181 v182 v183 v184 v185 v186 v187 v188 V hb => ?_)
    go_ret
    exact ⟨rfl, hb⟩
  · have i1 : ¬ (d1 : Int) < (D : Int) := by omega
    have Hlx := Lib.hid (show ∃ j, j < D ∧ (liveL 0 D).getD j false = true from ⟨0, by omega, live0 (by omega)⟩)
    have Hcn := Lib.hid (fun (M : Bch) (hM : M.n = D) (hf : ∀ j, j < D → (M.D j).f = false) => cnt_one (N := M) (lv := liveL 0 D) (D := D) (d := D) (by rw [hM]; exact Nat.le_refl _) hf (fun i hi _ => live0 hi))
    have K2 := Lib.hid K1.out
    have hll := hl0
    generalize liveL 0 D = lv at hll K2 Hlx Hcn
    clear K1 hlv0 h4 hl0
    go_upto_region 9 with fail
    clear g7 g8 g9
    refine udM _ _ _ _ _ _ _ _ _ _ _ _ _ _ _ _ _ _ _ _ _ _ _ _ _ _ _ _ _ _ _ _ _ _ _ _ _ _ _ _ _ _ _ _ _ _ _ _ _ _ _ _ _ _ _ _ _ _ _ _ _ _ _ _ _ _ _ _ _ _ _ _ _ _ _ _ _ _ _ _ _ _ _ _ _ _ _ _ _ _ _ _ _ _ _ _ _ _ _ _ _ _ _ _ _ _ _ _ _ _ _ _ _ _ _ _ _ _ _ _ _ _ _ _ _ _ _ _ _ _ _ _ _ _ _ _ _ _ _ _ _ _ _ _ _ _ _ _ _ _ _ _ _ _ _ _ _ _ _ _ _ _ _ _ _ _ _ _ _ _ _ _ _ _ _ _ _ _ _ _ _ _ _ _ _ _ _ _ _ _ _ (fun v53 mb V5 hmb hV5 => ?_)
    refine ‹∀ (a : Act) (w : World), Code.wp Tryz.prog _ _ a w → _› _ _ ?_
    subst hV5
    subst hmb
    have k5 := K2.out.add (.map #[] 0)
    refine udT _ _ _ _ _ _ _ _ _ _ _ _ _ _ _ _ _ _ _ _ _ _ _ _ _ _ _ _ _ _ _ _ _ _ _ _ _ _ _ _ _ _ _ _ _ _ _ _ _ _ _ _ _ _ _ _ _ _ _ _ _ _ _ _ _ _ _ _ _ _ _ _ _ _ _ _ _ _ _ _ _ _ _ _ _ _ _ _ _ _ _ _ _ _ _ _ _ _ _ _ _ _ _ _ _ _ _ _ _ _ _ _ _ _ _ _ _ _ _ _ _ _ _ _ _ _ _ _ _ _ _ _ _ _ _ _ _ _ _ _ _ _ _ _ _ _ _ _ _ _ _ _ _ _ _ _ _ _ _ _ _ _ _ _ _ _ _ _ _ _ _ _ _ _ _ _ _ _ _ _ _ _ _ _ hu hp ht Gr'.out hcl Hzl.out hcm Hzm.out hll Hcn.out Hlx.out (fun q hq e => by have := (Array.getElem?_eq_some_iff.1 (K2.out.kx.kp q hq).1).1; omega) Hf0.out k5 (fun v0 v1 v2 v3 v4 v5 v6 v7 v9 v10 v11 v12 v13 v14 v15 v16 v17 v18 v19 v20 v21 v22 v23 v24 v25 v26 v27 v28 v29 v30 v31 v32 v33 v34 v35 v36 v37 v38 v39 v40 v41 v42 v43 v44 v45 v46 v47 v48 v49 v50 v51 v52 v53 v54 v55 v56 v57 v58 v59 v60 v61 v62 v63 v64 v65 v66 v67 v68 v69 v70 v71 v72 v73 v74 v75 v76 v77 v78 v79 v80 v81 v82 v83 v84 v85 v86 v87 v88 v89 v90 v91 v92 v93 v94 v95 v96 v97 v98 v99 v100 v101 v102 v103 v104 v105 v106 v107 v108 v109 v110 v111 v112 v113 v114 v115 v116 v117 v118 v119 v120 v121 v122 v123 v124 v125 v126 v127 v128 v129 v130 v131 v132 v133 v134 v135 v136 v137 v138 v139 v140 v141 v142 v143 v144 v145 v146 v147 v148 v149 v150 v151 v152 v153 v154 v155 v156 v157 v158 v159 v160 v161 v162 v163 v164 v165 v166 v167 v168 v169 v170 v171 v172 v173 v174 v175 v176 v177 v178 v179 v180 v181 v182 v183 v184 v185 v186 v187 v188 V hb => ?_)
    go_ret
    exact ⟨rfl, hb⟩
end Go.Proofs.YtenkkdnepmoihaaGreatDoor
end
