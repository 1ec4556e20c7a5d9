/- Texts put together: UpdatePlansT, UpdatePlansLaw. -/
import Derived.Test.YtenkkdnepmoihaaUpbl
import Derived.Test.YtenkkdnepmoihaaUpbg
import Derived.Test.YtenkkdnepmoihaaUpbj
import Derived.Test.YtenkkdnepmoihaaUpai
import Derived.Test.YtenkkdnepmoihaaUpbh
section
set_option maxRecDepth 20000
set_option linter.unusedVariables false
set_option linter.unusedSimpArgs false
namespace Go.Proofs.Ytenkkdnepmoihaa
open Go.RowKit

set_option maxRecDepth 100000 in
set_option maxHeartbeats 3200000 in
theorem upT {W0 : World} {nn l c pn seq e0 sq : Int} {D F W ρ kk b gb gl p8 go ci cs : Nat} {As Ai : Option Addr} {lv : List Bool} {its : List It} {zs : List Int} {x : List UInt8} {H : BH} {N : Bch} {w : World} (u0 u1 u2 u4 u6 u7 u8 u9 u10 u11 u12 u21 u24 u25 u26 u27 u28 u29 u30 u31 u32 u33 u34 u35 u36 u37 u38 u39 u40 u41 u42 u43 u44 u45 u46 u47 u48 u49 u50 u51 u52 u53 u54 u55 u56 u57 u58 u59 u60 u61 u62 u63 u64 u65 u66 u67 u68 u69 u70 u71 u72 u73 u74 u75 u76 u77 u78 u79 u80 u81 u82 u83 u84 u85 u86 u87 u88 u89 u90 u91 u92 u93 u94 u95 u96 u97 u98 u99 u100 u101 u102 u103 u104 u105 u106 u107 u108 u109 u110 u111 u112 u113 u114 u115 u116 u117 u118 u119 u120 u121 u122 u123 u124 u125 u126 u127 u128 u129 u130 u131 u132 u133 u134 u135 u136 u137 u138 u139 u140 u141 u142 u143 u144 u145 u146 u147 u148 u149 u150 u151 u152 u153 u154 u155 u156 u157 u158 u159 u160 u161 u162 u163 u164 u165 u166 u167 u168 u169 u170 u171 u172 u173 u174 u175 u176 u177 u178 u179 u180 u181 u182 u183 u184 u185 u186 u187 u188 u189 u190 u191 u192 u193 u194 u195 u196 u197 u198 u199 u200 u201 u202 u203 u204 u205 u206 u207 u208 u209 u210 u211 u212 u213 u214 u215 u216 u217 u218 u219 u220 u221 u222 u223 u224 u225 u226 u227 u228 u229 u230 u231 u232 u233 u234 u235 u236 u237 u238 u239 u240 u241 u242 u243 u244 u245 u246 u247 u248 u249 u250 u251 u252 u253 u254 u255 u256 u257 u258 u259 u260 u261 u262 u263 u264 u265 u266 u267 u268 u269 u270 u271 u272 u273 u274 u275 u276 u277 u278 : Value) (Q : Exit → Act → World → Prop) (hp : UpdP) (gr : Gr nn l c (ρ : Int) D F W) (hkk : kk < W) (hpl : plN l (D : Int) c (ρ : Int) (kk : Int) = pn) (hll : lv.length = D) (hx32 : x.length = 32) (G : GAt w gb l (D : Int) c) (hgb : gb < w.heap.size) (hgl : gl < w.heap.size) (hlc : ∀ j, j < D → w.cell? ⟨gl, j, none⟩ = some (.bool (lv.getD j false))) (hp8 : p8 < w.heap.size) (hz0 : w.cell? ⟨p8, 0, none⟩ = some (.int .i64 sq)) (hz1 : w.cell? ⟨p8, 1, none⟩ = some (.slice Ai its.length ci)) (hit : 0 < its.length → ∃ gi, Ai = some ⟨gi, 0, none⟩ ∧ gi < w.heap.size ∧ ∀ k, k < its.length → ∃ D c, w.rangeAt gi (k * 3) [.int .i64 (itN its k).d, .int .i64 (itN its k).a, .slice D (itN its k).b.length c] ∧ RdB w w.heap.size D (itN its k).b) (hnl : its.length ≤ 8) (hx : RdB w w.heap.size As x) (hold : RdR w w.heap.size (some ⟨go, 0, none⟩) (fillL D F (datL zs ρ W))) (hk : KS W0 w b H N [] [] []) (hpd : N.pend = 0) (hps : ∀ i, i < N.n → (N.D i).ps.length ≤ 2000000) (hsv : ∀ j, j < D → srvD N lv j = lv.getD j false)
 (hyes : ((cntB D (fun i => !lv.getD i false) : Nat) : Int) ≤ l - 4 → e0 = 0 ∧ sq = seq ∧ its = upIts N lv (36 + ρ) (fillL D F ((datL zs ρ W).set kk x)) (ksL l D F W kk)) (hno : ¬ ((cntB D (fun i => !lv.getD i false) : Nat) : Int) ≤ l - 4 → e0 = 7 ∧ sq = 0 ∧ its = [])
    (hQ : ∀ (v0 v1 v2 v3 v4 v5 v6 v7 v8 v9 v10 v11 v13 v14 v15 v16 v17 v18 v19 v20 v21 v22 v23 v24 v25 v26 v27 v28 v29 v30 v31 v32 v33 v34 v35 v36 v37 v38 v39 v40 v41 v42 v43 v44 v45 v46 v47 v48 v49 v50 v51 v52 v53 v54 v55 v56 v57 v58 v59 v60 v61 v62 v63 v64 v65 v66 v67 v68 v69 v70 v71 v72 v73 v74 v75 v76 v77 v78 v79 v80 v81 v82 v83 v84 v85 v86 v87 v88 v89 v90 v91 v92 v93 v94 v95 v96 v97 v98 v99 v100 v101 v102 v103 v104 v105 v106 v107 v108 v109 v110 v111 v112 v113 v114 v115 v116 v117 v118 v119 v120 v121 v122 v123 v124 v125 v126 v127 v128 v129 v130 v131 v132 v133 v134 v135 v136 v137 v138 v139 v140 v141 v142 v143 v144 v145 v146 v147 v148 v149 v150 v151 v152 v153 v154 v155 v156 v157 v158 v159 v160 v161 v162 v163 v164 v165 v166 v167 v168 v169 v170 v171 v172 v173 v174 v175 v176 v177 v178 v179 v180 v181 v182 v183 v184 v185 v186 v187 v188 v189 v190 v191 v192 v193 v194 v195 v196 v197 v198 v199 v200 v201 v202 v203 v204 v205 v206 v207 v208 v209 v210 v211 v212 v213 v214 v215 v216 v217 v218 v219 v220 v221 v222 v223 v224 v225 v226 v227 v228 v229 v230 v231 v232 v233 v234 v235 v236 v237 v238 v239 v240 v241 v242 v243 v244 v245 v246 v247 v248 v249 v250 v251 v252 v253 v254 v255 v256 v257 v258 v259 v260 v261 v262 v263 v264 v265 v266 v267 v268 v269 v270 v271 v272 v273 v274 v275 v276 v277 v278 : Value) (V : World), Below W0.heap.size W0 V → Q .ret ⟨List.toArray (v0 :: v1 :: v2 :: v3 :: v4 :: v5 :: v6 :: v7 :: v8 :: v9 :: v10 :: v11 :: (.bool true) :: v13 :: v14 :: v15 :: v16 :: v17 :: v18 :: v19 :: v20 :: v21 :: v22 :: v23 :: v24 :: v25 :: v26 :: v27 :: v28 :: v29 :: v30 :: v31 :: v32 :: v33 :: v34 :: v35 :: v36 :: v37 :: v38 :: v39 :: v40 :: v41 :: v42 :: v43 :: v44 :: v45 :: v46 :: v47 :: v48 :: v49 :: v50 :: v51 :: v52 :: v53 :: v54 :: v55 :: v56 :: v57 :: v58 :: v59 :: v60 :: v61 :: v62 :: v63 :: v64 :: v65 :: v66 :: v67 :: v68 :: v69 :: v70 :: v71 :: v72 :: v73 :: v74 :: v75 :: v76 :: v77 :: v78 :: v79 :: v80 :: v81 :: v82 :: v83 :: v84 :: v85 :: v86 :: v87 :: v88 :: v89 :: v90 :: v91 :: v92 :: v93 :: v94 :: v95 :: v96 :: v97 :: v98 :: v99 :: v100 :: v101 :: v102 :: v103 :: v104 :: v105 :: v106 :: v107 :: v108 :: v109 :: v110 :: v111 :: v112 :: v113 :: v114 :: v115 :: v116 :: v117 :: v118 :: v119 :: v120 :: v121 :: v122 :: v123 :: v124 :: v125 :: v126 :: v127 :: v128 :: v129 :: v130 :: v131 :: v132 :: v133 :: v134 :: v135 :: v136 :: v137 :: v138 :: v139 :: v140 :: v141 :: v142 :: v143 :: v144 :: v145 :: v146 :: v147 :: v148 :: v149 :: v150 :: v151 :: v152 :: v153 :: v154 :: v155 :: v156 :: v157 :: v158 :: v159 :: v160 :: v161 :: v162 :: v163 :: v164 :: v165 :: v166 :: v167 :: v168 :: v169 :: v170 :: v171 :: v172 :: v173 :: v174 :: v175 :: v176 :: v177 :: v178 :: v179 :: v180 :: v181 :: v182 :: v183 :: v184 :: v185 :: v186 :: v187 :: v188 :: v189 :: v190 :: v191 :: v192 :: v193 :: v194 :: v195 :: v196 :: v197 :: v198 :: v199 :: v200 :: v201 :: v202 :: v203 :: v204 :: v205 :: v206 :: v207 :: v208 :: v209 :: v210 :: v211 :: v212 :: v213 :: v214 :: v215 :: v216 :: v217 :: v218 :: v219 :: v220 :: v221 :: v222 :: v223 :: v224 :: v225 :: v226 :: v227 :: v228 :: v229 :: v230 :: v231 :: v232 :: v233 :: v234 :: v235 :: v236 :: v237 :: v238 :: v239 :: v240 :: v241 :: v242 :: v243 :: v244 :: v245 :: v246 :: v247 :: v248 :: v249 :: v250 :: v251 :: v252 :: v253 :: v254 :: v255 :: v256 :: v257 :: v258 :: v259 :: v260 :: v261 :: v262 :: v263 :: v264 :: v265 :: v266 :: v267 :: v268 :: v269 :: v270 :: v271 :: v272 :: v273 :: v274 :: v275 :: v276 :: v277 :: v278 :: []), []⟩ V) :
    Code.wp Try.prog (sub [1, 1, 1, 1, 1, 1, 1, 1, 1, 1, 1, 1, 1] codeUP) Q ⟨List.toArray (u0 :: u1 :: u2 :: (.int .i64 pn) :: u4 :: (.int .i64 seq) :: u6 :: u7 :: u8 :: u9 :: u10 :: u11 :: u12 :: (.pointer (some ⟨gb, 0, none⟩)) :: (.pointer (some ⟨b, 0, none⟩)) :: (.slice (some ⟨gl, 0, none⟩) D D) :: (.slice As 32 cs) :: (.pointer (some ⟨p8, 0, none⟩)) :: (.int .i64 e0) :: (.int .i64 ((roS D F kk : Nat) : Int)) :: (.int .i64 (ρ : Int)) :: u21 :: (.slice none 0 0) :: (.slice (some ⟨go, 0, none⟩) D D) :: u24 :: u25 :: u26 :: u27 :: u28 :: u29 :: u30 :: u31 :: u32 :: u33 :: u34 :: u35 :: u36 :: u37 :: u38 :: u39 :: u40 :: u41 :: u42 :: u43 :: u44 :: u45 :: u46 :: u47 :: u48 :: u49 :: u50 :: u51 :: u52 :: u53 :: u54 :: u55 :: u56 :: u57 :: u58 :: u59 :: u60 :: u61 :: u62 :: u63 :: u64 :: u65 :: u66 :: u67 :: u68 :: u69 :: u70 :: u71 :: u72 :: u73 :: u74 :: u75 :: u76 :: u77 :: u78 :: u79 :: u80 :: u81 :: u82 :: u83 :: u84 :: u85 :: u86 :: u87 :: u88 :: u89 :: u90 :: u91 :: u92 :: u93 :: u94 :: u95 :: u96 :: u97 :: u98 :: u99 :: u100 :: u101 :: u102 :: u103 :: u104 :: u105 :: u106 :: u107 :: u108 :: u109 :: u110 :: u111 :: u112 :: u113 :: u114 :: u115 :: u116 :: u117 :: u118 :: u119 :: u120 :: u121 :: u122 :: u123 :: u124 :: u125 :: u126 :: u127 :: u128 :: u129 :: u130 :: u131 :: u132 :: u133 :: u134 :: u135 :: u136 :: u137 :: u138 :: u139 :: u140 :: u141 :: u142 :: u143 :: u144 :: u145 :: u146 :: u147 :: u148 :: u149 :: u150 :: u151 :: u152 :: u153 :: u154 :: u155 :: u156 :: u157 :: u158 :: u159 :: u160 :: u161 :: u162 :: u163 :: u164 :: u165 :: u166 :: u167 :: u168 :: u169 :: u170 :: u171 :: u172 :: u173 :: u174 :: u175 :: u176 :: u177 :: u178 :: u179 :: u180 :: u181 :: u182 :: u183 :: u184 :: u185 :: u186 :: u187 :: u188 :: u189 :: u190 :: u191 :: u192 :: u193 :: u194 :: u195 :: u196 :: u197 :: u198 :: u199 :: u200 :: u201 :: u202 :: u203 :: u204 :: u205 :: u206 :: u207 :: u208 :: u209 :: u210 :: u211 :: u212 :: u213 :: u214 :: u215 :: u216 :: u217 :: u218 :: u219 :: u220 :: u221 :: u222 :: u223 :: u224 :: u225 :: u226 :: u227 :: u228 :: u229 :: u230 :: u231 :: u232 :: u233 :: u234 :: u235 :: u236 :: u237 :: u238 :: u239 :: u240 :: u241 :: u242 :: u243 :: u244 :: u245 :: u246 :: u247 :: u248 :: u249 :: u250 :: u251 :: u252 :: u253 :: u254 :: u255 :: u256 :: u257 :: u258 :: u259 :: u260 :: u261 :: u262 :: u263 :: u264 :: u265 :: u266 :: u267 :: u268 :: u269 :: u270 :: u271 :: u272 :: u273 :: u274 :: u275 :: u276 :: u277 :: u278 :: []), []⟩ w := by
  have HQ := Lib.hid hQ
  clear hQ
  have HWk := Lib.hid (fun V => wakesUpd_any hp V)
  have hd8 := gr.d8
  have hw7 := gr.w7
  have hw1 := gr.w1
  have hrs := datL_len zs ρ W
  have h32 : ∀ x ∈ datL zs ρ W, x.length = 32 := datL_mem
  have hol : (fillL D F (datL zs ρ W)).length = D := fillL_len _ _ _
  have ho32 : ∀ i, i < D → ((fillL D F (datL zs ρ W)).getD i []).length = 32 := fun i hi => gr.fills hrs h32 hi
  have hcx := cnt_xs (lv := lv) ho32
  have HT := Lib.hid (fun (V : World) (A2 : Option Addr) (c2 : Nat) (hrd : RdR V V.heap.size A2 (xsL lv (fillL D F (datL zs ρ W)) D)) => @refTake_yes nn l c (ρ : Int) D F W gr A2 _ _ c2 V (xsL_len _ _ _) hrd hrs h32 (fun i hi => by
    rw [xsL_get hi]; split
    · exact .inr rfl
    · exact .inl rfl))
  have HTn := Lib.hid (fun (V : World) (A2 : Option Addr) (c2 : Nat) (hrd : RdR V V.heap.size A2 (xsL lv (fillL D F (datL zs ρ W)) D)) => @refTake_no nn l c (ρ : Int) D F W gr A2 _ _ c2 V (xsL_len _ _ _) hrd hrs h32 (fun i hi => by
    rw [xsL_get hi]; split
    · exact .inr rfl
    · exact .inl rfl))
  rw [hcx] at HT HTn
  have Hold := Lib.hid hold
  conv => arg 2; whnf
  go_upto_block 1 with fail
  refine wp_block ?_
  refine upA _ _ _ _ _ _ _ _ _ _ _ _ _ _ _ _ _ _ _ _ _ _ _ _ _ _ _ _ _ _ _ _ _ _ _ _ _ _ _ _ _ _ _ _ _ _ _ _ _ _ _ _ _ _ _ _ _ _ _ _ _ _ _ _ _ _ _ _ _ _ _ _ _ _ _ _ _ _ _ _ _ _ _ _ _ _ _ _ _ _ _ _ _ _ _ _ _ _ _ _ _ _ _ _ _ _ _ _ _ _ _ _ _ _ _ _ _ _ _ _ _ _ _ _ _ _ _ _ _ _ _ _ _ _ _ _ _ _ _ _ _ _ _ _ _ _ _ _ _ _ _ _ _ _ _ _ _ _ _ _ _ _ _ _ _ _ _ _ _ _ _ _ _ _ _ _ _ _ _ _ _ _ _ _ _ _ _ _ _ _ _ _ _ _ _ _ _ _ _ _ _ _ _ _ _ _ _ _ _ _ _ _ _ _ _ _ _ _ _ _ _ _ _ _ _ _ _ _ _ _ _ _ _ _ _ _ _ _ _ _ _ _ _ _ _ _ _ _ _ _ _ _ _ _ _ _ _ _ _ _ _ _ _ _ _ _ _ _ _ _ _ _ _ _ _ hd8 Hold.out hol hgl hlc ⟨Nat.zero_le _, OwV.nil _ _, (fun j hj => (by cases hj)), Below.refl _ _⟩ (fun v25 v26 v126 v127 v128 v129 v130 v131 v132 v133 v134 v135 v136 v137 v138 v139 k v V1 hI hx2 => ?_)
  obtain ⟨_, hown, _, hb1⟩ := hI
  rw [hx2] at hown
  obtain ⟨A2, c2, rfl, _, hrd⟩ := hown.rd (by rw [xsL_len]; omega)
  rw [xsL_len]
  have HB1 := Lib.hid hb1
  have HT1 := Lib.hid (HT.out V1 A2 c2 hrd)
  have HT2 := Lib.hid (HTn.out V1 A2 c2 hrd)
  obtain ⟨g1, g2, g3⟩ := GAt.below G hb1 hgb
  have Gw := Lib.hid G
  have Hk := Lib.hid hk
  have Hit := Lib.hid hit
  have Hx := Lib.hid hx
  have Hlc := Lib.hid hlc
  have Hz0 := Lib.hid hz0
  have Hz1 := Lib.hid hz1
  clear HT HTn hown hrd hx2 hold Hold hb1 hk hit hx hlc hz0 hz1 G hcx
  by_cases hc : ((cntB D (fun i => !lv.getD i false) : Nat) : Int) ≤ l - 4
  · obtain ⟨rfl, rfl, hits⟩ := hyes hc
    have HT3 := Lib.hid (HT1.out hc)
    clear hyes hno hc HT1 HT2
    go_wp2_with fail
    (with_reducible refine HT3.out.mono ?_); rintro e V2 ⟨g7, bk, rfl, hR, hb2⟩
    have B2 := Lib.hid (HB1.out.trans (hb2.mono HB1.out.size))
    have CN := Lib.hid (refNumbers_own l (D : Int) c (ρ : Int) V2 (Lib.hid gr.ok) gr.l64 gr.d64 gr.c64 gr.r64)
    obtain ⟨g4, g5, g6⟩ := GAt.below Gw.out B2.out hgb
    have HR := Lib.hid hR
    have Hb2 := Lib.hid hb2
    clear hR hb2 HT3 g1 g2 g3
    have hpf : plNums l (D : Int) c (ρ : Int) = plFirst l (D : Int) c (ρ : Int) W := (plFirst_all gr.ok gr.wd).symm
    rw [hpf] at CN
    go_wp2_with fail
    (with_reducible refine CN.out.mono ?_); rintro e V3 ⟨vn, rfl, hon, hb3⟩
    unfold OwJ at hon
    rw [plFirst_len] at hon
    obtain ⟨An, cn, rfl, _, hgn⟩ := rx_form hon
    obtain ⟨gn, rfl, hgn2⟩ := hgn (by omega)
    have hnm : ∀ j, j < W → V3.cell? ⟨gn, j, none⟩ = some (.int .i64 (plN l (D : Int) c (ρ : Int) (j : Int))) := fun j hj => by
      rw [rx_cell_at hon j (by rw [List.length_map, plFirst_len]; exact hj)]
      simp [plFirst, hj, zv]
    have hg7 := HR.out.glt
    have hinj : ∀ j, j < W → (plN l (D : Int) c (ρ : Int) (j : Int) = pn ↔ j = kk) := fun j hj => ⟨fun e => by
      obtain ⟨_, _, _, a2⟩ := num_place gr hj
      obtain ⟨_, _, _, b2⟩ := num_place gr hkk
      rw [e] at a2
      rw [hpl] at b2
      rw [← a2, ← b2], fun e => by rw [e]; exact hpl⟩
    have HO3 := Lib.hid (HR.out.owr0.below hb3)
    have HB3 := Lib.hid (Hb2.out.trans (hb3.mono Hb2.out.size))
    have Hxv := Lib.hid ((Hx.out.below HB1.out (Nat.le_refl _)).more HB1.out.size)
    have Hnm := Lib.hid hnm
    have hng : gn ≠ g7 := by omega
    clear hon hgn hb3 CN g4 g5 g6 hnm hpf HR
    go_upto_block 3 with fail
    refine wp_block ?_
    refine upB _ _ _ _ _ _ _ _ _ _ _ _ _ _ _ _ _ _ _ _ _ _ _ _ _ _ _ _ _ _ _ _ _ _ _ _ _ _ _ _ _ _ _ _ _ _ _ _ _ _ _ _ _ _ _ _ _ _ _ _ _ _ _ _ _ _ _ _ _ _ _ _ _ _ _ _ _ _ _ _ _ _ _ _ _ _ _ _ _ _ _ _ _ _ _ _ _ _ _ _ _ _ _ _ _ _ _ _ _ _ _ _ _ _ _ _ _ _ _ _ _ _ _ _ _ _ _ _ _ _ _ _ _ _ _ _ _ _ _ _ _ _ _ _ _ _ _ _ _ _ _ _ _ _ _ _ _ _ _ _ _ _ _ _ _ _ _ _ _ _ _ _ _ _ _ _ _ _ _ _ _ _ _ _ _ _ _ _ _ _ _ _ _ _ _ _ _ _ _ _ _ _ _ _ _ _ _ _ _ _ _ _ _ _ _ _ _ _ _ _ _ _ _ _ _ _ _ _ _ _ _ _ _ _ _ _ _ _ _ _ _ _ _ _ _ _ _ _ _ _ _ _ _ _ _ _ _ _ _ _ _ _ _ _ _ _ _ _ _ _ _ _ _ _ (by omega) hg7.1 hng Hxv.out hx32 hkk hinj hrs ⟨Nat.zero_le _, HO3.out, Hnm.out, HB3.out⟩ (fun v29 v30 v170 v171 v172 v173 v174 v175 v176 v177 v178 v179 v180 v181 k V4 hI hx3 => ?_)
    obtain ⟨_, hO4, _, hb4⟩ := hI
    rw [hx3, if_pos hkk] at hO4
    have hs32 := set_32 (k := kk) h32 hx32
    have hsl : ((datL zs ρ W).set kk x).length = W := by rw [List.length_set]; exact hrs
    have CF := refFill_yes (some ⟨g7, 0, none⟩) _ W W l (D : Int) c (ρ : Int) V4 hsl (hO4.rdr (by omega)) (gr.fok hsl hs32) gr.l64 gr.d64 gr.c64 gr.r64
    rw [gr.eD, gr.eF] at CF
    unfold FillYes at CF
    rw [fillL_len] at CF
    replace CF := Lib.hid CF
    have B4 := Lib.hid (HB1.out.trans (hb4.mono HB1.out.size))
    obtain ⟨g4, g5, g6⟩ := GAt.below Gw.out B4.out hgb
    clear hO4 hx3 hb4 HO3 HB3 Hnm Hxv hng hinj
    go_wp2_with fail
    (with_reducible refine CF.out.mono ?_); rintro e V5 ⟨g9, xs9, rfl, hq9, hb5⟩
    have B5 := Lib.hid (B4.out.trans (hb5.mono B4.out.size))
    have Hfl := Lib.hid (hq9.owr.rdr (by omega))
    have hg9 := hq9.glt.2
    obtain ⟨six, hsix⟩ : ∃ six : Bool, six = true ↔ l = 6 := ⟨decide (l = 6), decide_eq_true_iff⟩
    have CP := refParity_any l (D : Int) c (ρ : Int) V5 gr.l64 gr.d64 gr.c64 gr.r64
    rw [gr.R.pP, gr.R.pQ, gr.eD, gr.eF, gr.eW, show (if l = 6 then ((roS D F (W + 1) : Nat) : Int) else -1) = (if six = true then ((roS D F (W + 1) : Nat) : Int) else -1) from by
      by_cases h6 : l = 6
      · rw [if_pos h6, if_pos (hsix.2 h6)]
      · rw [if_neg h6, if_neg (fun e => h6 (hsix.1 e))]] at CP
    replace CP := Lib.hid CP
    have hks : ksL l D F W kk = roS D F kk :: roS D F W :: if six = true then [roS D F (W + 1)] else [] := by
      unfold ksL
      by_cases h6 : l = 6
      · rw [if_pos h6, if_pos (hsix.2 h6)]
      · rw [if_neg h6, if_neg (fun e => h6 (hsix.1 e))]
    obtain ⟨cnt, hc0, hc3, hsk⟩ := plans_sk (a := 36 + ρ) (full := fillL D F ((datL zs ρ W).set kk x)) (q := roS D F (W + 1)) (six := six) hsv (roS_lt gr.hF (show kk < D by have := gr.hW; omega)) (roS_lt gr.hF gr.hW) (fun h6 => roS_lt gr.hF (by have := hsix.1 h6; have := gr.lv; omega))
    rw [← hks, ← hits] at hc3 hsk
    simp only [show ((36 + ρ : Nat) : Int) = 36 + (ρ : Int) from by omega] at hsk
    have Hsk := Lib.hid hsk
    generalize (if six = true then ((roS D F (W + 1) : Nat) : Int) else -1) = qv at CP Hsk
    obtain ⟨g1, g2, g3⟩ := GAt.below Gw.out B5.out hgb
    clear hq9 hb5 CF g4 g5 g6 hsk hks hits hsv
    go_wp2_with fail
    (with_reducible refine CP.out.mono ?_); rintro e V6 ⟨rfl, hb6⟩
    have B6 := Lib.hid (B5.out.trans (hb6.mono B5.out.size))
    have Hfl6 := Lib.hid ((Hfl.out.below hb6 (Nat.le_refl _)).more hb6.size)
    have hs6 := hb6.size
    clear hb6 CP g1 g2 g3 Hfl
    go_upto_block 5 with fail
    have ha7 := heap_alloc_new V6 (.cells #[.int .i64 ((roS D F kk : Nat) : Int), .int .i64 ((roS D F W : Nat) : Int), .int .i64 qv] 3)
    have hb7 := below1 V6 (.cells #[.int .i64 ((roS D F kk : Nat) : Int), .int .i64 ((roS D F W : Nat) : Int), .int .i64 qv] 3)
    have hs7 : V6.heap.size < (V6.alloc (.cells #[.int .i64 ((roS D F kk : Nat) : Int), .int .i64 ((roS D F W : Nat) : Int), .int .i64 qv] 3)).heap.size := by simp
    have B7 := Lib.hid (B6.out.trans (hb7.mono B6.out.size))
    have Hf7 := Lib.hid ((Hfl6.out.below hb7 (Nat.le_refl _)).more hb7.size)
    have hds : ∀ k, k < 3 → (V6.alloc (.cells #[.int .i64 ((roS D F kk : Nat) : Int), .int .i64 ((roS D F W : Nat) : Int), .int .i64 qv] 3)).cell? ⟨V6.heap.size, k, none⟩ = some (.int .i64 (dsP (roS D F kk) (roS D F W) qv k)) := fun k hk => by
      rw [cell_of_row _ _ k _ _ _ ha7]
      match k, hk with
      | 0, _ => rfl
      | 1, _ => rfl
      | 2, _ => rfl
    generalize hV7 : V6.alloc (.cells #[.int .i64 ((roS D F kk : Nat) : Int), .int .i64 ((roS D F W : Nat) : Int), .int .i64 qv] 3) = V7 at *
    have hg3 : V6.heap.size < V7.heap.size := hs7
    generalize V6.heap.size = g30 at *
    refine wp_block ?_
    have sz7 := B7.out.size
    refine upC _ _ _ _ _ _ _ _ _ _ _ _ _ _ _ _ _ _ _ _ _ _ _ _ _ _ _ _ _ _ _ _ _ _ _ _ _ _ _ _ _ _ _ _ _ _ _ _ _ _ _ _ _ _ _ _ _ _ _ _ _ _ _ _ _ _ _ _ _ _ _ _ _ _ _ _ _ _ _ _ _ _ _ _ _ _ _ _ _ _ _ _ _ _ _ _ _ _ _ _ _ _ _ _ _ _ _ _ _ _ _ _ _ _ _ _ _ _ _ _ _ _ _ _ _ _ _ _ _ _ _ _ _ _ _ _ _ _ _ _ _ _ _ _ _ _ _ _ _ _ _ _ _ _ _ _ _ _ _ _ _ _ _ _ _ _ _ _ _ _ _ _ _ _ _ _ _ _ _ _ _ _ _ _ _ _ _ _ _ _ _ _ _ _ _ _ _ _ _ _ _ _ _ _ _ _ _ _ _ _ _ _ _ _ _ _ _ _ _ _ _ _ _ _ _ _ _ _ _ _ _ _ _ _ _ _ _ _ _ _ _ _ _ _ _ _ _ _ _ _ _ _ _ _ _ _ _ _ _ _ _ _ _ _ _ _ _ _ _ _ _ _ (ρ := (ρ : Int)) (ni := its.length) ⟨by omega, by have := gr.r0; omega⟩ hd8 rfl hnl (by omega) (fun j hj => (B7.out.cell (p := ⟨gl, j, none⟩) hgl).trans (Hlc.out j hj)) (by omega) ((B7.out.cell (p := ⟨p8, 1, none⟩) hp8).trans Hz1.out) (fun h0 => by
      obtain ⟨gi, r1, r2, r3⟩ := Hit.out h0
      refine ⟨gi, r1, by omega, fun k hk => ?_⟩
      obtain ⟨Dd, cc, r4, r5⟩ := r3 k hk
      exact ⟨Dd, cc, rangeAt_keep r4 fun j => B7.out.cell (p := ⟨gi, j, none⟩) r2, (r5.below B7.out (Nat.le_refl _)).more B7.out.size⟩) (fillL_len _ _ _) (by omega) (bf := g9) (fo := 0) (fun k hk => by
      obtain ⟨b', off', e9, hlt9, hc9⟩ := Hf7.out.2 (by omega)
      injection e9 with e9
      injection e9 with e9 e10 _
      subst e9 e10
      exact hc9 k hk) hg3 hds Hsk.out ⟨Nat.zero_le _, hc0.symm, Below.refl _ _⟩ (fun v12 v37 v201 v202 v203 v204 v205 v206 v207 v208 v209 v210 v211 v212 v213 v214 v215 v216 v217 v218 v219 v220 v221 v222 v223 v224 v225 v226 v227 v228 v229 v230 v231 v232 v233 v234 v235 v236 v237 v238 v239 v240 v241 v242 v243 v244 v245 v246 v247 v248 v249 v250 v251 v252 v253 v254 v255 k i V8 hI hx4 => ?_)
    obtain ⟨_, hi, hb8⟩ := hI
    rw [hx4, hc3] at hi
    have B8 := Lib.hid (B7.out.trans (hb8.mono B7.out.size))
    have y0 := (B8.out.cell (p := ⟨p8, 0, none⟩) hp8).trans Hz0.out
    have y1 := (B8.out.cell (p := ⟨p8, 1, none⟩) hp8).trans Hz1.out
    have K8 := Lib.hid (Hk.out.below B8.out)
    have FB := Lib.hid K8.out.bp.bel
    have CPe := bp_pending_eq W0 V8 b H N K8.out.bp hps
    rw [hpd] at CPe
    replace CPe := Lib.hid CPe
    subst hi
    clear hb8 hV7 hds hx4 Hsk hc3 B7 Hf7 Hfl6 hc0 ha7 hb7
    go_wp2_with (first
    | (go_at_call 19
       (with_reducible refine CPe.out.mono ?_)
       rintro e w19 ⟨rfl, h19⟩
       obtain rfl : V8 = w19 := h19.symm
       clear h19)
    | (go_at_call 12
       (with_reducible refine (HWk.out _).mono ?_)
       rintro e w20 ⟨rfl, hb20⟩
       have F20 := Lib.hid (FB.out.trans (hb20.mono FB.out.size))
       clear hb20))
    exact HQ.out _ _ _ _ _ _ _ _ _ _ _ _ _ _ _ _ _ _ _ _ _ _ _ _ _ _ _ _ _ _ _ _ _ _ _ _ _ _ _ _ _ _ _ _ _ _ _ _ _ _ _ _ _ _ _ _ _ _ _ _ _ _ _ _ _ _ _ _ _ _ _ _ _ _ _ _ _ _ _ _ _ _ _ _ _ _ _ _ _ _ _ _ _ _ _ _ _ _ _ _ _ _ _ _ _ _ _ _ _ _ _ _ _ _ _ _ _ _ _ _ _ _ _ _ _ _ _ _ _ _ _ _ _ _ _ _ _ _ _ _ _ _ _ _ _ _ _ _ _ _ _ _ _ _ _ _ _ _ _ _ _ _ _ _ _ _ _ _ _ _ _ _ _ _ _ _ _ _ _ _ _ _ _ _ _ _ _ _ _ _ _ _ _ _ _ _ _ _ _ _ _ _ _ _ _ _ _ _ _ _ _ _ _ _ _ _ _ _ _ _ _ _ _ _ _ _ _ _ _ _ _ _ _ _ _ _ _ _ _ _ _ _ _ _ _ _ _ _ _ _ _ _ _ _ _ _ _ _ _ _ _ _ _ _ _ _ _ _ _ _ _ _ _ _ _ _ _ _ _ F20.out
  · obtain ⟨rfl, rfl, rfl⟩ := hno hc
    have HT3 := Lib.hid (HT2.out (by omega))
    clear hyes hno hc HT1 HT2
    go_wp2_with fail
    (with_reducible refine HT3.out.mono ?_); rintro e V2 ⟨rfl, hb2⟩
    have B2 := Lib.hid (HB1.out.trans (hb2.mono HB1.out.size))
    have y0 := (B2.out.cell (p := ⟨p8, 0, none⟩) hp8).trans Hz0.out
    have y1 := (B2.out.cell (p := ⟨p8, 1, none⟩) hp8).trans Hz1.out
    have FB := Lib.hid (Hk.out.below B2.out).bp.bel
    rw [show ([] : List It).length = 0 from rfl] at y1
    clear HT3 g1 g2 g3 hb2 HB1
    go_wp2_with (first
    | (go_at_call 12
       (with_reducible refine (HWk.out _).mono ?_)
       rintro e w20 ⟨rfl, hb20⟩
       have F20 := Lib.hid (FB.out.trans (hb20.mono FB.out.size))
       clear hb20))
    exact HQ.out _ _ _ _ _ _ _ _ _ _ _ _ _ _ _ _ _ _ _ _ _ _ _ _ _ _ _ _ _ _ _ _ _ _ _ _ _ _ _ _ _ _ _ _ _ _ _ _ _ _ _ _ _ _ _ _ _ _ _ _ _ _ _ _ _ _ _ _ _ _ _ _ _ _ _ _ _ _ _ _ _ _ _ _ _ _ _ _ _ _ _ _ _ _ _ _ _ _ _ _ _ _ _ _ _ _ _ _ _ _ _ _ _ _ _ _ _ _ _ _ _ _ _ _ _ _ _ _ _ _ _ _ _ _ _ _ _ _ _ _ _ _ _ _ _ _ _ _ _ _ _ _ _ _ _ _ _ _ _ _ _ _ _ _ _ _ _ _ _ _ _ _ _ _ _ _ _ _ _ _ _ _ _ _ _ _ _ _ _ _ _ _ _ _ _ _ _ _ _ _ _ _ _ _ _ _ _ _ _ _ _ _ _ _ _ _ _ _ _ _ _ _ _ _ _ _ _ _ _ _ _ _ _ _ _ _ _ _ _ _ _ _ _ _ _ _ _ _ _ _ _ _ _ _ _ _ _ _ _ _ _ _ _ _ _ _ _ _ _ _ _ _ _ _ _ _ _ _ _ F20.out
end Go.Proofs.Ytenkkdnepmoihaa
end
section
set_option maxRecDepth 20000
set_option linter.unusedVariables false
set_option linter.unusedSimpArgs false
namespace Go.Proofs.Ytenkkdnepmoihaa
open Go.RowKit

/-- A row is told just where not more are missing than may be. -/
theorem can_cnt {nn l c : Int} {ρ D F W : Nat} (gr : Gr nn l c (ρ : Int) D F W) (g : Nat → Bool) : canN l (D : Int) c (ρ : Int) D g = decide (((cntB D g : Nat) : Int) ≤ l - 4) := by
  have hW := gr.hW; have hF := gr.hF; have hlv := gr.lv
  have hp := gr.R.pP
  have hq := gr.R.pQ
  rw [gr.eD, gr.eF, gr.eW] at hp hq
  have c1 : cntB D g = cntB D (fun i => g i && !parB l (D : Int) c (ρ : Int) i) + cntB D (fun i => g i && parB l (D : Int) c (ρ : Int) i) := by
    rw [← cntB_disj D _ _ fun i _ => by cases g i <;> cases parB l (D : Int) c (ρ : Int) i <;> rfl]
    exact cntB_congr fun i _ => by cases g i <;> cases parB l (D : Int) c (ρ : Int) i <;> rfl
  have c2 : cntB D (parB l (D : Int) c (ρ : Int)) = cntB D (fun i => parB l (D : Int) c (ρ : Int) i && !g i) + cntB D (fun i => g i && parB l (D : Int) c (ρ : Int) i) := by
    rw [← cntB_disj D _ _ fun i _ => by cases g i <;> cases parB l (D : Int) c (ρ : Int) i <;> rfl]
    exact cntB_congr fun i _ => by cases g i <;> cases parB l (D : Int) c (ρ : Int) i <;> rfl
  have c3 : ((cntB D (parB l (D : Int) c (ρ : Int)) : Nat) : Int) = l - 4 := by
    have a2 := roS_lt (D := D) (F := F) (k := W) hF hW
    rcases hlv with ⟨rfl, hD⟩ | ⟨rfl, hD⟩
    · rw [if_neg (by decide)] at hq
      have e : cntB D (parB 5 (D : Int) c (ρ : Int)) = cntB D (fun i => decide (i = roS D F W) && true) := cntB_congr fun i _ => by
        unfold parB; rw [hp, hq, beq_nat, Bool.and_true]
        rw [show ((i : Int) == -1) = false from by rw [beq_eq_false_iff_ne]; omega, Bool.or_false]
      rw [e, cnt_pick a2 fun _ => true]; rfl
    · rw [if_pos rfl] at hq
      have a3 := roS_lt (D := D) (F := F) (k := W + 1) hF (by omega)
      have n3 : roS D F W ≠ roS D F (W + 1) := fun e => by have := roS_inj hF (by omega) (by omega) e; omega
      have e : cntB D (parB 6 (D : Int) c (ρ : Int)) = cntB D (fun i => (decide (i = roS D F W) || decide (i = roS D F (W + 1))) && true) := cntB_congr fun i _ => by
        unfold parB; rw [hp, hq, beq_nat, beq_nat, Bool.and_true]
      rw [e, cnt_pair a2 a3 n3 fun _ => true]; rfl
  unfold canN
  exact decide_eq_decide.2 (by omega)
theorem Arr.lost {N : Bch} {D : Nat} {lv : List Bool} {nn l c r : Int} {F W ρ : Nat} {ds : Nat → List (List UInt8)} (h : Arr N D lv l c W ds) (gr : Gr nn l c r D F W) (hρ : ρ < 16) (hc : l - 4 < ((cntB D (fun i => !srvD N lv i) : Nat) : Int)) : srdE N lv l (D : Int) c (ρ : Int) = 7 := by
  have h1 := can_some (lv := lv) h.st.std (gr.at hρ) (h.da.len ρ) (h.da.m ρ) rfl
  rw [can_cnt (gr.at hρ), only_ss] at h1
  have e : cntB D (fun i => decide ((i : Int) ∈ gonL (only N lv) lv D)) = cntB D (fun i => !srvD N lv i) := cntB_congr fun i hi => by rw [gonL_has hi, only_srv]
  rw [e, decide_eq_false (by omega)] at h1
  have h2 := h.st.told (gr.at hρ) (h.da.len ρ) (h.da.m ρ) rfl
  rw [← h1, if_neg (by decide)] at h2
  exact h2.1
set_option maxRecDepth 100000 in
set_option maxHeartbeats 3200000 in
theorem updateplans (hp : UpdP) (n : Int) (A : Option Addr) (zl : List Int) (cl : Nat) (al pt xx sq : Int) (w : World) (hn : (-9223372036854775808 ≤ n ∧ n ≤ 9223372036854775807)) (hcl : zl.length ≤ cl) (hzl : RdZ w w.heap.size A zl) (hal : (-9223372036854775808 ≤ al ∧ al ≤ 9223372036854775807)) (hpt : (-9223372036854775808 ≤ pt ∧ pt ≤ 9223372036854775807)) (hxx : (-9223372036854775808 ≤ xx ∧ xx ≤ 9223372036854775807)) (hsq : (-9223372036854775808 ≤ sq ∧ sq ≤ 9223372036854775807)) :
    Calls Try.prog 3 #[.int .i64 n, .slice A zl.length cl, .int .i64 al, .int .i64 pt, .int .i64 xx, .int .i64 sq] w fun e w' => e = .returned (.bool true) ∧ Below w.heap.size w w' := by
  have hpn := ptr_eq
  have HP := Lib.hid (fun V => playGood_any n V hn)
  obtain ⟨D, F, W, hD, gr⟩ := gr_of n (r := 0) (by omega) (by omega)
  rw [hD] at HP
  have hd8 := gr.d8; have hd3 := gr.d3; have hw7 := gr.w7
  generalize goL n = l at *
  generalize goC n = c at *
  have CFl := Lib.hid (fun (w1 : World) (hb1 : Below w.heap.size w w1) => filled_open gr D (Nat.le_refl _) hd8 zl.length cl hb1 rfl hcl hzl)
  have HWk := Lib.hid (fun V => wakesUpd_any hp V)
  have hll := liveL_len al D
  have hg := (plOk_yes gr.ok).1
  have hcap : gCap l (D : Int) c = (W : Int) * 16 := by rw [gCap_yes hg, ← gWid_yes hg, gr.wd]
  have w1 := gr.w1
  have CC := Lib.hid (fun V => refCapacity_any l (D : Int) c V gr.l64 gr.d64 gr.c64)
  have hab := withinI_bd pt (gCap l (D : Int) c + 2) (by omega)
  have CW := fun V => within_any pt (gCap l (D : Int) c + 2) V hpt (by omega)
  have hcb : 0 ≤ gCap l (D : Int) c ∧ gCap l (D : Int) c ≤ 112 := by omega
  have Hw2 := Lib.hid (show IntKind.i64.wrap (gCap l (D : Int) c + 2) = gCap l (D : Int) c + 2 by rw [IntKind.wrap_i64]; omega)
  generalize withinI pt (gCap l (D : Int) c + 2) = p0 at CW hab
  replace CW := Lib.hid CW
  have hsb := withinI_bd sq 1000 (by omega)
  have CW2 := fun V => within_any sq 1000 V hsq (by omega)
  generalize withinI sq 1000 = s0 at CW2 hsb
  replace CW2 := Lib.hid CW2
  have hx := sectorB_len xx
  have CSe := fun V => sector_any xx V hxx
  obtain ⟨x, hxe⟩ : ∃ x, sectorB xx = x := ⟨_, rfl⟩
  rw [hxe] at hx CSe
  replace CSe := Lib.hid CSe
  obtain ⟨pn, hpe⟩ : ∃ pn, p0 - 1 = pn := ⟨_, rfl⟩
  obtain ⟨seq, hse⟩ : ∃ seq, 1 + s0 = seq := ⟨_, rfl⟩
  have hpb : (-9223372036854775808 ≤ pn ∧ pn ≤ 9223372036854775807) := by omega
  have COf := Lib.hid (fun V => refOf_any l (D : Int) c pn V gr.l64 gr.d64 gr.c64 hpb)
  have Gr' := Lib.hid gr
  have Hzl := Lib.hid hzl
  have Hcap := Lib.hid hcap
  clear hD hn hzl hpt hcap hxx hsq
  go_enter Try.func3, Try.ntmps3
  go_wp2_with fail
  (with_reducible refine (HP.out _).mono ?_); rintro e w1 ⟨rfl, hb1⟩
  have G := gat_new w1 l D c 24 (0, 0)
  obtain ⟨g1, g2, g3⟩ := G
  have CFl1 := Lib.hid (CFl.out w1 hb1)
  clear hb1 CFl
  go_wp2_with fail
  (with_reducible refine CFl1.out.mono ?_); rintro e w2 ⟨b, H0, N0, rfl, k0, f0⟩
  have CLv := Lib.hid (ks_live k0 al D hal (by omega))
  obtain ⟨g4, g5, g6⟩ := k0.gat (g := w1.heap.size) (l := l) (d := (D : Int)) (c := c) (t := 24) (f := (0, 0)) (by simp)
  have Hf0 := Lib.hid f0
  clear k0 f0 CFl1 g1 g2 g3
  generalize w1.heap.size = gb at *
  go_wp2_with fail
  (with_reducible refine CLv.out.mono ?_); rintro e w3 ⟨gl, rfl, k1⟩
  generalize liveL al D = lv at *
  have K1 := Lib.hid k1
  obtain ⟨g7, g8, g9⟩ := K1.out.gat (g := gb) (l := l) (d := (D : Int)) (c := c) (t := 24) (f := (0, 0)) (by simp)
  clear k1 CLv g4 g5 g6
  go_wp2_with fail
  (with_reducible refine (CC.out _).mono ?_); rintro e w4 ⟨rfl, hb4⟩
  have K2 := Lib.hid (K1.out.below hb4)
  clear hb4 g7 g8 g9 K1 CC
  go_wp2_with fail
  (with_reducible refine (CW.out _).mono ?_); rintro e w5 ⟨rfl, h5⟩
  obtain rfl : w4 = w5 := h5.symm
  clear h5
  go_wp2_with fail
  (with_reducible refine (CW2.out _).mono ?_); rintro e w5 ⟨rfl, h5⟩
  obtain rfl : w4 = w5 := h5.symm
  clear h5 CW CW2
  go_wp2_with fail

  (with_reducible refine (CSe.out _).mono ?_); rintro e w6 ⟨gx, rfl, hxo, hbx⟩
  have K6 := Lib.hid (K2.out.slice hbx hxo.rdbf)
  clear hxo hbx K2 CSe
  have ha0 := Lib.hid (Hf0.out.arr lv)
  by_cases h13 : xx.tmod 13 = 12
  · have em : (xx.tmod 13 == 12) = true := by rw [h13]; rfl
    have HXL := Lib.hid (show (x.take 7).length = 7 by rw [List.length_take, hx]; rfl)
    have HE7 := Lib.hid (show upE N0 lv l (D : Int) c pn (x.take 7) = 1 by unfold upE; rw [if_pos (by rw [HXL.out]; decide)])
    have CPl := ks_plan K6.out hp lv (some ⟨gl, 0, none⟩) D D hll.symm (K6.out.lv (g := gl) (t := 4) (f := (0, 0)) (lv := lv) (by simp) rfl (by omega)) l (D : Int) c pn gr.l64 gr.d64 gr.c64 hpb (some ⟨gx, 0, none⟩) 7 32 (x.take 7) HXL.out (by omega) ((K6.out.sl (A := some ⟨gx, 0, none⟩) (bs := x) (by simp)).take 7) seq (by omega) (fun e0 => absurd e0 (by rw [HE7.out]; decide))
    rw [upS_no (by rw [HE7.out]; decide), upL_no (by rw [HE7.out]; decide), HE7.out] at CPl
    simp only [List.length_nil] at CPl
    clear h13 hpe hse
    replace CPl := Lib.hid CPl
    obtain ⟨g1, g2, g3⟩ := K6.out.gat (g := gb) (l := l) (d := (D : Int)) (c := c) (t := 24) (f := (0, 0)) (by simp)
    go_wp2_with fail
    (with_reducible refine CPl.out.mono ?_); rintro e w8 ⟨Ai, ci, rfl, hci, ku8, hb8⟩
    have K9 := Lib.hid (show KU w (w8.alloc (.cells #[.int .i64 0, .slice Ai 0 ci] 36)) b H0 N0 ((w8.heap.size, Obj.cells #[.int .i64 0, .slice Ai 0 ci] 36 (0, 0)) :: [(gl, Obj.cells (lv.map Value.bool).toArray 4 (0, 0)), (gb, Obj.cells #[.int .i64 l, .int .i64 (D : Int), .int .i64 c] 24 (0, 0))]) [] [(some ⟨gx, 0, none⟩, x)] [(Ai, [])] from ⟨ku8.ks.add _, fun p hp => (ku8.it p hp).below (below1 w8 _)⟩)
    obtain ⟨g4, g5, g6⟩ := K9.out.ks.gat (g := gb) (l := l) (d := (D : Int)) (c := c) (t := 24) (f := (0, 0)) (by simp)
    have hz9 := K9.out.ks.kx.kp (w8.heap.size, Obj.cells #[.int .i64 0, .slice Ai 0 ci] 36 (0, 0)) (List.mem_cons_self ..)
    dsimp only at hz9
    clear ku8 hb8 CPl K6 g1 g2 g3 hz9
    go_wp2_with fail
    (with_reducible refine (COf.out _).mono ?_); rintro e w10 ⟨rfl, hb10⟩
    have K10 := Lib.hid (show KU w w10 b H0 N0 ((w8.heap.size, Obj.cells #[.int .i64 0, .slice Ai 0 ci] 36 (0, 0)) :: [(gl, Obj.cells (lv.map Value.bool).toArray 4 (0, 0)), (gb, Obj.cells #[.int .i64 l, .int .i64 (D : Int), .int .i64 c] 24 (0, 0))]) [] [(some ⟨gx, 0, none⟩, x)] [(Ai, [])] from ⟨K9.out.ks.below hb10, fun p hp => (K9.out.it p hp).below hb10⟩)
    clear hb10 K9 g4 g5 g6
    generalize w8.heap.size = p8 at *
    have hz := (K10.out.ks.kx.kp (p8, Obj.cells #[.int .i64 0, .slice Ai 0 ci] 36 (0, 0)) (List.mem_cons_self ..)).1
    dsimp only at hz
    have z0 := cell_of_row w10 p8 0 _ _ _ hz
    have z1 := cell_of_row w10 p8 1 _ _ _ hz
    have FB := Lib.hid K10.out.ks.bp.bel
    go_wp2_with (first
        | (go_at_call 12
           (with_reducible refine (HWk.out _).mono ?_)
           rintro e w20 ⟨rfl, hb20⟩
           have F20 := Lib.hid (FB.out.trans (hb20.mono FB.out.size))
           clear hb20))
    go_ret
    exact ⟨rfl, F20.out⟩
  · have em : (xx.tmod 13 == 12) = false := by rw [beq_eq_false_iff_ne]; exact h13
    have HXL := Lib.hid hx
    have HFK := Lib.hid (fun e0 => ha0.out.fok gr hx (n := pn) e0)
    cases hok : plOfOk l (D : Int) c pn
    · have HE4 := Lib.hid (show upE N0 lv l (D : Int) c pn x = 4 by unfold upE; rw [if_neg (by omega), if_pos hok])
      rw [hok] at COf
      have CPl := ks_plan K6.out hp lv (some ⟨gl, 0, none⟩) D D hll.symm (K6.out.lv (g := gl) (t := 4) (f := (0, 0)) (lv := lv) (by simp) rfl (by omega)) l (D : Int) c pn gr.l64 gr.d64 gr.c64 hpb (some ⟨gx, 0, none⟩) 32 32 (x) HXL.out (by omega) (K6.out.sl (A := some ⟨gx, 0, none⟩) (bs := x) (by simp)) seq (by omega) (fun e0 => absurd e0 (by rw [HE4.out]; decide))
      rw [upS_no (by rw [HE4.out]; decide), upL_no (by rw [HE4.out]; decide), HE4.out] at CPl
      simp only [List.length_nil] at CPl
      clear h13 hpe hse hok
      replace CPl := Lib.hid CPl
      obtain ⟨g1, g2, g3⟩ := K6.out.gat (g := gb) (l := l) (d := (D : Int)) (c := c) (t := 24) (f := (0, 0)) (by simp)
      go_wp2_with fail
      (with_reducible refine CPl.out.mono ?_); rintro e w8 ⟨Ai, ci, rfl, hci, ku8, hb8⟩
      have K9 := Lib.hid (show KU w (w8.alloc (.cells #[.int .i64 0, .slice Ai 0 ci] 36)) b H0 N0 ((w8.heap.size, Obj.cells #[.int .i64 0, .slice Ai 0 ci] 36 (0, 0)) :: [(gl, Obj.cells (lv.map Value.bool).toArray 4 (0, 0)), (gb, Obj.cells #[.int .i64 l, .int .i64 (D : Int), .int .i64 c] 24 (0, 0))]) [] [(some ⟨gx, 0, none⟩, x)] [(Ai, [])] from ⟨ku8.ks.add _, fun p hp => (ku8.it p hp).below (below1 w8 _)⟩)
      obtain ⟨g4, g5, g6⟩ := K9.out.ks.gat (g := gb) (l := l) (d := (D : Int)) (c := c) (t := 24) (f := (0, 0)) (by simp)
      have hz9 := K9.out.ks.kx.kp (w8.heap.size, Obj.cells #[.int .i64 0, .slice Ai 0 ci] 36 (0, 0)) (List.mem_cons_self ..)
      dsimp only at hz9
      clear ku8 hb8 CPl K6 g1 g2 g3 hz9
      go_wp2_with fail
      (with_reducible refine (COf.out _).mono ?_); rintro e w10 ⟨rfl, hb10⟩
      have K10 := Lib.hid (show KU w w10 b H0 N0 ((w8.heap.size, Obj.cells #[.int .i64 0, .slice Ai 0 ci] 36 (0, 0)) :: [(gl, Obj.cells (lv.map Value.bool).toArray 4 (0, 0)), (gb, Obj.cells #[.int .i64 l, .int .i64 (D : Int), .int .i64 c] 24 (0, 0))]) [] [(some ⟨gx, 0, none⟩, x)] [(Ai, [])] from ⟨K9.out.ks.below hb10, fun p hp => (K9.out.it p hp).below hb10⟩)
      clear hb10 K9 g4 g5 g6
      generalize w8.heap.size = p8 at *
      have hz := (K10.out.ks.kx.kp (p8, Obj.cells #[.int .i64 0, .slice Ai 0 ci] 36 (0, 0)) (List.mem_cons_self ..)).1
      dsimp only at hz
      have z0 := cell_of_row w10 p8 0 _ _ _ hz
      have z1 := cell_of_row w10 p8 1 _ _ _ hz
      have FB := Lib.hid K10.out.ks.bp.bel
      go_wp2_with (first
          | (go_at_call 12
             (with_reducible refine (HWk.out _).mono ?_)
             rintro e w20 ⟨rfl, hb20⟩
             have F20 := Lib.hid (FB.out.trans (hb20.mono FB.out.size))
             clear hb20))
      go_ret
      exact ⟨rfl, F20.out⟩
    · obtain ⟨po1, po2⟩ := plOfOk_yes hok
      obtain ⟨ρ, kk, hρ, hkW, hat, hR, hDk⟩ := num_of gr po1 po2
      rw [hok, hR, hDk] at COf
      have hst := ha0.out.st
      have hsv : ∀ j, j < D → srvD N0 lv j = lv.getD j false := fun j hj => by
        cases h : lv.getD j false
        · exact srvD_no (fun q => by rw [q.2.1] at h; cases h)
        · exact srvD_mk (by rw [hst.n]; exact hj) h (Hf0.out.gd.f j hj)
      have hcs : cntB D (fun i => !srvD N0 lv i) = cntB D (fun i => !lv.getD i false) := cntB_congr fun i hi => by rw [hsv i hi]
      have hE0 : upE N0 lv l (D : Int) c pn x = srdE N0 lv l (D : Int) c (ρ : Int) := by unfold upE; rw [if_neg (by omega), if_neg (by rw [hok]; decide), hR]
      have hyes : ((cntB D (fun i => !lv.getD i false) : Nat) : Int) ≤ l - 4 → upE N0 lv l (D : Int) c pn x = 0 ∧ upS N0 lv l (D : Int) c pn x seq = seq ∧ upL N0 lv l (D : Int) c pn x = upIts N0 lv (36 + ρ) (fillL D (roF l (D : Int) c (ρ : Int)) ((datL zl ρ W).set kk x)) (ksL l D (roF l (D : Int) c (ρ : Int)) W kk) := fun hc => by
        obtain ⟨u0, u1, _⟩ := up_at (gr.at hρ) hkW hx (ha0.out.ok gr hρ (by rw [hcs]; exact hc))
        rw [← hat] at u0 u1
        exact ⟨u0, if_neg (fun q => q u0), u1⟩
      have hno : ¬ ((cntB D (fun i => !lv.getD i false) : Nat) : Int) ≤ l - 4 → upE N0 lv l (D : Int) c pn x = 7 ∧ upS N0 lv l (D : Int) c pn x seq = 0 ∧ upL N0 lv l (D : Int) c pn x = [] := fun hc => by
        have h7 := hE0.trans (ha0.out.lost gr hρ (by rw [hcs]; omega))
        exact ⟨h7, upS_no (by rw [h7]; decide), upL_no (by rw [h7]; decide)⟩
      have hnl : (upL N0 lv l (D : Int) c pn x).length ≤ 8 := by
        by_cases hc : ((cntB D (fun i => !lv.getD i false) : Nat) : Int) ≤ l - 4
        · rw [(hyes hc).2.2]
          have h1 := (ksL_facts (gr.at hρ) hkW).2.1
          unfold upIts
          rw [List.length_map]
          have h2 := List.length_filter_le (srvD N0 lv) (ksL l D (roF l (D : Int) c (ρ : Int)) W kk)
          omega
        · rw [(hno hc).2.2]; exact Nat.zero_le _
      have hpd := hst.good.pend
      have hps : ∀ i, i < N0.n → (N0.D i).ps.length ≤ 2000000 := fun i hi => by rw [hst.good.ps i hi]; exact Nat.zero_le _
      have CPl := ks_plan K6.out hp lv (some ⟨gl, 0, none⟩) D D hll.symm (K6.out.lv (g := gl) (t := 4) (f := (0, 0)) (lv := lv) (by simp) rfl (by omega)) l (D : Int) c pn gr.l64 gr.d64 gr.c64 hpb (some ⟨gx, 0, none⟩) 32 32 (x) HXL.out (by omega) (K6.out.sl (A := some ⟨gx, 0, none⟩) (bs := x) (by simp)) seq (by omega) HFK.out
      generalize upE N0 lv l (D : Int) c pn x = e0 at CPl hyes hno
      generalize upS N0 lv l (D : Int) c pn x seq = sv at CPl hyes hno
      generalize upL N0 lv l (D : Int) c pn x = its at CPl hyes hno hnl
      have Hat := Lib.hid hat
      clear h13 hpe hse hok HFK hR hDk hE0 hcs hat
      replace CPl := Lib.hid CPl
      obtain ⟨g1, g2, g3⟩ := K6.out.gat (g := gb) (l := l) (d := (D : Int)) (c := c) (t := 24) (f := (0, 0)) (by simp)
      go_wp2_with fail
      (with_reducible refine CPl.out.mono ?_); rintro e w8 ⟨Ai, ci, rfl, hci, ku8, hb8⟩
      have K9 := Lib.hid (show KU w (w8.alloc (.cells #[.int .i64 sv, .slice Ai its.length ci] 36)) b H0 N0 ((w8.heap.size, Obj.cells #[.int .i64 sv, .slice Ai its.length ci] 36 (0, 0)) :: [(gl, Obj.cells (lv.map Value.bool).toArray 4 (0, 0)), (gb, Obj.cells #[.int .i64 l, .int .i64 (D : Int), .int .i64 c] 24 (0, 0))]) [] [(some ⟨gx, 0, none⟩, x)] [(Ai, its)] from ⟨ku8.ks.add _, fun p hp => (ku8.it p hp).below (below1 w8 _)⟩)
      obtain ⟨g4, g5, g6⟩ := K9.out.ks.gat (g := gb) (l := l) (d := (D : Int)) (c := c) (t := 24) (f := (0, 0)) (by simp)
      have hz9 := K9.out.ks.kx.kp (w8.heap.size, Obj.cells #[.int .i64 sv, .slice Ai its.length ci] 36 (0, 0)) (List.mem_cons_self ..)
      dsimp only at hz9
      clear ku8 hb8 CPl K6 g1 g2 g3 hz9
      go_wp2_with fail
      (with_reducible refine (COf.out _).mono ?_); rintro e w10 ⟨rfl, hb10⟩
      have K10 := Lib.hid (show KU w w10 b H0 N0 ((w8.heap.size, Obj.cells #[.int .i64 sv, .slice Ai its.length ci] 36 (0, 0)) :: [(gl, Obj.cells (lv.map Value.bool).toArray 4 (0, 0)), (gb, Obj.cells #[.int .i64 l, .int .i64 (D : Int), .int .i64 c] 24 (0, 0))]) [] [(some ⟨gx, 0, none⟩, x)] [(Ai, its)] from ⟨K9.out.ks.below hb10, fun p hp => (K9.out.it p hp).below hb10⟩)
      clear hb10 K9 g4 g5 g6
      generalize w8.heap.size = p8 at *
      have hz := (K10.out.ks.kx.kp (p8, Obj.cells #[.int .i64 sv, .slice Ai its.length ci] 36 (0, 0)) (List.mem_cons_self ..)).1
      dsimp only at hz
      have z0 := cell_of_row w10 p8 0 _ _ _ hz
      have z1 := cell_of_row w10 p8 1 _ _ _ hz
      have FB := Lib.hid K10.out.ks.bp.bel
      go_upto_region 17 with fail
      clear z0 z1 hz
      have k10 := K10.out
      have hgb := (Array.getElem?_eq_some_iff.1 (k10.ks.kx.kp ((gb, Obj.cells #[.int .i64 l, .int .i64 (D : Int), .int .i64 c] 24 (0, 0))) (by simp)).1).1
      refine upF _ _ _ _ _ _ _ _ _ _ _ _ _ _ _ _ _ _ _ _ _ _ _ _ _ _ _ _ _ _ _ _ _ _ _ _ _ _ _ _ _ _ _ _ _ _ _ _ _ _ _ _ _ _ _ _ _ _ _ _ _ _ _ _ _ _ _ _ _ _ _ _ _ _ _ _ _ _ _ _ _ _ _ _ _ _ _ _ _ _ _ _ _ _ _ _ _ _ _ _ _ _ _ _ _ _ _ _ _ _ _ _ _ _ _ _ _ _ _ _ _ _ _ _ _ _ _ _ _ _ _ _ _ _ _ _ _ _ _ _ _ _ _ _ _ _ _ _ _ _ _ _ _ _ _ _ _ _ _ _ _ _ _ _ _ _ _ _ _ _ _ _ _ _ _ _ _ _ _ _ _ _ _ _ _ _ _ _ _ _ _ _ _ _ _ _ _ _ _ _ _ _ _ _ _ _ _ _ _ _ _ _ _ _ _ _ _ _ _ _ _ _ _ _ _ _ _ _ _ _ _ _ _ _ _ _ _ _ _ _ _ _ _ _ _ _ _ _ _ _ _ _ _ _ _ _ _ _ _ _ _ _ _ _ _ _ _ _ _ _ _ _ _ _ _ _ _ _ (gr.at hρ) (k10.ks.gat (g := gb) (l := l) (d := (D : Int)) (c := c) (t := 24) (f := (0, 0)) (by simp)) hgb (k10.ks.rdz Hzl.out) hcl (by omega) (fun v24 v113 v114 v115 v116 v117 v118 v119 v120 v121 v122 go V7 hb7 hold => ?_)
      refine ‹∀ (a : Act) (w : World), Code.wp Try.prog _ _ a w → _› _ _ ?_
      have k11 := k10.ks.below hb7
      have i11 := (k10.it (Ai, its) (by simp)).below hb7
      have hb1 := (k11.kx.kp ((gb, Obj.cells #[.int .i64 l, .int .i64 (D : Int), .int .i64 c] 24 (0, 0))) (by simp)).1
      have hl1 := (k11.kx.kp ((gl, Obj.cells (lv.map Value.bool).toArray 4 (0, 0))) (by simp)).1
      have hz1 := (k11.kx.kp (p8, Obj.cells #[.int .i64 sv, .slice Ai its.length ci] 36 (0, 0)) (List.mem_cons_self ..)).1
      dsimp only at hb1 hl1 hz1
      refine upT _ _ _ _ _ _ _ _ _ _ _ _ _ _ _ _ _ _ _ _ _ _ _ _ _ _ _ _ _ _ _ _ _ _ _ _ _ _ _ _ _ _ _ _ _ _ _ _ _ _ _ _ _ _ _ _ _ _ _ _ _ _ _ _ _ _ _ _ _ _ _ _ _ _ _ _ _ _ _ _ _ _ _ _ _ _ _ _ _ _ _ _ _ _ _ _ _ _ _ _ _ _ _ _ _ _ _ _ _ _ _ _ _ _ _ _ _ _ _ _ _ _ _ _ _ _ _ _ _ _ _ _ _ _ _ _ _ _ _ _ _ _ _ _ _ _ _ _ _ _ _ _ _ _ _ _ _ _ _ _ _ _ _ _ _ _ _ _ _ _ _ _ _ _ _ _ _ _ _ _ _ _ _ _ _ _ _ _ _ _ _ _ _ _ _ _ _ _ _ _ _ _ _ _ _ _ _ _ _ _ _ _ _ _ _ _ _ _ _ _ _ _ _ _ _ _ _ _ _ _ _ _ _ _ _ _ _ _ _ _ _ _ _ _ _ _ _ _ _ _ _ _ _ _ _ _ _ _ _ _ _ _ _ _ _ _ _ _ hp (gr.at hρ) hkW Hat.out.symm hll hx (k11.gat (g := gb) (l := l) (d := (D : Int)) (c := c) (t := 24) (f := (0, 0)) (by simp)) (Array.getElem?_eq_some_iff.1 hb1).1 (Array.getElem?_eq_some_iff.1 hl1).1 (fun j hj => (lv_setCell hl1 (d := j) (by rw [hll]; exact hj) false).1) (Array.getElem?_eq_some_iff.1 hz1).1 (cell_of_row V7 p8 0 _ _ _ hz1) (cell_of_row V7 p8 1 _ _ _ hz1) (fun h0 => by
        obtain ⟨gi, r1, r2, _, r4⟩ := i11.2 h0
        refine ⟨gi, r1, r2, fun k hk => ?_⟩
        obtain ⟨Dd, cc, r5, _, r6, _⟩ := r4 k hk
        exact ⟨Dd, cc, r5, r6⟩) hnl (k11.sl (A := some ⟨gx, 0, none⟩) (bs := x) (by simp)) hold (k11.less (K' := []) (R' := []) (S' := []) (fun _ h => absurd h (by simp)) (fun _ h => h) (fun _ h => absurd h (by simp))) hpd hps hsv hyes (fun q => hno (by omega)) (fun v0 v1 v2 v3 v4 v5 v6 v7 v8 v9 v10 v11 v13 v14 v15 v16 v17 v18 v19 v20 v21 v22 v23 v24 v25 v26 v27 v28 v29 v30 v31 v32 v33 v34 v35 v36 v37 v38 v39 v40 v41 v42 v43 v44 v45 v46 v47 v48 v49 v50 v51 v52 v53 v54 v55 v56 v57 v58 v59 v60 v61 v62 v63 v64 v65 v66 v67 v68 v69 v70 v71 v72 v73 v74 v75 v76 v77 v78 v79 v80 v81 v82 v83 v84 v85 v86 v87 v88 v89 v90 v91 v92 v93 v94 v95 v96 v97 v98 v99 v100 v101 v102 v103 v104 v105 v106 v107 v108 v109 v110 v111 v112 v113 v114 v115 v116 v117 v118 v119 v120 v121 v122 v123 v124 v125 v126 v127 v128 v129 v130 v131 v132 v133 v134 v135 v136 v137 v138 v139 v140 v141 v142 v143 v144 v145 v146 v147 v148 v149 v150 v151 v152 v153 v154 v155 v156 v157 v158 v159 v160 v161 v162 v163 v164 v165 v166 v167 v168 v169 v170 v171 v172 v173 v174 v175 v176 v177 v178 v179 v180 v181 v182 v183 v184 v185 v186 v187 v188 v189 v190 v191 v192 v193 v194 v195 v196 v197 v198 v199 v200 v201 v202 v203 v204 v205 v206 v207 v208 v209 v210 v211 v212 v213 v214 v215 v216 v217 v218 v219 v220 v221 v222 v223 v224 v225 v226 v227 v228 v229 v230 v231 v232 v233 v234 v235 v236 v237 v238 v239 v240 v241 v242 v243 v244 v245 v246 v247 v248 v249 v250 v251 v252 v253 v254 v255 v256 v257 v258 v259 v260 v261 v262 v263 v264 v265 v266 v267 v268 v269 v270 v271 v272 v273 v274 v275 v276 v277 v278 V hb => ?_)
      go_ret
      exact ⟨rfl, hb⟩
end Go.Proofs.Ytenkkdnepmoihaa
end
