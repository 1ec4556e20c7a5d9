/- Texts put together: BackupBytesLaw. -/
import Derived.Test.YtjnemopocmhfkaaDoorBbax
section
set_option linter.unusedVariables false
set_option linter.unusedSimpArgs false
namespace Go.Proofs.YtjnemopocmhfkaaDoor
open Go.RowKit

/-- The rows that Put is given, beside the bench. -/
def DsR (W V : World) (b : Nat) (H : BH) (o : Nat × Obj) (A5 : Option Addr) (n : Nat) (f1 : Bool) : Prop :=
  ∃ ds : List (List UInt8), ds.length = n ∧ (f1 = true → 0 < n → ds.any unlB = true) ∧ ((f1 = false ∨ n = 0) → ∀ y ∈ ds, y.length = 32) ∧ KS W V b H (Bch.new 3) [o] [(A5, ds)] []
set_option maxRecDepth 100000 in
set_option maxHeartbeats 8000000 in
theorem backupbytes (epoch window count : Int) (A : Option Addr) (zs : List Int) (cl : Nat) (alive how : Int) (W : World) (h1 : (-9223372036854775808 ≤ epoch ∧ epoch ≤ 9223372036854775807)) (h2 : (-9223372036854775808 ≤ window ∧ window ≤ 9223372036854775807)) (h3 : (-9223372036854775808 ≤ count ∧ count ≤ 9223372036854775807)) (_ : zs.length ≤ cl) (hz : RdZ W W.heap.size A zs) (h4 : (-9223372036854775808 ≤ alive ∧ alive ≤ 9223372036854775807)) (h5 : (-9223372036854775808 ≤ how ∧ how ≤ 9223372036854775807)) (ht : TabOk W) :
    Calls Tryd.prog 6 #[.int .i64 epoch, .int .i64 window, .int .i64 count, .slice A zs.length cl, .int .i64 alive, .int .i64 how] W fun e w' => e = .returned (.bool true) ∧ Below W.heap.size W w' := by
  have hpn := ptr_eq
  have CN := Lib.hid (bp_new 3 W W (Below.refl _ _) (by omega))
  have Ht := Lib.hid ht
  have Hz := Lib.hid hz
  have H5 := Lib.hid h5
  have CW1 := Lib.hid (fun V => within_any epoch 65536 V h1 (by omega))
  have CW2 := Lib.hid (fun V => within_any window 17 V h2 (by omega))
  have CW3 := Lib.hid (fun V => within_any count 31 V h3 (by omega))
  have W1 := withinI_bd epoch 65536 (by omega)
  have W2 := withinI_bd window 17 (by omega)
  obtain ⟨n, hn, hn31⟩ : ∃ k : Nat, withinI count 31 = (k : Int) ∧ k < 31 := ⟨(withinI count 31).toNat, by have := withinI_bd count 31 (by omega); omega, by have := withinI_bd count 31 (by omega); omega⟩
  rw [hn] at CW3
  obtain ⟨s7, hs7⟩ : ∃ s, (how.tmod 7 != 6) = s := ⟨_, rfl⟩
  obtain ⟨f1, hf1⟩ : ∃ s, (how.tmod 11 == 10) = s := ⟨_, rfl⟩
  have Hf1 := Lib.hid hf1
  have CL0 := Lib.hid (fun (w : World) (b : Nat) (H : BH) (h : KS W w b H (Bch.new 3) [] [] []) => ks_live h alive 3 h4 (by omega))
  have HE := Lib.hid h1
  have HX := Lib.hid h2
  clear ht hz h1 h2 h3 h4 h5 hn
  go_enter Tryd.func6, Tryd.ntmps6
  go_wp2_with fail
  refine CN.out.mono ?_
  rintro e w ⟨b, H, rfl, hp, _, _⟩
  unfold ptr
  have CL := CL0.out _ _ _ (show KX W w b H (Bch.new 3) [] from ⟨hp, fun p hp => by cases hp⟩).ks
  rw [show ((3 : Nat) : Int) = 3 from rfl] at CL
  replace CL := Lib.hid CL
  clear hp CN CL0
  go_wp2_with fail
  (with_reducible refine CL.out.mono ?_); rintro e w2 ⟨gl, rfl, k2⟩
  have K2 := Lib.hid k2
  clear k2 CL
  go_upto_if 48 with fail
  go_cut [0, 1, 49, 50, 51, 52] (fun e' x' _ _ _ _ V => ∃ E X : Int, e' = .int .i64 E ∧ x' = .int .i64 X ∧ (-9223372036854775808 ≤ E ∧ E ≤ 9223372036854775807) ∧ (-9223372036854775808 ≤ X ∧ X ≤ 9223372036854775807) ∧ w2 = V)
  case first =>
    cases s7 with
    | true =>
      go_wp2_with (first
        | ((with_reducible refine (CW1.out _).mono ?_); rintro e w3 ⟨rfl, hw⟩; obtain rfl : w2 = w3 := hw.symm)
        | ((with_reducible refine (CW2.out _).mono ?_); rintro e w3 ⟨rfl, hw⟩; obtain rfl : w2 = w3 := hw.symm))
      go_meet
      exact ⟨_, _, rfl, rfl, by omega, by omega, rfl⟩
    | false =>
      go_wp2_with fail
      go_meet
      exact ⟨_, _, rfl, rfl, HE.out, HX.out, rfl⟩
  case rest =>
    obtain ⟨E, X, rfl, rfl, hE, hX, rfl⟩ := hcut
    clear HE HX CW1 CW2 W1 W2 hs7
    have HE := Lib.hid hE
    have HX := Lib.hid hX
    clear hE hX
    have CS := Lib.hid (sectorsC_any A zs zs.length cl n w2 rfl (K2.out.rdz Hz.out) (by omega))
    go_wp2_with fail
    (with_reducible refine (CW3.out _).mono ?_); rintro e w3 ⟨rfl, hw⟩
    obtain rfl : w2 = w3 := hw.symm
    clear CW3 hw
    go_wp2_with fail
    (with_reducible refine CS.out.mono ?_); rintro e w4 ⟨v, rfl, xs, ⟨ho1, ho2⟩, hc32, hb4⟩
    have hlen : (sectorsB zs n).length = n := sectorsB_len _ _
    have h32 : ∀ y ∈ sectorsB zs n, y.length = 32 := sectorsB_mem
    generalize sectorsB zs n = rs at ho2 hlen h32
    obtain ⟨A5, c5, hv⟩ := OwV.len (lo := w2.heap.size) (w := w4) (v := v) (rs := rs) ⟨xs, by rw [hlen]; exact ho1, ho2⟩ (by omega)
    rw [hlen] at hv
    have HO1 := Lib.hid ho1
    have HO2 := Lib.hid ho2
    have HC := Lib.hid hc32
    have HB4 := Lib.hid hb4
    have HL := Lib.hid hlen
    have H32 := Lib.hid h32
    subst hv
    clear CS ho1 ho2 hc32 hb4 h32
    have KN : Hid ((f1 = false ∨ n = 0) → DsR W w4 b H (gl, Obj.cells ((liveL alive 3).map Value.bool).toArray 4 (0, 0)) A5 n f1) := fun hq => by
      obtain ⟨A6, c6, hv, k⟩ := K2.out.owv HB4.out (v := .slice A5 n c5) (rs := rs) ⟨xs, by rw [HL.out]; exact HO1.out, HO2.out⟩ (by have := HL.out; omega)
      injection hv with hA _ _
      subst hA
      refine ⟨rs, HL.out, fun a b => ?_, fun _ => H32.out, k⟩
      rcases hq with hq | hq
      · rw [hq] at a; exact absurd a (by decide)
      · omega
    clear hlen
    cases f1 with
    | false =>
      go_upto_if 64 with fail
      go_cut [65, 66, 67, 68, 69, 70, 71, 72, 73, 74] (fun _ _ _ _ _ _ _ _ _ _ V => DsR W V b H (gl, Obj.cells ((liveL alive 3).map Value.bool).toArray 4 (0, 0)) A5 n false)
      case first =>
        go_wp2_with fail
        go_meet
        exact KN.out (.inl (by trivial))
      case rest =>
        obtain ⟨ds, d1, d2, d3, hk⟩ := hcut
        refine ‹∀ (a : Act) (w : World), Code.wp Tryd.prog _ _ a w → _› _ _ ?_
        refine bbMid _ _ _ _ _ _ _ _ _ _ _ _ _ _ _ _ _ _ _ _ _ _ _ _ _ _ _ _ _ _ _ _ _ _ _ _ _ _ _ _ _ _ _ _ _ _ _ _ _ _ _ _ _ _ _ _ _ _ _ _ _ _ _ _ _ _ _ _ _ _ _ _ _ _ _ _ _ _ _ _ _ _ _ _ _ _ _ _ _ _ _ _ _ _ _ _ _ _ _ _ _ _ _ _ _ _ _ _ _ _ _ _ _ _ _ _ _ _ _ _ _ _ _ _ _ _ _ _ _ _ _ _ _ _ _ _ _ _ _ _ _ _ _ _ _ _ _ _ _ _ _ _ _ _ _ _ _ _ _ _ _ _ _ _ _ _ _ _ _ _ _ _ _ _ _ _ _ _ _ _ _ _ _ _ _ _ _ _ _ _ _ _ _ _ _ _ _ _ _ _ _ _ _ _ _ _ _ _ _ _ _ _ _ _ _ _ _ _ _ _ _ _ _ _ _ _ _ _ _ _ _ _ _ _ _ _ _ _ _ _ _ _ _ _ _ _ _ _ _ _ _ _ _ (e := E) (x := X) (how := how) (lv := liveL alive 3) (ds := ds) (f1 := false) HE.out HX.out H5.out Hf1.out (liveL_len _ _) d1 (by omega) d2 d3 Ht.out hk (fun v17 v18 v19 v20 v21 v22 v23 v24 v25 v26 v27 v28 v29 v30 v31 v32 v33 v75 v76 v77 v78 v79 v80 v81 v82 v83 v84 v85 v86 v87 v88 v89 v90 v91 v92 v93 v94 v95 v96 v97 v98 v99 v100 v101 v102 v103 v104 v105 v106 v107 v108 v109 v110 v111 v112 v113 v114 v115 v116 v117 v118 v119 v120 v121 v122 v123 v124 v125 v126 v127 v128 v129 v130 v131 v132 v133 v134 v135 v136 v137 v138 v139 v140 v141 v142 v143 v144 v145 v146 v147 v148 v149 v150 v151 v152 v153 v154 v155 v156 v157 v158 v159 v160 v161 v162 v163 v164 v165 v166 v167 v168 v169 v170 v171 v172 v173 v174 v175 v176 v177 v178 v179 v180 v181 v182 v183 v184 v185 v186 v187 v188 v189 v190 v191 v192 v193 v194 v195 v196 v197 v198 v199 v200 v201 v202 v203 v204 v205 v206 v207 v208 v209 v210 v211 v212 v213 v214 v215 v216 v217 v218 v219 v220 v221 v222 v223 v224 v225 v226 v227 v228 v229 v230 v231 v232 v233 v234 v235 v236 v237 v238 v239 v240 v241 v242 v243 v244 v245 v246 v247 v248 v249 v250 v251 v252 v253 v254 v255 v256 v257 v258 v259 V hB => ?_)
        have HB := Lib.hid hB
        clear hB
        refine bodyPost_ret (v := .bool true) (by simp [results, Tryd.results6, go_sem]) rfl ⟨rfl, HB.out⟩
    | true =>
      by_cases hn0 : 0 < n
      · have i0 : (0 : Int) < (n : Int) := by omega
        obtain ⟨g, cap, q, hv, hlo, hcell, hfz, hcut⟩ := secs_cut HL.out H32.out HO1.out HO2.out HC.out hn0
        injection hv with hA hn8 hc
        clear hn8
        subst hA hc
        have i1 : (0 : Int) ≤ (n : Int) - 1 := by omega
        have i2 : (n : Int) - 1 < (n : Int) := by omega
        have i3 : ((n : Int) - 1).toNat = n - 1 := by omega
        have hbs := HB4.out.setCell (p := ⟨g, n - 1, none⟩) hlo (.slice (some ⟨q, 0, none⟩) 3 32)
        obtain ⟨A6, c6, hv, k⟩ := K2.out.owv hbs hcut (by rw [cutL_len]; have := HL.out; omega)
        injection hv with hA hn9 hc9
        clear hn9 hc9
        subst hA
        have HKN : Hid (DsR W (w4.setCell ⟨g, n - 1, none⟩ (.slice (some ⟨q, 0, none⟩) 3 32)) b H (gl, Obj.cells ((liveL alive 3).map Value.bool).toArray 4 (0, 0)) (some ⟨g, 0, none⟩) n true) :=
          ⟨cutL rs, by rw [cutL_len]; exact HL.out, fun _ h0 => cutL_any (by rw [HL.out]; exact h0) H32.out, fun hq => by rcases hq with hq | hq; exact absurd hq (by decide); omega, k⟩
        clear KN hbs hcut k hlo
        go_upto_if 64 with fail
        go_cut [65, 66, 67, 68, 69, 70, 71, 72, 73, 74] (fun _ _ _ _ _ _ _ _ _ _ V => DsR W V b H (gl, Obj.cells ((liveL alive 3).map Value.bool).toArray 4 (0, 0)) (some ⟨g, 0, none⟩) n true)
        case first =>
          go_wp2_with fail
          go_meet
          exact HKN.out
        case rest =>
          obtain ⟨ds, d1, d2, d3, hk⟩ := hcut
          refine ‹∀ (a : Act) (w : World), Code.wp Tryd.prog _ _ a w → _› _ _ ?_
          refine bbMid _ _ _ _ _ _ _ _ _ _ _ _ _ _ _ _ _ _ _ _ _ _ _ _ _ _ _ _ _ _ _ _ _ _ _ _ _ _ _ _ _ _ _ _ _ _ _ _ _ _ _ _ _ _ _ _ _ _ _ _ _ _ _ _ _ _ _ _ _ _ _ _ _ _ _ _ _ _ _ _ _ _ _ _ _ _ _ _ _ _ _ _ _ _ _ _ _ _ _ _ _ _ _ _ _ _ _ _ _ _ _ _ _ _ _ _ _ _ _ _ _ _ _ _ _ _ _ _ _ _ _ _ _ _ _ _ _ _ _ _ _ _ _ _ _ _ _ _ _ _ _ _ _ _ _ _ _ _ _ _ _ _ _ _ _ _ _ _ _ _ _ _ _ _ _ _ _ _ _ _ _ _ _ _ _ _ _ _ _ _ _ _ _ _ _ _ _ _ _ _ _ _ _ _ _ _ _ _ _ _ _ _ _ _ _ _ _ _ _ _ _ _ _ _ _ _ _ _ _ _ _ _ _ _ _ _ _ _ _ _ _ _ _ _ _ _ _ _ _ _ _ _ _ (e := E) (x := X) (how := how) (lv := liveL alive 3) (ds := ds) (f1 := true) HE.out HX.out H5.out Hf1.out (liveL_len _ _) d1 (by omega) d2 d3 Ht.out hk (fun v17 v18 v19 v20 v21 v22 v23 v24 v25 v26 v27 v28 v29 v30 v31 v32 v33 v75 v76 v77 v78 v79 v80 v81 v82 v83 v84 v85 v86 v87 v88 v89 v90 v91 v92 v93 v94 v95 v96 v97 v98 v99 v100 v101 v102 v103 v104 v105 v106 v107 v108 v109 v110 v111 v112 v113 v114 v115 v116 v117 v118 v119 v120 v121 v122 v123 v124 v125 v126 v127 v128 v129 v130 v131 v132 v133 v134 v135 v136 v137 v138 v139 v140 v141 v142 v143 v144 v145 v146 v147 v148 v149 v150 v151 v152 v153 v154 v155 v156 v157 v158 v159 v160 v161 v162 v163 v164 v165 v166 v167 v168 v169 v170 v171 v172 v173 v174 v175 v176 v177 v178 v179 v180 v181 v182 v183 v184 v185 v186 v187 v188 v189 v190 v191 v192 v193 v194 v195 v196 v197 v198 v199 v200 v201 v202 v203 v204 v205 v206 v207 v208 v209 v210 v211 v212 v213 v214 v215 v216 v217 v218 v219 v220 v221 v222 v223 v224 v225 v226 v227 v228 v229 v230 v231 v232 v233 v234 v235 v236 v237 v238 v239 v240 v241 v242 v243 v244 v245 v246 v247 v248 v249 v250 v251 v252 v253 v254 v255 v256 v257 v258 v259 V hB => ?_)
          have HB := Lib.hid hB
          clear hB
          refine bodyPost_ret (v := .bool true) (by simp [results, Tryd.results6, go_sem]) rfl ⟨rfl, HB.out⟩
      · have i0 : ¬ (0 : Int) < (n : Int) := by omega
        go_upto_if 64 with fail
        go_cut [65, 66, 67, 68, 69, 70, 71, 72, 73, 74] (fun _ _ _ _ _ _ _ _ _ _ V => DsR W V b H (gl, Obj.cells ((liveL alive 3).map Value.bool).toArray 4 (0, 0)) A5 n true)
        case first =>
          go_wp2_with fail
          go_meet
          exact KN.out (.inr (by omega))
        case rest =>
          obtain ⟨ds, d1, d2, d3, hk⟩ := hcut
          refine ‹∀ (a : Act) (w : World), Code.wp Tryd.prog _ _ a w → _› _ _ ?_
          refine bbMid _ _ _ _ _ _ _ _ _ _ _ _ _ _ _ _ _ _ _ _ _ _ _ _ _ _ _ _ _ _ _ _ _ _ _ _ _ _ _ _ _ _ _ _ _ _ _ _ _ _ _ _ _ _ _ _ _ _ _ _ _ _ _ _ _ _ _ _ _ _ _ _ _ _ _ _ _ _ _ _ _ _ _ _ _ _ _ _ _ _ _ _ _ _ _ _ _ _ _ _ _ _ _ _ _ _ _ _ _ _ _ _ _ _ _ _ _ _ _ _ _ _ _ _ _ _ _ _ _ _ _ _ _ _ _ _ _ _ _ _ _ _ _ _ _ _ _ _ _ _ _ _ _ _ _ _ _ _ _ _ _ _ _ _ _ _ _ _ _ _ _ _ _ _ _ _ _ _ _ _ _ _ _ _ _ _ _ _ _ _ _ _ _ _ _ _ _ _ _ _ _ _ _ _ _ _ _ _ _ _ _ _ _ _ _ _ _ _ _ _ _ _ _ _ _ _ _ _ _ _ _ _ _ _ _ _ _ _ _ _ _ _ _ _ _ _ _ _ _ _ _ _ _ (e := E) (x := X) (how := how) (lv := liveL alive 3) (ds := ds) (f1 := true) HE.out HX.out H5.out Hf1.out (liveL_len _ _) d1 (by omega) d2 d3 Ht.out hk (fun v17 v18 v19 v20 v21 v22 v23 v24 v25 v26 v27 v28 v29 v30 v31 v32 v33 v75 v76 v77 v78 v79 v80 v81 v82 v83 v84 v85 v86 v87 v88 v89 v90 v91 v92 v93 v94 v95 v96 v97 v98 v99 v100 v101 v102 v103 v104 v105 v106 v107 v108 v109 v110 v111 v112 v113 v114 v115 v116 v117 v118 v119 v120 v121 v122 v123 v124 v125 v126 v127 v128 v129 v130 v131 v132 v133 v134 v135 v136 v137 v138 v139 v140 v141 v142 v143 v144 v145 v146 v147 v148 v149 v150 v151 v152 v153 v154 v155 v156 v157 v158 v159 v160 v161 v162 v163 v164 v165 v166 v167 v168 v169 v170 v171 v172 v173 v174 v175 v176 v177 v178 v179 v180 v181 v182 v183 v184 v185 v186 v187 v188 v189 v190 v191 v192 v193 v194 v195 v196 v197 v198 v199 v200 v201 v202 v203 v204 v205 v206 v207 v208 v209 v210 v211 v212 v213 v214 v215 v216 v217 v218 v219 v220 v221 v222 v223 v224 v225 v226 v227 v228 v229 v230 v231 v232 v233 v234 v235 v236 v237 v238 v239 v240 v241 v242 v243 v244 v245 v246 v247 v248 v249 v250 v251 v252 v253 v254 v255 v256 v257 v258 v259 V hB => ?_)
          have HB := Lib.hid hB
          clear hB
          refine bodyPost_ret (v := .bool true) (by simp [results, Tryd.results6, go_sem]) rfl ⟨rfl, HB.out⟩
end Go.Proofs.YtjnemopocmhfkaaDoor
end
