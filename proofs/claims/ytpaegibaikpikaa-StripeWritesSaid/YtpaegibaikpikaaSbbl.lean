/- Texts put together: StripeReadsLaw. -/
import Derived.Test.YtpaegibaikpikaaSbbk
section
set_option linter.unusedVariables false
set_option linter.unusedSimpArgs false
namespace Go.Proofs.Ytpaegibaikpikaa
open Go.RowKit

theorem ks_lost {W w : World} {b : Nat} {H : BH} {N : Bch} {K : List (Nat × Obj)} {R : List (Option Addr × List (List UInt8))} {S : List (Option Addr × List UInt8)} (h : KS W w b H N K R S) (lv : List Bool) (A : Option Addr) (n cp : Nat) (hn : n = lv.length) (hv : RdOX (BF b H N.n) w A lv) (l c : Int) (D : Nat) (hD : D ≤ N.n) (hDl : D ≤ lv.length) :
    Calls Try.prog 26 #[.pointer (some ⟨b, 0, none⟩), .slice A n cp, .agg #[.int .i64 l, .int .i64 (D : Int), .int .i64 c]] w fun e w' => ∃ mb, e = .returned (.map (some mb)) ∧ KS W w' b H N K R S ∧ SetI w' mb (gonL N lv D) := by
  refine (lost_any W.heap.size b H N w h.bp.at' lv A n cp hn hv.rdo l c D hD hDl).mono ?_
  rintro e w' ⟨mb, rfl, hs, hb⟩
  exact ⟨mb, rfl, h.below hb, hs⟩
theorem filled_at {n l c r : Int} {D F Wd : Nat} (gr : Gr n l c r D F Wd) (m : Nat) (hD : D ≤ m) (hm : m ≤ 8) {A : Option Addr} {zs : List Int} (k cp : Nat) {W w2 : World} {g : Nat} (hb : Below W.heap.size W w2) (hg : w2.heap[g]? = some (.cells #[.int .i64 l, .int .i64 (D : Int), .int .i64 c] 24)) (hW : W.heap.size ≤ g) (hk : k = zs.length) (hcp : zs.length ≤ cp) (hz : RdZ W W.heap.size A zs) :
    Calls Try.prog 9 #[.agg #[.int .i64 l, .int .i64 (D : Int), .int .i64 c], .int .i64 (m : Int), .slice A k cp] w2 fun e w' => ∃ b H N, e = .returned (.pointer (some ⟨b, 0, none⟩)) ∧ KS W w' b H N [(g, Obj.cells #[.int .i64 l, .int .i64 (D : Int), .int .i64 c] 24 (0, 0))] [] [] ∧ Fld N m D (rowL l c D Wd zs) 16 0 := by
  refine (stpFilled_any gr m hD hm A zs k cp _ hk hcp ((hz.below hb (Nat.le_refl _)).keep hb.size fun _ _ => rfl)).mono ?_
  rintro e w' ⟨b, H, N, rfl, k, f⟩
  exact ⟨b, H, N, rfl, k.open hb hg hW, f⟩
set_option maxRecDepth 100000 in
set_option maxHeartbeats 3200000 in
theorem srL {W0 : World} {l c : Int} {D m b gb gl : Nat} {lv : List Bool} {H : BH} {N : Bch} {w : World} (u0 u1 u2 u3 u4 u5 u6 u7 u8 u9 u10 u11 u12 u13 u14 u18 u19 u20 u21 u22 u23 u24 u25 u26 u27 u28 u29 u30 u31 u32 u33 u34 u35 u36 u37 u38 u39 u40 u41 u42 u43 u44 u45 u46 u47 u48 u49 u50 u51 u52 u53 u54 u55 u56 u57 u58 u59 u60 u61 u62 u63 u64 u65 u66 u67 u68 u69 u70 u71 u72 u73 u74 u75 u76 u77 u78 u79 u80 u81 u82 u83 u84 u85 u86 u87 u88 u89 u90 u91 u92 u93 u94 u95 u96 u97 u98 u99 u100 u101 u102 u103 u104 u105 u106 u107 u108 u109 u110 u111 u112 u113 u114 u115 u116 u117 u118 u119 u120 u121 u122 u123 u124 u125 u126 u127 u128 u129 u130 u131 u132 u133 u134 u135 u136 u137 u138 u139 u140 u141 u142 u143 u144 u145 u146 u147 u148 u149 u150 u151 u152 u153 u154 u155 u156 u157 u158 u159 u160 u161 u162 u163 u164 u165 u166 u167 u168 u169 u170 u171 u172 u173 u174 u175 u176 u177 u178 u179 u180 u181 u182 u183 u184 u185 u186 u187 u188 : Value) (K : Act → World → Prop) (Q0 : Exit → Act → World → Prop) (hm : m ≤ 8) (hDm : D ≤ m) (hll : lv.length = m) (hn : N.n = m) (hk : KS W0 w b H N [(gl, Obj.cells (lv.map Value.bool).toArray 4 (0, 0)), (gb, Obj.cells #[.int .i64 l, .int .i64 (D : Int), .int .i64 c] 24 (0, 0))] [] [])
    (hK : ∀ (v53 v54 v55 v56 : Value) (mb : Nat) (V : World), KS W0 V b H N [(gl, Obj.cells (lv.map Value.bool).toArray 4 (0, 0)), (gb, Obj.cells #[.int .i64 l, .int .i64 (D : Int), .int .i64 c] 24 (0, 0))] [] [] → SetI V mb (gonL N lv D) → K ⟨List.toArray (u0 :: u1 :: u2 :: u3 :: u4 :: u5 :: u6 :: u7 :: u8 :: u9 :: u10 :: u11 :: u12 :: u13 :: u14 :: (.pointer (some ⟨gb, 0, none⟩)) :: (.pointer (some ⟨b, 0, none⟩)) :: (.slice (some ⟨gl, 0, none⟩) m m) :: (.map (some mb)) :: u19 :: u20 :: u21 :: u22 :: u23 :: u24 :: u25 :: u26 :: u27 :: u28 :: u29 :: u30 :: u31 :: u32 :: u33 :: u34 :: u35 :: u36 :: u37 :: u38 :: u39 :: u40 :: u41 :: u42 :: u43 :: u44 :: u45 :: u46 :: u47 :: u48 :: u49 :: u50 :: u51 :: u52 :: v53 :: v54 :: v55 :: v56 :: u57 :: u58 :: u59 :: u60 :: u61 :: u62 :: u63 :: u64 :: u65 :: u66 :: u67 :: u68 :: u69 :: u70 :: u71 :: u72 :: u73 :: u74 :: u75 :: u76 :: u77 :: u78 :: u79 :: u80 :: u81 :: u82 :: u83 :: u84 :: u85 :: u86 :: u87 :: u88 :: u89 :: u90 :: u91 :: u92 :: u93 :: u94 :: u95 :: u96 :: u97 :: u98 :: u99 :: u100 :: u101 :: u102 :: u103 :: u104 :: u105 :: u106 :: u107 :: u108 :: u109 :: u110 :: u111 :: u112 :: u113 :: u114 :: u115 :: u116 :: u117 :: u118 :: u119 :: u120 :: u121 :: u122 :: u123 :: u124 :: u125 :: u126 :: u127 :: u128 :: u129 :: u130 :: u131 :: u132 :: u133 :: u134 :: u135 :: u136 :: u137 :: u138 :: u139 :: u140 :: u141 :: u142 :: u143 :: u144 :: u145 :: u146 :: u147 :: u148 :: u149 :: u150 :: u151 :: u152 :: u153 :: u154 :: u155 :: u156 :: u157 :: u158 :: u159 :: u160 :: u161 :: u162 :: u163 :: u164 :: u165 :: u166 :: u167 :: u168 :: u169 :: u170 :: u171 :: u172 :: u173 :: u174 :: u175 :: u176 :: u177 :: u178 :: u179 :: u180 :: u181 :: u182 :: u183 :: u184 :: u185 :: u186 :: u187 :: u188 :: []), []⟩ V) :
    Code.wp Try.prog (sub [1, 1, 1, 1, 1, 1, 1, 0] codeSR) (Exit.then K Q0) ⟨List.toArray (u0 :: u1 :: u2 :: u3 :: u4 :: u5 :: u6 :: u7 :: u8 :: u9 :: u10 :: u11 :: u12 :: u13 :: u14 :: (.pointer (some ⟨gb, 0, none⟩)) :: (.pointer (some ⟨b, 0, none⟩)) :: (.slice (some ⟨gl, 0, none⟩) m m) :: u18 :: u19 :: u20 :: u21 :: u22 :: u23 :: u24 :: u25 :: u26 :: u27 :: u28 :: u29 :: u30 :: u31 :: u32 :: u33 :: u34 :: u35 :: u36 :: u37 :: u38 :: u39 :: u40 :: u41 :: u42 :: u43 :: u44 :: u45 :: u46 :: u47 :: u48 :: u49 :: u50 :: u51 :: u52 :: u53 :: u54 :: u55 :: u56 :: u57 :: u58 :: u59 :: u60 :: u61 :: u62 :: u63 :: u64 :: u65 :: u66 :: u67 :: u68 :: u69 :: u70 :: u71 :: u72 :: u73 :: u74 :: u75 :: u76 :: u77 :: u78 :: u79 :: u80 :: u81 :: u82 :: u83 :: u84 :: u85 :: u86 :: u87 :: u88 :: u89 :: u90 :: u91 :: u92 :: u93 :: u94 :: u95 :: u96 :: u97 :: u98 :: u99 :: u100 :: u101 :: u102 :: u103 :: u104 :: u105 :: u106 :: u107 :: u108 :: u109 :: u110 :: u111 :: u112 :: u113 :: u114 :: u115 :: u116 :: u117 :: u118 :: u119 :: u120 :: u121 :: u122 :: u123 :: u124 :: u125 :: u126 :: u127 :: u128 :: u129 :: u130 :: u131 :: u132 :: u133 :: u134 :: u135 :: u136 :: u137 :: u138 :: u139 :: u140 :: u141 :: u142 :: u143 :: u144 :: u145 :: u146 :: u147 :: u148 :: u149 :: u150 :: u151 :: u152 :: u153 :: u154 :: u155 :: u156 :: u157 :: u158 :: u159 :: u160 :: u161 :: u162 :: u163 :: u164 :: u165 :: u166 :: u167 :: u168 :: u169 :: u170 :: u171 :: u172 :: u173 :: u174 :: u175 :: u176 :: u177 :: u178 :: u179 :: u180 :: u181 :: u182 :: u183 :: u184 :: u185 :: u186 :: u187 :: u188 :: []), []⟩ w := by
  have HK := Lib.hid hK
  clear hK
  conv => arg 2; whnf
  have CL := Lib.hid (ks_lost hk lv (some ⟨gl, 0, none⟩) m m hll.symm (hk.lv (g := gl) (t := 4) (f := (0, 0)) (lv := lv) (by simp) rfl (by omega)) l c D (by omega) (by omega))
  obtain ⟨g1, g2, g3⟩ := hk.gat (g := gb) (l := l) (d := (D : Int)) (c := c) (t := 24) (f := (0, 0)) (by simp)
  clear hk hn
  go_wp2_with fail
  (with_reducible refine CL.out.mono ?_); rintro e w1 ⟨mb, rfl, k1, s1⟩
  have K1 := Lib.hid k1
  have S1 := Lib.hid s1
  clear k1 s1 CL
  go_wp2_with fail
  exact HK.out _ _ _ _ mb _ K1.out S1.out
set_option maxRecDepth 100000 in
set_option maxHeartbeats 3200000 in
theorem stripereads (n disks : Int) (A : Option Addr) (zl : List Int) (cl : Nat) (al fa r at0 : Int) (w : World) (hn : (-9223372036854775808 ≤ n ∧ n ≤ 9223372036854775807)) (hds : (-9223372036854775808 ≤ disks ∧ disks ≤ 9223372036854775807)) (hcl : zl.length ≤ cl) (hzl : RdZ w w.heap.size A zl) (hal : (-9223372036854775808 ≤ al ∧ al ≤ 9223372036854775807)) (hfa : (-9223372036854775808 ≤ fa ∧ fa ≤ 9223372036854775807)) (hr : (-9223372036854775808 ≤ r ∧ r ≤ 9223372036854775807)) (hat : (-9223372036854775808 ≤ at0 ∧ at0 ≤ 9223372036854775807)) :
    Calls Try.prog 5 #[.int .i64 n, .int .i64 disks, .slice A zl.length cl, .int .i64 al, .int .i64 fa, .int .i64 r, .int .i64 at0] w fun e w' => e = .returned (.bool true) ∧ Below w.heap.size w w' := by
  have hpn := ptr_eq
  have HP := Lib.hid (fun V => playGood_any n V hn)
  have CW1 := Lib.hid (fun V => within_any disks 2 V hds (by omega))
  have hdb := withinI_bd disks 2 (by omega)
  generalize withinI disks 2 = t at CW1 hdb
  obtain ⟨D, F, W, hD, gr⟩ := gr_of n (r := 0) (by omega) (by omega)
  rw [hD] at HP
  have hd8 := gr.d8; have hd3 := gr.d3; have hw7 := gr.w7
  obtain ⟨m, hm⟩ : ∃ m : Nat, (if (8 : Int) < (D : Int) + t then (8 : Int) else (D : Int) + t) = (m : Int) := ⟨(if (8 : Int) < (D : Int) + t then (8 : Int) else (D : Int) + t).toNat, by split <;> omega⟩
  have hmb : D ≤ m ∧ m ≤ 8 := by split at hm <;> omega
  have hm8 := hmb.2
  have hDm := hmb.1
  have CW2 := Lib.hid (fun V => within_any fa 3 V hfa (by omega))
  generalize withinI fa 3 = t3 at CW2
  have CW3 := Lib.hid (fun V => within_any fa (m : Int) V hfa (by omega))
  have hab := withinI_bd fa (m : Int) (by omega)
  obtain ⟨d1, hd1⟩ := Int.eq_ofNat_of_zero_le hab.1
  rw [hd1] at CW3 hab
  have hd1m : d1 < m := by omega
  generalize goL n = l at *
  generalize goC n = c at *
  have L1 := gr.l64
  have L2 := gr.d64
  have L3 := gr.c64
  have CFl := Lib.hid (fun (w2 : World) (g : Nat) (hb2 : Below w.heap.size w w2) hg hW => filled_at gr m hDm hm8 (g := g) (w2 := w2) zl.length cl hb2 hg hW rfl hcl hzl)
  have Gr' := Lib.hid gr
  have Hz := Lib.hid hzl
  have hll := liveL_len al m
  clear hD hd1 hn hds hfa hzl gr hmb hab
  go_enter Try.func5, Try.ntmps5
  go_wp2_with fail
  (with_reducible refine (HP.out _).mono ?_); rintro e w1 ⟨rfl, hb1⟩
  have G := gat_new w1 l D c 24 (0, 0)
  obtain ⟨g1, g2, g3⟩ := G
  have Hb1 := Lib.hid hb1
  clear hb1
  go_wp2_with fail
  go_quiet ((go_at_call 11; exact Calls.quiet_of_same (CW1.out _)))
  have CFl1 := Lib.hid (CFl.out ((w1.alloc (.cells #[.int .i64 l, .int .i64 (D : Int), .int .i64 c] 24)).drewN nq) w1.heap.size ((Hb1.out.alloc Hb1.out.size _).trans (belowN _ _ nq)) (hp_new w1 _ _ rfl) Hb1.out.size)
  clear CFl
  go_wp2_with fail
  (with_reducible refine CFl1.out.mono ?_); rintro e w2 ⟨b, H0, N0, rfl, k0, f0⟩
  have CLv := Lib.hid (ks_live k0 al m hal (by omega))
  obtain ⟨g4, g5, g6⟩ := k0.gat (g := w1.heap.size) (l := l) (d := (D : Int)) (c := c) (t := 24) (f := (0, 0)) (by simp)
  have Hf0 := Lib.hid f0
  clear k0 f0 CFl1 g1 g2 g3 Hb1
  generalize w1.heap.size = gb at *
  go_wp2_with fail
  (with_reducible refine CLv.out.mono ?_); rintro e w3 ⟨gl, rfl, k1⟩
  have K1 := Lib.hid k1
  obtain ⟨g1, g2, g3⟩ := k1.gat (g := gb) (l := l) (d := (D : Int)) (c := c) (t := 24) (f := (0, 0)) (by simp)
  clear k1 CLv g4 g5 g6
  generalize liveL al m = lv at hll K1
  go_wp2_with fail
  (with_reducible refine (CW2.out _).mono ?_); rintro e w4 ⟨rfl, rfl⟩
  by_cases h3 : t3 = 0
  · subst h3
    have CFa := Lib.hid (ks_fail K1.out (d1 : Int) ⟨by omega, by omega⟩)
    have HSt := Lib.hid (Hf0.out.std.fail hd1m)
    go_wp2_with fail
    (with_reducible refine (CW3.out _).mono ?_); rintro e w5 ⟨rfl, rfl⟩
    go_wp2_with fail
    (with_reducible refine CFa.out.mono ?_); rintro e w6 ⟨rfl, H4, k4⟩
    generalize N0.fail (d1 : Int) = N4 at k4 HSt
    have K4 := Lib.hid k4
    clear k4 CFa K1 g1 g2 g3
    go_upto_region 9 with fail
    refine srL _ _ _ _ _ _ _ _ _ _ _ _ _ _ _ _ _ _ _ _ _ _ _ _ _ _ _ _ _ _ _ _ _ _ _ _ _ _ _ _ _ _ _ _ _ _ _ _ _ _ _ _ _ _ _ _ _ _ _ _ _ _ _ _ _ _ _ _ _ _ _ _ _ _ _ _ _ _ _ _ _ _ _ _ _ _ _ _ _ _ _ _ _ _ _ _ _ _ _ _ _ _ _ _ _ _ _ _ _ _ _ _ _ _ _ _ _ _ _ _ _ _ _ _ _ _ _ _ _ _ _ _ _ _ _ _ _ _ _ _ _ _ _ _ _ _ _ _ _ _ _ _ _ _ _ _ _ _ _ _ _ _ _ _ _ _ _ _ _ _ _ _ _ _ _ _ _ _ _ _ _ _ _ _ _ _ _ _ hm8 hDm hll HSt.out.n K4.out (fun v53 v54 v55 v56 mb V5 k5 s5 => ?_)
    have K5 := Lib.hid k5
    have S5 := Lib.hid s5
    clear k5 s5 K4
    refine ‹∀ (a : Act) (w : World), Code.wp Try.prog _ _ a w → _› _ _ ?_
    refine sr10 _ _ _ _ _ _ _ _ _ _ _ _ _ _ _ _ _ _ _ _ _ _ _ _ _ _ _ _ _ _ _ _ _ _ _ _ _ _ _ _ _ _ _ _ _ _ _ _ _ _ _ _ _ _ _ _ _ _ _ _ _ _ _ _ _ _ _ _ _ _ _ _ _ _ _ _ _ _ _ _ _ _ _ _ _ _ _ _ _ _ _ _ _ _ _ _ _ _ _ _ _ _ _ _ _ _ _ _ _ _ _ _ _ _ _ _ _ _ _ _ _ _ _ _ _ _ _ _ _ _ _ _ _ _ _ _ _ _ _ _ _ _ _ _ _ _ _ _ _ _ _ _ _ _ _ _ _ _ _ _ _ _ _ _ _ _ _ _ _ _ _ _ _ _ _ _ _ _ _ _ _ _ _ Gr'.out hm8 hDm Hz.out hcl hll HSt.out hat hr K5.out S5.out (fun v0 v1 v2 v3 v4 v5 v6 v7 v8 v9 v10 v11 v12 v13 v15 v16 v17 v18 v19 v20 v21 v22 v23 v24 v25 v26 v27 v28 v29 v30 v31 v32 v33 v34 v35 v36 v37 v38 v39 v40 v41 v42 v43 v44 v45 v46 v47 v48 v49 v50 v51 v52 v53 v54 v55 v56 v57 v58 v59 v60 v61 v62 v63 v64 v65 v66 v67 v68 v69 v70 v71 v72 v73 v74 v75 v76 v77 v78 v79 v80 v81 v82 v83 v84 v85 v86 v87 v88 v89 v90 v91 v92 v93 v94 v95 v96 v97 v98 v99 v100 v101 v102 v103 v104 v105 v106 v107 v108 v109 v110 v111 v112 v113 v114 v115 v116 v117 v118 v119 v120 v121 v122 v123 v124 v125 v126 v127 v128 v129 v130 v131 v132 v133 v134 v135 v136 v137 v138 v139 v140 v141 v142 v143 v144 v145 v146 v147 v148 v149 v150 v151 v152 v153 v154 v155 v156 v157 v158 v159 v160 v161 v162 v163 v164 v165 v166 v167 v168 v169 v170 v171 v172 v173 v174 v175 v176 v177 v178 v179 v180 v181 v182 v183 v184 v185 v186 v187 v188 V hb => ?_)
    go_ret
    exact ⟨rfl, hb⟩
  · have e3 : (t3 == 0) = false := by rw [beq_eq_false_iff_ne]; exact h3
    have K4 := Lib.hid K1.out
    have HSt := Lib.hid Hf0.out.std
    clear h3 K1 CW3 g1 g2 g3
    go_upto_region 9 with fail
    refine srL _ _ _ _ _ _ _ _ _ _ _ _ _ _ _ _ _ _ _ _ _ _ _ _ _ _ _ _ _ _ _ _ _ _ _ _ _ _ _ _ _ _ _ _ _ _ _ _ _ _ _ _ _ _ _ _ _ _ _ _ _ _ _ _ _ _ _ _ _ _ _ _ _ _ _ _ _ _ _ _ _ _ _ _ _ _ _ _ _ _ _ _ _ _ _ _ _ _ _ _ _ _ _ _ _ _ _ _ _ _ _ _ _ _ _ _ _ _ _ _ _ _ _ _ _ _ _ _ _ _ _ _ _ _ _ _ _ _ _ _ _ _ _ _ _ _ _ _ _ _ _ _ _ _ _ _ _ _ _ _ _ _ _ _ _ _ _ _ _ _ _ _ _ _ _ _ _ _ _ _ _ _ _ _ _ _ _ _ hm8 hDm hll HSt.out.n K4.out (fun v53 v54 v55 v56 mb V5 k5 s5 => ?_)
    have K5 := Lib.hid k5
    have S5 := Lib.hid s5
    clear k5 s5 K4
    refine ‹∀ (a : Act) (w : World), Code.wp Try.prog _ _ a w → _› _ _ ?_
    refine sr10 _ _ _ _ _ _ _ _ _ _ _ _ _ _ _ _ _ _ _ _ _ _ _ _ _ _ _ _ _ _ _ _ _ _ _ _ _ _ _ _ _ _ _ _ _ _ _ _ _ _ _ _ _ _ _ _ _ _ _ _ _ _ _ _ _ _ _ _ _ _ _ _ _ _ _ _ _ _ _ _ _ _ _ _ _ _ _ _ _ _ _ _ _ _ _ _ _ _ _ _ _ _ _ _ _ _ _ _ _ _ _ _ _ _ _ _ _ _ _ _ _ _ _ _ _ _ _ _ _ _ _ _ _ _ _ _ _ _ _ _ _ _ _ _ _ _ _ _ _ _ _ _ _ _ _ _ _ _ _ _ _ _ _ _ _ _ _ _ _ _ _ _ _ _ _ _ _ _ _ _ _ _ _ Gr'.out hm8 hDm Hz.out hcl hll HSt.out hat hr K5.out S5.out (fun v0 v1 v2 v3 v4 v5 v6 v7 v8 v9 v10 v11 v12 v13 v15 v16 v17 v18 v19 v20 v21 v22 v23 v24 v25 v26 v27 v28 v29 v30 v31 v32 v33 v34 v35 v36 v37 v38 v39 v40 v41 v42 v43 v44 v45 v46 v47 v48 v49 v50 v51 v52 v53 v54 v55 v56 v57 v58 v59 v60 v61 v62 v63 v64 v65 v66 v67 v68 v69 v70 v71 v72 v73 v74 v75 v76 v77 v78 v79 v80 v81 v82 v83 v84 v85 v86 v87 v88 v89 v90 v91 v92 v93 v94 v95 v96 v97 v98 v99 v100 v101 v102 v103 v104 v105 v106 v107 v108 v109 v110 v111 v112 v113 v114 v115 v116 v117 v118 v119 v120 v121 v122 v123 v124 v125 v126 v127 v128 v129 v130 v131 v132 v133 v134 v135 v136 v137 v138 v139 v140 v141 v142 v143 v144 v145 v146 v147 v148 v149 v150 v151 v152 v153 v154 v155 v156 v157 v158 v159 v160 v161 v162 v163 v164 v165 v166 v167 v168 v169 v170 v171 v172 v173 v174 v175 v176 v177 v178 v179 v180 v181 v182 v183 v184 v185 v186 v187 v188 V hb => ?_)
    go_ret
    exact ⟨rfl, hb⟩
end Go.Proofs.Ytpaegibaikpikaa
end
