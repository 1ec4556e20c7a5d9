/- StripeWrites: from the data on. -/
import Derived.Test.YtpaegibaikpikaaStripeWritesLoop
import Derived.Test.YtpaegibaikpikaaSbbh
set_option linter.unusedVariables false
set_option linter.unusedSimpArgs false
namespace Go.Proofs.Ytpaegibaikpikaa
open Go.RowKit

set_option maxRecDepth 100000 in
set_option maxHeartbeats 3200000 in
theorem sw12 {W0 : World} {n l c r r1 : Int} {D F W b gb gl cz cm c0 : Nat} {A B : Option Addr} {zs zm : List Int} {lv : List Bool} {H : BH} {N : Bch} {w : World} (u0 u3 u4 u6 u7 u8 u9 u10 u11 u12 u13 u14 u19 u20 u21 u22 u23 u24 u25 u26 u27 u28 u29 u30 u31 u32 u33 u34 u35 u36 u37 u38 u39 u40 u41 u42 u43 u44 u45 u46 u47 u48 u49 u50 u51 u52 u53 u54 u55 u56 u57 u58 u59 u60 u61 u62 u63 u64 u65 u66 u67 u68 u69 u70 u71 u72 u73 u74 u75 u76 u77 u78 u79 u80 u81 u82 u83 u84 u85 u86 u87 u88 u89 u90 u91 u92 u93 u94 u95 u96 u97 u98 u99 u100 u101 u102 u103 u104 u105 u106 u107 u108 u109 u110 u111 u112 u113 u114 u115 u116 u117 u118 u119 u120 u121 u122 u123 u124 u125 u126 u127 u128 u129 u130 u131 u132 u133 u134 u135 u136 u137 u138 u139 u140 u141 u142 u143 u144 u145 u146 u147 u148 u149 u150 u151 u152 u153 u154 u155 u156 u157 u158 u159 u160 u161 u162 u163 u164 u165 : Value) (Q : Exit → Act → World → Prop) (gr : Gr n l c r D F W) (hz : RdZ W0 W0.heap.size A zs) (hcz : zs.length ≤ cz) (hzm : RdZ W0 W0.heap.size B zm) (hll : lv.length = D) (hsd : Sd N D D (rowL l c D W zs)) (hr1 : -1 ≤ r1 ∧ r1 ≤ 16) (hc0 : c0 ≤ 8) (hk : KS W0 w b H N [(gl, Obj.cells (lv.map Value.bool).toArray 4 (0, 0)), (gb, Obj.cells #[.int .i64 l, .int .i64 (D : Int), .int .i64 c] 24 (0, 0))] [] [])
    (hQ : ∀ (v0 v1 v2 v3 v4 v5 v6 v7 v8 v9 v10 v11 v12 v13 v15 v16 v17 v18 v19 v20 v21 v22 v23 v24 v25 v26 v27 v28 v29 v30 v31 v32 v33 v34 v35 v36 v37 v38 v39 v40 v41 v42 v43 v44 v45 v46 v47 v48 v49 v50 v51 v52 v53 v54 v55 v56 v57 v58 v59 v60 v61 v62 v63 v64 v65 v66 v67 v68 v69 v70 v71 v72 v73 v74 v75 v76 v77 v78 v79 v80 v81 v82 v83 v84 v85 v86 v87 v88 v89 v90 v91 v92 v93 v94 v95 v96 v97 v98 v99 v100 v101 v102 v103 v104 v105 v106 v107 v108 v109 v110 v111 v112 v113 v114 v115 v116 v117 v118 v119 v120 v121 v122 v123 v124 v125 v126 v127 v128 v129 v130 v131 v132 v133 v134 v135 v136 v137 v138 v139 v140 v141 v142 v143 v144 v145 v146 v147 v148 v149 v150 v151 v152 v153 v154 v155 v156 v157 v158 v159 v160 v161 v162 v163 v164 v165 : Value) (V : World), Below W0.heap.size W0 V → Q .ret ⟨List.toArray (v0 :: v1 :: v2 :: v3 :: v4 :: v5 :: v6 :: v7 :: v8 :: v9 :: v10 :: v11 :: v12 :: v13 :: (.bool true) :: v15 :: v16 :: v17 :: v18 :: v19 :: v20 :: v21 :: v22 :: v23 :: v24 :: v25 :: v26 :: v27 :: v28 :: v29 :: v30 :: v31 :: v32 :: v33 :: v34 :: v35 :: v36 :: v37 :: v38 :: v39 :: v40 :: v41 :: v42 :: v43 :: v44 :: v45 :: v46 :: v47 :: v48 :: v49 :: v50 :: v51 :: v52 :: v53 :: v54 :: v55 :: v56 :: v57 :: v58 :: v59 :: v60 :: v61 :: v62 :: v63 :: v64 :: v65 :: v66 :: v67 :: v68 :: v69 :: v70 :: v71 :: v72 :: v73 :: v74 :: v75 :: v76 :: v77 :: v78 :: v79 :: v80 :: v81 :: v82 :: v83 :: v84 :: v85 :: v86 :: v87 :: v88 :: v89 :: v90 :: v91 :: v92 :: v93 :: v94 :: v95 :: v96 :: v97 :: v98 :: v99 :: v100 :: v101 :: v102 :: v103 :: v104 :: v105 :: v106 :: v107 :: v108 :: v109 :: v110 :: v111 :: v112 :: v113 :: v114 :: v115 :: v116 :: v117 :: v118 :: v119 :: v120 :: v121 :: v122 :: v123 :: v124 :: v125 :: v126 :: v127 :: v128 :: v129 :: v130 :: v131 :: v132 :: v133 :: v134 :: v135 :: v136 :: v137 :: v138 :: v139 :: v140 :: v141 :: v142 :: v143 :: v144 :: v145 :: v146 :: v147 :: v148 :: v149 :: v150 :: v151 :: v152 :: v153 :: v154 :: v155 :: v156 :: v157 :: v158 :: v159 :: v160 :: v161 :: v162 :: v163 :: v164 :: v165 :: []), []⟩ V) :
    Code.wp Try.prog (sub [1, 1, 1, 1, 1, 1, 1, 1, 1] codeSW) Q ⟨List.toArray (u0 :: (.slice A zs.length cz) :: (.slice B zm.length cm) :: u3 :: u4 :: (.int .i64 r1) :: u6 :: u7 :: u8 :: u9 :: u10 :: u11 :: u12 :: u13 :: u14 :: (.pointer (some ⟨gb, 0, none⟩)) :: (.pointer (some ⟨b, 0, none⟩)) :: (.slice (some ⟨gl, 0, none⟩) D D) :: (.int .i64 ((c0 : Nat) : Int)) :: u19 :: u20 :: u21 :: u22 :: u23 :: u24 :: u25 :: u26 :: u27 :: u28 :: u29 :: u30 :: u31 :: u32 :: u33 :: u34 :: u35 :: u36 :: u37 :: u38 :: u39 :: u40 :: u41 :: u42 :: u43 :: u44 :: u45 :: u46 :: u47 :: u48 :: u49 :: u50 :: u51 :: u52 :: u53 :: u54 :: u55 :: u56 :: u57 :: u58 :: u59 :: u60 :: u61 :: u62 :: u63 :: u64 :: u65 :: u66 :: u67 :: u68 :: u69 :: u70 :: u71 :: u72 :: u73 :: u74 :: u75 :: u76 :: u77 :: u78 :: u79 :: u80 :: u81 :: u82 :: u83 :: u84 :: u85 :: u86 :: u87 :: u88 :: u89 :: u90 :: u91 :: u92 :: u93 :: u94 :: u95 :: u96 :: u97 :: u98 :: u99 :: u100 :: u101 :: u102 :: u103 :: u104 :: u105 :: u106 :: u107 :: u108 :: u109 :: u110 :: u111 :: u112 :: u113 :: u114 :: u115 :: u116 :: u117 :: u118 :: u119 :: u120 :: u121 :: u122 :: u123 :: u124 :: u125 :: u126 :: u127 :: u128 :: u129 :: u130 :: u131 :: u132 :: u133 :: u134 :: u135 :: u136 :: u137 :: u138 :: u139 :: u140 :: u141 :: u142 :: u143 :: u144 :: u145 :: u146 :: u147 :: u148 :: u149 :: u150 :: u151 :: u152 :: u153 :: u154 :: u155 :: u156 :: u157 :: u158 :: u159 :: u160 :: u161 :: u162 :: u163 :: u164 :: u165 :: []), []⟩ w := by
  have HQ := Lib.hid hQ
  clear hQ
  conv => arg 2; whnf
  have hd8 := gr.d8
  have hd3 := gr.d3
  have hw7 := gr.w7
  have L1 := gr.l64
  have L2 := gr.d64
  have L3 := gr.c64
  have HWk := Lib.hid (fun V => wakesStp_any V)
  have CSc := Lib.hid (ks_sectors hk zm.length cm c0 rfl hzm hc0)
  obtain ⟨g1, g2, g3⟩ := hk.gat (g := gb) (l := l) (d := (D : Int)) (c := c) (t := 24) (f := (0, 0)) (by simp)
  have Gr' := Lib.hid gr
  have Hz := Lib.hid hz
  have HSd := Lib.hid hsd
  have HPs : Hid (∀ i, i < N.n → (N.D i).ps.length ≤ 1999990) := fun i hi => by rw [hsd.ps i (by rw [hsd.std.n] at hi; exact hi)]; exact Nat.zero_le _
  have HDn : Hid (N.done ≤ 1999990) := by show N.done ≤ _; rw [hsd.done]; omega
  clear hk hz hzm hsd gr
  go_wp2_with fail
  (with_reducible refine CSc.out.mono ?_); rintro e w1 ⟨A19, c19, rfl, k1⟩
  have hdl := sectorsB_len zm c0
  have hdm := @sectorsB_mem zm c0
  generalize sectorsB zm c0 = dat at k1 hdl hdm
  have hrd := k1.rd (A := A19) (rs := dat) (by simp)
  obtain ⟨g4, g5, g6⟩ := k1.gat (g := gb) (l := l) (d := (D : Int)) (c := c) (t := 24) (f := (0, 0)) (by simp)
  have K1 := Lib.hid k1
  have Hdl := Lib.hid hdl
  have Hdm := Lib.hid hdm
  cases hok : fillOk l (D : Int) c r1 dat with
  | false =>
    have CF := refFill_any A19 dat c0 c19 l (D : Int) c r1 w1 hdl (by omega) hrd hdm L1 L2 L3 (by omega)
    rw [roFill_no (by simp [hok])] at CF
    have CF := Lib.hid CF
    have CWf := Lib.hid (fun V (hb : Below w1.heap.size w1 V) => ks_refused (K1.out.below hb) lv (some ⟨gl, 0, none⟩) D D hll.symm ((K1.out.below hb).lv (g := gl) (t := 4) (f := (0, 0)) (lv := lv) (by simp) rfl (by omega)) A19 dat c0 c19 hdl (by omega) ((K1.out.below hb).rd (A := A19) (rs := dat) (by simp)) l (D : Int) c r1 L1 L2 L3 (by omega) HPs.out HDn.out hok)
    clear k1 hdl hdm hrd hok CSc g1 g2 g3
    go_wp2_with fail
    (with_reducible refine CF.out.mono ?_); rintro e w2 ⟨rfl, hb2⟩
    have CW := Lib.hid (CWf.out _ hb2)
    obtain ⟨g1, g2, g3⟩ := (K1.out.below hb2).gat (g := gb) (l := l) (d := (D : Int)) (c := c) (t := 24) (f := (0, 0)) (by simp)
    clear hb2 CF CWf g4 g5 g6
    go_wp2_with fail
    (with_reducible refine CW.out.mono ?_); rintro e w3 ⟨rfl, H3, k3⟩
    have CP := bp_pending_eq W0 w3 b H3 N k3.bp (fun i hi => Nat.le_trans (HPs.out i hi) (by omega))
    rw [pend_none HSd.out.std.n HSd.out.ps] at CP
    have CP := Lib.hid CP
    have F5 := Lib.hid k3.bp.bel
    clear k3 CW g1 g2 g3
    go_wp2_with fail
    (with_reducible refine CP.out.mono ?_); rintro e w4 ⟨rfl, rfl⟩
    go_wp2_with fail
    (with_reducible refine (HWk.out _).mono ?_); rintro e wk ⟨rfl, hbk⟩
    have Fk := F5.out.trans (hbk.mono F5.out.size)
    go_wp2_with fail
    exact HQ.out _ _ _ _ _ _ _ _ _ _ _ _ _ _ _ _ _ _ _ _ _ _ _ _ _ _ _ _ _ _ _ _ _ _ _ _ _ _ _ _ _ _ _ _ _ _ _ _ _ _ _ _ _ _ _ _ _ _ _ _ _ _ _ _ _ _ _ _ _ _ _ _ _ _ _ _ _ _ _ _ _ _ _ _ _ _ _ _ _ _ _ _ _ _ _ _ _ _ _ _ _ _ _ _ _ _ _ _ _ _ _ _ _ _ _ _ _ _ _ _ _ _ _ _ _ _ _ _ _ _ _ _ _ _ _ _ _ _ _ _ _ _ _ _ _ _ _ _ _ _ _ _ _ _ _ _ _ _ _ _ _ _ _ _ _ _ Fk
  | true =>
    obtain ⟨hT, hcW, _⟩ := fillOk_yes hok
    obtain ⟨ρ, rfl⟩ := Int.eq_ofNat_of_zero_le (plOk_yes hT).2.1
    have hρ : ρ < 16 := by have := (plOk_yes hT).2.2; omega
    have grs := Gr'.out.at hρ
    rw [grs.eW, hdl] at hcW
    obtain rfl : c0 = W := hcW
    have CF := Lib.hid (refFill_good (cp := c19) hrd hdl hok grs.eD rfl L1 L2 L3 grs.r64)
    have hfx := fillL_len D (roF l (D : Int) c (ρ : Int)) dat
    have h32 := fun i (hi : i < D) => grs.fills hdl hdm hi
    obtain ⟨e0, sg⟩ := swr_good (N := N) (lv := lv) grs hdl hdm HSd.out.std.dn HSd.out.lf
    rw [show ((ρ : Int)).toNat = ρ from rfl] at sg
    have CWf := fun V (k : KS W0 V b H N [(gl, Obj.cells (lv.map Value.bool).toArray 4 (0, 0)), (gb, Obj.cells #[.int .i64 l, .int .i64 (D : Int), .int .i64 c] 24 (0, 0))] [(A19, dat)] []) => ks_write k lv (some ⟨gl, 0, none⟩) D D hll.symm (k.lv (g := gl) (t := 4) (f := (0, 0)) (lv := lv) (by simp) rfl (by omega)) A19 dat c0 c19 hdl (by omega) (k.rd (A := A19) (rs := dat) (by simp)) l (D : Int) c (ρ : Int) L1 L2 L3 grs.r64 HPs.out HDn.out
    have CWg := fun V (gx : Nat) (k : KS W0 V b H N [(gl, Obj.cells (lv.map Value.bool).toArray 4 (0, 0)), (gb, Obj.cells #[.int .i64 l, .int .i64 (D : Int), .int .i64 c] 24 (0, 0))] [(some ⟨gx, 0, none⟩, fillL D (roF l (D : Int) c (ρ : Int)) dat), (A19, dat)] []) => ks_write k lv (some ⟨gl, 0, none⟩) D D hll.symm (k.lv (g := gl) (t := 4) (f := (0, 0)) (lv := lv) (by simp) rfl (by omega)) A19 dat c0 c19 hdl (by omega) (k.rd (A := A19) (rs := dat) (by simp)) l (D : Int) c (ρ : Int) L1 L2 L3 grs.r64 HPs.out HDn.out
    have hpdn := offs_cnt sg (fun i hi => HSd.out.ps i hi) D (Nat.le_refl _)
    have hsec := fun i (hi : i < D) (hf : ((swrS N lv l (D : Int) c (ρ : Int) dat).2.D i).f = false) => written_sec HSd.out sg hρ h32 hi hf
    have hn1 := sg.n.trans HSd.out.std.n
    have hdn1 := sg.dn
    have hgc := gonL_cnt (swrS N lv l (D : Int) c (ρ : Int) dat).2 lv D
    have hsv := sg.srv
    have hps1 : ∀ i, i < (swrS N lv l (D : Int) c (ρ : Int) dat).2.n → ((swrS N lv l (D : Int) c (ρ : Int) dat).2.D i).ps.length ≤ 2000000 := fun i hi => by
      rw [sg.D i]
      rw [hn1] at hi
      split
      · show ((N.D i).ps ++ [_]).length ≤ _; rw [HSd.out.ps i hi]; simp
      · rw [HSd.out.ps i hi]; simp
    have hfp := fun M2 f => flush_pend (M2 := M2) sg (fun i hi => HSd.out.ps i hi) HSd.out.std.n f
    rw [e0] at CWg
    generalize fillL D (roF l (D : Int) c (ρ : Int)) dat = fx at CF hfx h32 CWg hsec
    generalize swrS N lv l (D : Int) c (ρ : Int) dat = q1 at CWg hpdn hsec hn1 hdn1 hgc hsv hps1 hfp
    obtain ⟨e1, N1⟩ := q1
    dsimp only at CWg hpdn hsec hn1 hdn1 hgc hsv hps1 hfp
    have hpend : N1.pend = cntB D (srvD N lv) := by unfold Bch.pend; rw [hn1]; exact hpdn
    rw [cntB_congr (b' := srvD N lv) fun i _ => hsv i, ← hpend] at hgc
    have CWg := Lib.hid CWg
    have Hsec := Lib.hid hsec
    have H32 := Lib.hid h32
    have Hps1 := Lib.hid hps1
    have Hfp := Lib.hid hfp
    clear CWf k1 hrd hok CSc g1 g2 g3 sg hpdn hsec hsv hps1 hfp h32 e0 hT hpend hdl hdm
    go_wp2_with fail
    (with_reducible refine CF.out.mono ?_); rintro e w2 ⟨gx, xs2, rfl, hq, hb2⟩
    have k2 := K1.out.rows hb2 (hq.rdf (by omega))
    have CW := Lib.hid (CWg.out _ gx k2)
    obtain ⟨g1, g2, g3⟩ := k2.gat (g := gb) (l := l) (d := (D : Int)) (c := c) (t := 24) (f := (0, 0)) (by simp)
    clear hb2 CF CWg g4 g5 g6 k2 hq K1
    go_wp2_with fail
    (with_reducible refine CW.out.mono ?_); rintro e w3 ⟨rfl, H3, k3⟩
    have CL := Lib.hid (ks_lost k3 lv (some ⟨gl, 0, none⟩) D D hll.symm (k3.lv (g := gl) (t := 4) (f := (0, 0)) (lv := lv) (by simp) rfl (by omega)) l c D (by rw [hn1]; exact Nat.le_refl _) (by omega))
    obtain ⟨g4, g5, g6⟩ := k3.gat (g := gb) (l := l) (d := (D : Int)) (c := c) (t := 24) (f := (0, 0)) (by simp)
    clear k3 CW g1 g2 g3
    go_wp2_with fail
    (with_reducible refine CL.out.mono ?_); rintro e w4 ⟨mb, rfl, k4, s4⟩
    have K4 := Lib.hid (k4.less (K' := [(gl, Obj.cells (lv.map Value.bool).toArray 4 (0, 0)), (gb, Obj.cells #[.int .i64 l, .int .i64 (D : Int), .int .i64 c] 24 (0, 0))]) (R' := [(some ⟨gx, 0, none⟩, fx)]) (S' := []) (fun _ h => h) (fun _ h => by simp at h ⊢; simp [h]) (fun _ h => h))
    have S4 := Lib.hid s4
    obtain ⟨g1, g2, g3⟩ := k4.gat (g := gb) (l := l) (d := (D : Int)) (c := c) (t := 24) (f := (0, 0)) (by simp)
    have CPn := Lib.hid (fun n => Calls.quiet_of_same (bp_pending_eq W0 (w4.drewN n) b H3 N1 (K4.out.bp.grow (belowN _ _ n)) Hps1.out))
    have hlen : ∀ n ty, (Builtin.len_ #[58] ty #[.map (some mb)]).run Try.prog (w4.drewN n) = .ok (.int .i64 (((gonL N1 lv D).length : Nat) : Int)) (w4.drewN n) := fun n ty => (S4.out.below (belowN _ _ n)).len ty
    have hgl := gonL_len N1 lv D
    generalize N1.pend = P at hgc CPn
    have Hmem := Lib.hid (show True from trivial)
    obtain ⟨Gl, hGl⟩ : ∃ Gl, (gonL N1 lv D).length = Gl := ⟨_, rfl⟩
    rw [hGl] at hgc hlen hgl
    have hsub : (D : Int) - (Gl : Int) = (P : Int) := by omega
    have hwr : IntKind.i64.wrap ((D : Int) - (Gl : Int)) = (P : Int) := by rw [IntKind.wrap_i64]; omega
    clear k4 s4 CL g4 g5 g6 hGl hgc
    go_wp2_with fail
    go_quiet ((go_at_call 33; exact CPn.out _))
    have K5 := Lib.hid (K4.out.below (belowN _ _ nq))
    have S5 := Lib.hid (S4.out.below (belowN _ _ nq))
    clear K4 S4 CPn hlen hsub hwr
    go_upto_block 0 with fail
    generalize w4.drewN nq = w5 at K5 S5 ⊢
    refine wp_block ?_
    refine swA _ _ _ _ _ _ _ _ _ _ _ _ _ _ _ _ _ _ _ _ _ _ _ _ _ _ _ _ _ _ _ _ _ _ _ _ _ _ _ _ _ _ _ _ _ _ _ _ _ _ _ _ _ _ _ _ _ _ _ _ _ _ _ _ _ _ _ _ _ _ _ _ _ _ _ _ _ _ _ _ _ _ _ _ _ _ _ _ _ _ _ _ _ _ _ _ _ _ _ _ _ _ _ _ _ _ _ _ _ _ _ _ _ _ _ _ _ _ _ _ _ _ _ _ _ _ _ _ _ _ _ _ _ _ _ _ _ _ _ _ _ _ _ _ _ _ _ _ _ _ _ _ _ _ _ _ _ _ _ _ grs hρ Hz.out hcz hfx H32.out hn1 hdn1 Hsec.out ⟨Nat.zero_le _, K5.out, S5.out⟩ (fun v14 v25 v26 v27 v28 v29 v107 v108 v109 v110 v111 v112 v113 v114 v115 v116 v117 v118 v119 v120 v121 v122 v123 v124 v125 v126 v127 v128 v129 v130 v131 v132 v133 v134 v135 v136 v137 v138 v139 v140 v141 v142 v143 v144 v145 v146 v147 v148 v149 v150 v151 v152 d V6 hI hx => ?_)
    obtain ⟨_, k6, _⟩ := hI
    have CFl := ks_flush k6 lv (some ⟨gl, 0, none⟩) D D hll.symm (k6.lv (g := gl) (t := 4) (f := (0, 0)) (lv := lv) (by simp) rfl (by omega))
    obtain ⟨f0, fg⟩ := sfl_good (N := N1) (lv := lv) hdn1
    have hp2 := Hfp.out _ fg
    have hps2 : ∀ i, i < (sflS N1 lv).2.n → ((sflS N1 lv).2.D i).ps.length ≤ 2000000 := fun i hi => by
      rw [fg.D i]
      rw [fg.n] at hi
      unfold flD Dsk.flushE
      repeat' split
      · exact Hps1.out i hi
      · show ([] : List (Nat × List UInt8)).length ≤ _; simp
      · exact Hps1.out i hi
    rw [f0] at CFl
    generalize sflS N1 lv = q2 at CFl hp2 hps2
    obtain ⟨e2, N2⟩ := q2
    dsimp only at CFl hp2 hps2
    have CFl := Lib.hid CFl
    have Hps2 := Lib.hid hps2
    have Hp2 := Lib.hid hp2
    clear k6 f0 fg hp2 hps2 K5 S5 hx g1 g2 g3
    go_wp2_with fail
    (with_reducible refine CFl.out.mono ?_); rintro e w7 ⟨rfl, H7, k7⟩
    have CP := bp_pending_eq W0 w7 b H7 N2 k7.bp Hps2.out
    rw [Hp2.out] at CP
    have CP := Lib.hid CP
    have F5 := Lib.hid k7.bp.bel
    clear k7 CFl
    go_wp2_with fail
    (with_reducible refine CP.out.mono ?_); rintro e w8 ⟨rfl, rfl⟩
    go_wp2_with fail
    (with_reducible refine (HWk.out _).mono ?_); rintro e wk ⟨rfl, hbk⟩
    have Fk := F5.out.trans (hbk.mono F5.out.size)
    go_wp2_with fail
    exact HQ.out _ _ _ _ _ _ _ _ _ _ _ _ _ _ _ _ _ _ _ _ _ _ _ _ _ _ _ _ _ _ _ _ _ _ _ _ _ _ _ _ _ _ _ _ _ _ _ _ _ _ _ _ _ _ _ _ _ _ _ _ _ _ _ _ _ _ _ _ _ _ _ _ _ _ _ _ _ _ _ _ _ _ _ _ _ _ _ _ _ _ _ _ _ _ _ _ _ _ _ _ _ _ _ _ _ _ _ _ _ _ _ _ _ _ _ _ _ _ _ _ _ _ _ _ _ _ _ _ _ _ _ _ _ _ _ _ _ _ _ _ _ _ _ _ _ _ _ _ _ _ _ _ _ _ _ _ _ _ _ _ _ _ _ _ _ _ Fk
end Go.Proofs.Ytpaegibaikpikaa
