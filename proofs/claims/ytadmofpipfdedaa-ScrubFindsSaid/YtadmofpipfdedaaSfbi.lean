/- Texts put together: ScrubFindsLaw. -/
import Derived.Test.YtadmofpipfdedaaSfbh
import Derived.Test.YtadmofpipfdedaaSfbc
import Derived.Test.YtadmofpipfdedaaSfag
import Derived.Test.YtadmofpipfdedaaSfac
import Derived.Test.YtadmofpipfdedaaSfbg
import Derived.Carry
section
set_option linter.unusedVariables false
set_option linter.unusedSimpArgs false
namespace Go.Proofs.Ytadmofpipfdedaa
open Go.RowKit

set_option maxRecDepth 100000 in
set_option maxHeartbeats 3200000 in
theorem scrubfinds (m n split : Int) (A : Option Addr) (zl : List Int) (cl : Nat) (A2 : Option Addr) (zs : List Int) (c2 : Nat) (lose : Int) (w : World) (hm : (-9223372036854775808 ≤ m ∧ m ≤ 9223372036854775807)) (hn : (-9223372036854775808 ≤ n ∧ n ≤ 9223372036854775807)) (hsp : (-9223372036854775808 ≤ split ∧ split ≤ 9223372036854775807)) (hcl : zl.length ≤ cl) (hzl : RdZ w w.heap.size A zl) (hc2 : zs.length ≤ c2) (hzs : RdZ w w.heap.size A2 zs) (hlo : (-9223372036854775808 ≤ lose ∧ lose ≤ 9223372036854775807)) :
    Calls Try.prog 8 #[.int .i64 m, .int .i64 n, .int .i64 split, .slice A zl.length cl, .slice A2 zs.length c2, .int .i64 lose] w fun e w' => e = .returned (.bool true) ∧ Below w.heap.size w w' := by
  have Hzs := Lib.hid hzs
  clear hzs
  have hpn := ptr_eq
  have CP := Lib.hid (fun V => playPair_can m n V hm hn)
  have bs := withinI_bd split 17 (by omega)
  have CS := Lib.hid (fun V => within_any split 17 V hsp (by omega))
  generalize withinI split 17 = s at bs CS
  have hs16 : 0 ≤ s ∧ s ≤ 16 := by omega
  have Hz := Lib.hid hzl
  clear hzl bs
  go_enter Try.func8, Try.ntmps8
  go_wp2_with fail
  (with_reducible refine (CP.out _).mono ?_); rintro e w1 ⟨l, dd, c, l', d', c', rfl, hc, hb⟩
  obtain ⟨hg1, hg2, _, hdd, hll, _⟩ := gCan_parts hc
  have hb1 := gOk_bd hg1
  have hb2 := gOk_bd hg2
  obtain ⟨D, rfl⟩ := Int.eq_ofNat_of_zero_le (show 0 ≤ dd by omega)
  obtain ⟨D', rfl⟩ := Int.eq_ofNat_of_zero_le (show 0 ≤ d' by omega)
  have hDD : D ≤ D' := by omega
  have B2 := below2 w1 (.cells #[.int .i64 l, .int .i64 (D : Int), .int .i64 c] 25) (.cells #[.int .i64 l', .int .i64 (D' : Int), .int .i64 c'] 25)
  have hB12 := hb.trans (B2.mono hb.size)
  have HB := Lib.hid hB12
  have O1 := Lib.hid (show ((w1.alloc (.cells #[.int .i64 l, .int .i64 (D : Int), .int .i64 c] 25)).alloc (.cells #[.int .i64 l', .int .i64 (D' : Int), .int .i64 c'] 25)).heap[w1.heap.size]? = some (Obj.cells #[.int .i64 l, .int .i64 (D : Int), .int .i64 c] 25 (0, 0)) from (hp_old _ _ _ (by simp)).trans (hp_new _ _ _ rfl))
  have O2 := Lib.hid (show ((w1.alloc (.cells #[.int .i64 l, .int .i64 (D : Int), .int .i64 c] 25)).alloc (.cells #[.int .i64 l', .int .i64 (D' : Int), .int .i64 c'] 25)).heap[w1.heap.size + 1]? = some (Obj.cells #[.int .i64 l', .int .i64 (D' : Int), .int .i64 c'] 25 (0, 0)) from hp_new _ _ _ (by simp))
  have hw1 := hb.size
  obtain ⟨G, hGd⟩ : ∃ G : RG, G = ⟨l, (D : Int), c, l', (D' : Int), c', s⟩ := ⟨_, rfl⟩
  have hG : G.ok = true := by rw [hGd]; exact RG.ok_mk hg1 hs16.1 hs16.2 (.inr hg2)
  have h64 : RG64 G := by rw [hGd]; exact rg64_3 ⟨⟨by omega, by omega, by omega⟩, ⟨by omega, by omega, by omega⟩, by omega⟩
  have hle : ∀ t, t < 16 → G.D t ≤ (D' : Int) := fun t _ => by
    rw [hGd]; unfold RG.D rg; dsimp only; split <;> omega
  have CB := both_any G hG h64 D' hle (by omega) (by omega) A zl zl.length cl ((w1.alloc (.cells #[.int .i64 l, .int .i64 (D : Int), .int .i64 c] 25)).alloc (.cells #[.int .i64 l', .int .i64 (D' : Int), .int .i64 c'] 25)) rfl hcl ((Hz.out.below HB.out (Nat.le_refl _)).keep HB.out.size fun _ _ => rfl)
  have HGe := Lib.hid (show (((G.l = l ∧ G.d = (D : Int)) ∧ G.c = c) ∧ (G.l' = l' ∧ G.d' = (D' : Int)) ∧ G.c' = c') ∧ G.s = s from by rw [hGd]; exact ⟨⟨⟨⟨rfl, rfl⟩, rfl⟩, ⟨rfl, rfl⟩, rfl⟩, rfl⟩)
  rw [HGe.out.1.1.1.1, HGe.out.1.1.1.2, HGe.out.1.1.2, HGe.out.1.2.1.1, HGe.out.1.2.1.2, HGe.out.1.2.2, HGe.out.2] at CB
  have CB := Lib.hid CB
  have HG := Lib.hid hG
  have H64 := Lib.hid h64
  have Hle := Lib.hid hle
  clear CP hc B2 hb hB12 hGd hG h64 hle
  go_wp2_with fail
  (with_reducible refine (CS.out _).mono ?_); rintro e w2 ⟨rfl, h2⟩
  have hw2 := h2.symm
  subst hw2
  clear h2 CS
  go_wp2_with fail
  (with_reducible refine CB.out.mono ?_); rintro e w2 ⟨b, H, N, rfl, kb, fb⟩
  have k0 := kb.open2 HB.out O1.out O2.out hw1 (by omega)
  have K0 := Lib.hid k0
  have Fb0 := Lib.hid fb
  have hNn := fb.gd.n
  obtain ⟨g1, g2, g3⟩ := k0.gat (g := w1.heap.size) (l := l) (d := (D : Int)) (c := c) (t := 25) (f := (0, 0)) (by simp)
  obtain ⟨g4, g5, g6⟩ := k0.gat (g := w1.heap.size + 1) (l := l') (d := (D' : Int)) (c := c') (t := 25) (f := (0, 0)) (by simp)
  clear kb fb k0 CB HB O1 O2 hw1
  have CL := Lib.hid (ks_live K0.out 0 D' (by omega) (by omega))
  clear K0
  go_wp2_with fail
  (with_reducible refine CL.out.mono ?_); rintro e w3 ⟨gl, rfl, k1⟩
  obtain ⟨km, mi⟩ := MI.new k1
  have K1 := Lib.hid km
  have M1 := Lib.hid mi
  clear g1 g2 g3 g4 g5 g6
  clear CL k1 km mi
  have HGd := Lib.hid (show G = ⟨l, (D : Int), c, l', (D' : Int), c', s⟩ from by
    have h := HGe.out
    rcases G with ⟨a1, a2, a3, a4, a5, a6, a7⟩
    dsimp only at h
    obtain ⟨⟨⟨⟨h1, h2⟩, h3⟩, ⟨h4, h5⟩, h6⟩, h7⟩ := h
    rw [h1, h2, h3, h4, h5, h6, h7])
  have hl0 : (liveL 0 D').length = D' := liveL_len _ _
  have hmm := @run_makeMap Try.prog
  go_upto_block 0 with fail
  clear hmm
  refine wp_block ?_
  refine sfA _ _ _ _ _ _ _ _ _ _ _ _ _ _ _ _ _ _ _ _ _ _ _ _ _ _ _ _ _ _ _ _ _ _ _ _ _ _ _ _ _ _ _ _ _ _ _ _ _ _ _ _ _ _ _ _ _ _ _ _ _ _ _ _ _ _ _ _ _ _ _ _ _ _ _ _ _ _ _ _ _ _ _ _ _ _ _ _ _ _ _ _ _ _ _ _ _ _ _ _ _ _ _ _ _ _ _ _ _ _ _ _ _ _ _ _ _ _ _ _ _ _ _ _ _ _ _ _ _ _ _ _ _ _ _ _ _ _ _ _ _ _ _ _ _ _ _ _ _ _ _ _ _ _ _ _ _ _ _ _ _ _ _ _ _ _ _ _ _ _ (l := l) (D := D) (c := c) (l' := l') (c' := c') (ga := w1.heap.size) (gt := w1.heap.size + 1) (G := G) (rs := rsZ G zl) (by simp) (by simp) (by omega) hs16 HGd.out HG.out Hle.out Hzs.out ⟨Nat.zero_le _, K1.out, M1.out, Fb0.out.sq Hle.out HG.out⟩ (fun v19 v20 v21 v22 v23 v24 v55 v56 v57 v58 v59 v60 v61 v62 v63 v64 v65 v66 v67 v68 v69 v70 v71 v72 v73 v74 v75 v76 v77 v78 v79 v80 v81 v82 v83 v84 v85 v86 v87 v88 v89 v90 v91 v92 v93 v94 v95 v96 v97 v98 v99 v100 v101 v102 v103 v104 v105 v106 v107 v108 v109 i H2 M2 xs V1 hI hx => ?_)
  obtain ⟨_, k2, m2, q2⟩ := hI
  have K2 := Lib.hid k2
  have MI2 := Lib.hid m2
  have Q2 := Lib.hid q2
  have hM2n := q2.gd.n
  have hlo' := m2.lo
  clear hx k2 m2 q2 K1 M1 Hzs
  have bq := withinI_bd lose 4 (by omega)
  have CQ := Lib.hid (fun V => within_any lose 4 V hlo (by omega))
  generalize withinI lose 4 = qq at bq CQ
  have bg := withinI_bd (lose.tdiv 4) (D' : Int) (by omega)
  have CG := Lib.hid (fun V => within_any (lose.tdiv 4) (D' : Int) V (tdiv_bd lose 4 hlo (by omega)) (by omega))
  obtain ⟨gn, hgn⟩ := Int.eq_ofNat_of_zero_le bg.1
  rw [hgn] at CG bg
  clear hgn
  have hgnD : gn < D' := by omega
  have hwq : IntKind.i64.wrap (lose.tdiv 4) = lose.tdiv 4 := IntWalk.i64_in _ (tdiv_bd lose 4 hlo (by omega))
  go_wp2_with fail
  (with_reducible refine (CQ.out _).mono ?_); rintro e w4 ⟨rfl, h4⟩
  have hw4 := h4.symm
  subst hw4
  clear h4 CQ
  obtain ⟨g1, g2, g3⟩ := K2.out.gat (g := w1.heap.size) (l := l) (d := (D : Int)) (c := c) (t := 25) (f := (0, 0)) (by simp)
  obtain ⟨g4, g5, g6⟩ := K2.out.gat (g := w1.heap.size + 1) (l := l') (d := (D' : Int)) (c := c') (t := 25) (f := (0, 0)) (by simp)
  have hblk := (K2.out.kx.kp (gl, Obj.cells ((liveL 0 D').map Value.bool).toArray 4 (0, 0)) (by simp)).1
  have hbA := (K2.out.kx.kp (w1.heap.size, Obj.cells #[.int .i64 l, .int .i64 (D : Int), .int .i64 c] 25 (0, 0)) (by simp)).1
  have hbT := (K2.out.kx.kp (w1.heap.size + 1, Obj.cells #[.int .i64 l', .int .i64 (D' : Int), .int .i64 c'] 25 (0, 0)) (by simp)).1
  dsimp only at hblk hbA hbT
  have hgA := live_ne hblk hbA
  have hgT := live_ne hblk hbT
  have hmbl : gl ≠ w3.heap.size := MI2.out.ne.2 (gl, Obj.cells ((liveL 0 D').map Value.bool).toArray 4 (0, 0)) (by simp)
  have Hliv := Lib.hid (fun (i : Nat) (hi : i < D') => live0 hi)
  have n0 : (0 : Int) ≤ (gn : Int) := by omega
  have n1 : (gn : Int) < (D' : Int) := by omega
  go_upto_block 2 with fail
  go_cut [25, 112, 113, 114, 115, 116, 117, 118, 119, 120, 121, 122, 123, 124, 125, 126, 127, 128, 129, 130, 131] (fun v25 _ _ _ _ _ _ _ _ _ _ _ _ _ _ _ _ _ _ _ _ W => ∃ (gone : Int) (lv : List Bool) (H5 : BH) (M5 : Bch), v25 = .int .i64 gone ∧ (-1 ≤ gone ∧ gone ≤ 8) ∧ lv.length = D' ∧ KS w W b H5 M5 [(gl, Obj.cells (lv.map Value.bool).toArray 4 (0, 0)), (w1.heap.size, Obj.cells #[.int .i64 l, .int .i64 (D : Int), .int .i64 c] 25 (0, 0)), (w1.heap.size + 1, Obj.cells #[.int .i64 l', .int .i64 (D' : Int), .int .i64 c'] 25 (0, 0))] [] [] ∧ MI W b H5 M5.n [(gl, Obj.cells (lv.map Value.bool).toArray 4 (0, 0)), (w1.heap.size, Obj.cells #[.int .i64 l, .int .i64 (D : Int), .int .i64 c] 25 (0, 0)), (w1.heap.size + 1, Obj.cells #[.int .i64 l', .int .i64 (D' : Int), .int .i64 c'] 25 (0, 0))] w w3.heap.size xs ∧ M5.down = false ∧ (∀ i, i < D' → (i : Int) ≠ gone → M5.D i = M2.D i) ∧ (∀ i, i < D' → srvD M5 lv i = decide ((i : Int) ≠ gone)))
  case first =>
    by_cases hq0 : qq = 0
    · have e0 : (qq == 0) = true := by rw [hq0]; rfl
      clear hq0
      obtain ⟨hc0, hf0, hb0, gg0⟩ := lv_setCell hblk (d := gn) (by rw [hl0]; omega) false
      have K6 := Lib.hid (K2.out.putB gg0 hb0 (by simpa using ⟨Ne.symm hgA, Ne.symm hgT⟩))
      have M6 := Lib.hid (show MI _ b H2 M2.n [(gl, Obj.cells (((liveL 0 D').set gn false).map Value.bool).toArray 4 (0, 0)), (w1.heap.size, Obj.cells #[.int .i64 l, .int .i64 (D : Int), .int .i64 c] 25 (0, 0)), (w1.heap.size + 1, Obj.cells #[.int .i64 l', .int .i64 (D' : Int), .int .i64 c'] 25 (0, 0))] w w3.heap.size xs from ⟨MI2.out.st.kept gg0 (fun e => hmbl (by injection e with e; exact e.symm)), MI2.out.lo, ⟨MI2.out.ne.1, fun q hq => by
        simp only [List.mem_cons, List.not_mem_nil, or_false] at hq
        rcases hq with rfl | rfl | rfl
        · exact hmbl
        · exact MI2.out.ne.2 (w1.heap.size, Obj.cells #[.int .i64 l, .int .i64 (D : Int), .int .i64 c] 25 (0, 0)) (by simp)
        · exact MI2.out.ne.2 (w1.heap.size + 1, Obj.cells #[.int .i64 l', .int .i64 (D' : Int), .int .i64 c'] 25 (0, 0)) (by simp)⟩, MI2.out.nd, MI2.out.bd⟩)
      rw [Hliv.out gn hgnD] at hc0
      have hlv : ((liveL 0 D').set gn false).length = D' := by rw [List.length_set]; exact hl0
      have Hsv := Lib.hid (show ∀ i, i < D' → srvD M2 ((liveL 0 D').set gn false) i = decide ((i : Int) ≠ (gn : Int)) from fun i hi => by
        by_cases e : i = gn
        · subst e
          rw [decide_eq_false (by simp)]
          exact srvD_no fun h => by have := h.2.1; rw [lvset_same _ (by omega)] at this; cases this
        · rw [decide_eq_true (by omega)]
          exact srvD_mk (by omega) (by rw [lvset_other _ e]; exact Hliv.out i hi) (Q2.out.gd.f i hi))
      generalize (liveL 0 D').set gn false = lv1 at hlv Hsv K6 M6
      clear hblk hbA hbT hb0 gg0
      go_wp2_with fail
      (with_reducible refine (CG.out _).mono ?_); rintro e w5 ⟨rfl, h5⟩
      have hw5 := h5.symm
      subst hw5
      clear h5
      go_wp2_with fail
      go_meet
      exact ⟨(gn : Int), lv1, H2, M2, rfl, by omega, hlv, K6.out, M6.out, Q2.out.gd.dn, fun i _ _ => rfl, Hsv.out⟩
    · have e0 : (qq == 0) = false := ibeq_no hq0
      clear hq0
      by_cases hq1 : qq = 1
      · have e1 : (qq == 1) = true := by rw [hq1]; rfl
        clear hq1
        have hpk : M2.pickE (gn : Int) = 0 := Bch.pickE_ok (by omega) (by omega)
        have CF := ks_fail_mi K2.out MI2.out (gn : Int) ⟨by omega, by omega⟩
        have CF := Lib.hid CF
        have hfD : ∀ i, (M2.fail (gn : Int)).D i = if i = gn then Dsk.failed else M2.D i := fun i => fail_D (by omega) i
        have Hsv := Lib.hid (show ∀ i, i < D' → srvD (M2.fail (gn : Int)) (liveL 0 D') i = decide ((i : Int) ≠ (gn : Int)) from fun i hi => by
          rw [srv_fail (by omega), srvD_mk (by omega) (Hliv.out i hi) (Q2.out.gd.f i hi), Bool.true_and]
          by_cases e : i = gn
          · subst e; rw [decide_eq_true rfl, decide_eq_false (by simp)]; rfl
          · rw [decide_eq_false e, decide_eq_true (by omega)]; rfl)
        have Hup := Lib.hid (show (M2.fail (gn : Int)).down = false by rw [fail_up]; exact Q2.out.gd.dn)
        have HfD := Lib.hid (show ∀ i, i < D' → (i : Int) ≠ (gn : Int) → (M2.fail (gn : Int)).D i = M2.D i from fun i _ hne => by rw [hfD, if_neg (by omega)])
        clear hblk hbA hbT hfD hpk
        go_wp2_with fail
        (with_reducible refine (CG.out _).mono ?_); rintro e w5 ⟨rfl, h5⟩
        have hw5 := h5.symm
        subst hw5
        clear h5
        go_wp2_with fail
        (with_reducible refine CF.out.mono ?_); rintro e w6 ⟨rfl, H6, k6, m6⟩
        have K6 := Lib.hid k6
        have M6 := Lib.hid m6
        clear k6 m6 CF
        go_wp2_with fail
        go_meet
        exact ⟨(gn : Int), liveL 0 D', H6, M2.fail (gn : Int), rfl, by omega, hl0, K6.out, M6.out, Hup.out, HfD.out, Hsv.out⟩
      · have e1 : (qq == 1) = false := ibeq_no hq1
        have Hsv := Lib.hid (show ∀ i, i < D' → srvD M2 (liveL 0 D') i = decide ((i : Int) ≠ (-1 : Int)) from fun i hi => by
          rw [decide_eq_true (by omega)]
          exact srvD_mk (by omega) (Hliv.out i hi) (Q2.out.gd.f i hi))
        clear hq1 hblk hbA hbT
        go_wp2_with fail
        go_meet
        exact ⟨-1, liveL 0 D', H2, M2, rfl, by omega, hl0, K2.out, MI2.out, Q2.out.gd.dn, fun i _ _ => rfl, Hsv.out⟩
  case rest =>
    obtain ⟨gone, lv, H5, M5, rfl, hgo, hlv, k5, m5, hdn, hD5, hsv⟩ := hcut
    obtain ⟨om, k6, hset⟩ := m5.keep k5
    have hP : ∀ r, r < 16 → scB M5 lv G r = wF xs gone G r := fun r hr => Q2.out.told HG.out (rows_dat G zl) Hle.out hD5 hsv hr
    have HP := Lib.hid hP
    have HD := Lib.hid hdn
    have Hset := Lib.hid hset
    have K6 := Lib.hid k6
    clear k5 m5 k6 hP hD5 hsv hset hdn Q2 MI2 K2 g1 g2 g3 g4 g5 g6 hblk hbA hbT hgA hgT hmbl CG bg bq hwq n0 n1 Hliv Fb0 hM2n
    go_upto_block 3 with fail
    refine wp_block ?_
    refine sfB _ _ _ _ _ _ _ _ _ _ _ _ _ _ _ _ _ _ _ _ _ _ _ _ _ _ _ _ _ _ _ _ _ _ _ _ _ _ _ _ _ _ _ _ _ _ _ _ _ _ _ _ _ _ _ _ _ _ _ _ _ _ _ _ _ _ _ _ _ _ _ _ _ _ _ _ _ _ _ _ _ _ _ _ _ _ _ _ _ _ _ _ _ _ _ _ _ _ _ _ _ _ _ _ _ _ _ _ _ _ _ _ _ _ _ _ _ _ _ _ _ _ _ _ _ _ _ _ _ _ _ _ _ _ _ _ _ _ _ _ _ _ _ _ _ _ _ _ _ _ _ _ _ _ _ _ _ _ _ _ _ _ _ _ _ _ _ _ _ _ _ (l := l) (D := D) (c := c) (l' := l') (c' := c') (ga := w1.heap.size) (gt := w1.heap.size + 1) (om := om) (G := G) (xs := xs) (gone := gone) (by simp) (by simp) (List.mem_cons_self ..) Hset.out (by omega) hs16 hgo HGd.out HG.out Hle.out ⟨Nat.zero_le _, K6.out, WI.nil _ _ _ _ _ _⟩ (fun v28 v132 v133 v134 v135 v136 v137 v138 v139 v140 v141 v142 v143 v144 v145 v146 v147 v148 v149 v150 v151 v152 v153 v154 v155 v156 v157 xv r V2 hI2 hx2 => ?_)
    obtain ⟨_, k7, i7⟩ := hI2
    rw [hx2] at i7
    have CR := ks_scrub_is k7 lv (some ⟨gl, 0, none⟩) D' D' hlv.symm (k7.lv (g := gl) (lv := lv) (t := 4) (f := (0, 0)) (by simp) rfl (by omega)) G H64.out HG.out HD.out HP.out
    rw [HGe.out.1.1.1.1, HGe.out.1.1.1.2, HGe.out.1.1.2, HGe.out.1.2.1.1, HGe.out.1.2.1.2, HGe.out.1.2.2, HGe.out.2] at CR
    replace CR := Lib.hid CR
    have hfl := fltN_len (wF xs gone G) 16
    obtain ⟨Aw, cw, rfl, _⟩ := i7.ow.rdI (by omega)
    obtain ⟨g1, g2, g3⟩ := k7.gat (g := w1.heap.size) (l := l) (d := (D : Int)) (c := c) (t := 25) (f := (0, 0)) (by simp)
    obtain ⟨g4, g5, g6⟩ := k7.gat (g := w1.heap.size + 1) (l := l') (d := (D' : Int)) (c := c') (t := 25) (f := (0, 0)) (by simp)
    have I7 := Lib.hid i7
    clear k7 i7 HP Hset K6 hx2
    generalize fltN (wF xs gone G) 16 = fl at CR hfl I7
    go_wp2_with fail
    (with_reducible refine CR.out.mono ?_); rintro e w8 ⟨A8, c8, rfl, hr8, k8, hb8⟩
    have hw8 := I7.out.below hb8
    obtain ⟨Aw', cw', ew, hrw⟩ := hw8.ow.rdI (by omega)
    injection ew with ew1 ew2 ew3
    subst ew1 ew3
    have CS := Lib.hid (sameInt_any A8 Aw fl fl fl.length fl.length c8 cw w8 rfl rfl hr8 hrw)
    rw [show decide (fl = fl) = true from decide_eq_true rfl] at CS
    have HF := Lib.hid k8.bp.bel
    clear CR hr8 hrw k8 hb8 hw8 I7 g1 g2 g3 g4 g5 g6 ew2
    go_wp2_with fail
    (with_reducible refine CS.out.mono ?_); rintro e w9 ⟨rfl, hb9⟩
    have F9 := Lib.hid (HF.out.trans (hb9.mono HF.out.size))
    have CW := Lib.hid (scrWakes_any w9)
    clear CS hb9 HF
    go_wp2_with fail
    (with_reducible refine CW.out.mono ?_); rintro e w12 ⟨rfl, hb12⟩
    have F12 := F9.out.trans (hb12.mono F9.out.size)
    clear hb12
    go_wp2_with fail
    go_ret
    exact ⟨rfl, F12⟩
end Go.Proofs.Ytadmofpipfdedaa
end
