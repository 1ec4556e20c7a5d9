/- RowChanges walked. -/
import Derived.Test.YtbojmofkhkegmaaRowChangesLoop
set_option linter.unusedVariables false
set_option linter.unusedSimpArgs false
namespace Go.Proofs.Ytbojmofkhkegmaa
open Go.RowKit

set_option maxRecDepth 100000 in
set_option maxHeartbeats 3200000 in
theorem rowchanges (n r0 : Int) (A : Option Addr) (zs : List Int) (cz : Nat) (k0 x0 : Int) (w : World) (hn : -9223372036854775808 ≤ n ∧ n ≤ 9223372036854775807) (hr0 : -9223372036854775808 ≤ r0 ∧ r0 ≤ 9223372036854775807) (hcz : zs.length ≤ cz) (hz : RdZ w w.heap.size A zs)
    (hk0 : -9223372036854775808 ≤ k0 ∧ k0 ≤ 9223372036854775807) (hx0 : -9223372036854775808 ≤ x0 ∧ x0 ≤ 9223372036854775807) :
    Calls Try.prog 7 #[.int .i64 n, .int .i64 r0, .slice A zs.length cz, .int .i64 k0, .int .i64 x0] w fun e w' => e = .returned (.bool true) ∧ Below w.heap.size w w' := by
  have HP := Lib.hid (fun W => playGood_any n W hn)
  have CW1 := Lib.hid (fun W => within_any r0 16 W hr0 (by omega))
  have hrb := withinI_bd r0 16 (by omega)
  generalize withinI r0 16 = r at CW1 hrb
  obtain ⟨D, F, W, hD, gr⟩ := gr_of n hrb.1 hrb.2
  rw [hD] at HP
  clear hD
  have hd8 := gr.d8; have hd3 := gr.d3; have hw7 := gr.w7; have hw1 := gr.w1; have hlv := gr.lv; have hWD := gr.hW
  have hF := gr.hF
  have CW2 := Lib.hid (fun V => within_any k0 (W : Int) V hk0 (by omega))
  have hib := withinI_bd k0 (W : Int) (by omega)
  obtain ⟨k, hk⟩ := Int.eq_ofNat_of_zero_le hib.1
  rw [hk] at CW2 hib
  have hkW : k < W := by omega
  have HS := Lib.hid (fun V => sector_any x0 V hx0)
  have hsl := sectorB_len x0
  generalize sectorB x0 = sx at HS hsl
  have hdl := sectorsB_len zs W
  have hdm := @sectorsB_mem zs W
  have HSS := Lib.hid (fun V (h : RdZ V V.heap.size A zs) => sectors_rd (cp := cz) rfl h (show W ≤ 8 by omega))
  generalize sectorsB zs W = rs at HSS hdl hdm
  have hdl2 : (rs.set k sx).length = W := by rw [List.length_set]; exact hdl
  have hdm2 := set_alike (i := k) hdm hsl
  have CF1 := Lib.hid (fun (A' : Option Addr) cp V (h : RdR V V.heap.size A' rs) => gr.fill (cp := cp) h hdl hdm)
  have CF2 := Lib.hid (fun (A' : Option Addr) cp V (h : RdR V V.heap.size A' (rs.set k sx)) => gr.fill (cp := cp) h hdl2 hdm2)
  have Hla := Lib.hid (fun i (hi : i < D) => gr.fills hdl hdm hi)
  have Hlb := Lib.hid (fun i (hi : i < D) => gr.fills hdl2 hdm2 hi)
  have hrk := mem_getD hdm (show k < rs.length by omega)
  have Hch := Lib.hid (fun i (hi : i < D) => change_all hF hlv hdl hdm hkW hsl hi)
  have HPar := Lib.hid (fun V => refParity_any (goL n) (D : Int) (goC n) r V gr.l64 gr.d64 gr.c64 gr.r64)
  have HDk := Lib.hid (fun V => refDisk_any (goL n) (D : Int) (goC n) r (k : Int) V gr.l64 gr.d64 gr.c64 gr.r64 (by omega))
  rw [gr.R.pP, gr.R.pQ, gr.eD, gr.eF, gr.eW] at HPar
  rw [gr.R.pD k (by rw [gr.eW]; exact hkW), gr.eD, gr.eF] at HDk
  have HR := Lib.hid (fun V => refWidth_any (goL n) (D : Int) (goC n) V gr.l64 gr.d64 gr.c64)
  rw [gr.wd] at HR
  have HPw := Lib.hid (fun V => refPow_any (k : Int) (by omega) V)
  have hfp : gpow (k : Int) < 256 := gpow_lt _
  have hWk := Lib.hid (fun V => wakesRow_any V)
  have hq : (if goL n = 6 then ((roS D F (W + 1) : Nat) : Int) else -1) = qOf (goL n) D F W := rfl
  rw [hq] at HPar
  unfold chW at Hch
  have hchl : (pB [rs.getD k [], sx]).length = 32 := by rw [pB_two (hrk.trans hsl.symm), xorL_len, hrk, hsl, Nat.min_self]
  generalize qOf (goL n) D F W = q at HPar Hch
  generalize roS D F W = p at HPar Hch
  generalize roS D F k = own at HDk Hch
  generalize goL n = l at *
  generalize goC n = c at *
  generalize fillL D F rs = fa at CF1 Hla Hch
  generalize fillL D F (rs.set k sx) = fb at CF2 Hlb Hch
  generalize gpow (k : Int) = f at HPw hfp Hch
  have Hz := Lib.hid hz
  clear gr hk hn hr0 hk0 hx0 hlv hz hF hq
  have k0' : (0 : Int) ≤ (k : Int) := by omega
  have k1' : (k : Int) < (W : Int) := by omega
  go_enter Try.func7, Try.ntmps7
  go_wp2_with fail
  (with_reducible refine (HP.out _).mono ?_); rintro e w1 ⟨rfl, hb1⟩
  have G := gat_new w1 l D c 23 (0, 0)
  have F1 := hb1.alloc hb1.size (.cells #[.int .i64 l, .int .i64 (D : Int), .int .i64 c] 23 (0, 0))
  have hgb0 : w1.heap.size < (w1.alloc (.cells #[.int .i64 l, .int .i64 (D : Int), .int .i64 c] 23 (0, 0))).heap.size := by simp
  clear hb1
  go_wp2_with fail
  (with_reducible refine (CW1.out _).mono ?_); rintro e w2 ⟨rfl, rfl⟩
  generalize w1.alloc (.cells #[.int .i64 l, .int .i64 (D : Int), .int .i64 c] 23 (0, 0)) = wg at G F1 hgb0 ⊢
  generalize w1.heap.size = gb at G hgb0 ⊢
  obtain ⟨g1, g2, g3⟩ := G
  have HG := Lib.hid (show GAt wg gb l D c from ⟨g1, g2, g3⟩)
  go_wp2_with fail
  (with_reducible refine (HR.out _).mono ?_); rintro e w3 ⟨rfl, hb3⟩
  have F3 := F1.trans (hb3.mono F1.size)
  have B3 := hb3
  clear g1 g2 g3 hb3
  go_wp2_with fail
  (with_reducible refine (HSS.out _ ((Hz.out.below F3 (Nat.le_refl _)).keep F3.size (fun _ _ => rfl))).mono ?_); rintro e w4 ⟨Ad, cd, rfl, hov, hrd, hb4⟩
  have B4 := B3.trans (hb4.mono B3.size)
  clear B3 F3
  go_wp2_with fail
  (with_reducible refine (CW2.out _).mono ?_); rintro e w5 ⟨rfl, rfl⟩
  obtain ⟨g1, g2, g3⟩ := HG.out.below B4 hgb0
  go_wp2_with fail
  (with_reducible refine (CF1.out _ _ _ hrd).mono ?_); rintro e w6 ⟨ga, xa, rfl, hqa, hb6⟩
  have B6 := B4.trans (hb6.mono B4.size)
  clear g1 g2 g3
  obtain ⟨vs, hown, hrows⟩ := hov
  rw [hdl] at hown
  obtain ⟨gd, cd2, hvd, hgd1, hgd2, _⟩ := row_form hown (by omega)
  injection hvd with hvd1 _ hvd2
  subst hvd1 hvd2
  have hvl : vs.length = W := by have := hown.1; omega
  have hown6 := hown.kept (grown_none hb6) (Classical.em _)
  have hrows6 := hrows.below hb6
  have hrv : RdV w6 w6.heap.size (some ⟨gd, 0, none⟩) vs := fun _ => ⟨gd, 0, rfl, by have := hb6.size; omega, fun j hj => by rw [Nat.zero_add]; exact hown6.cellAt j (by omega)⟩
  have hv1 : ∀ u ∈ vs, u.oneCell' = true := fun u hu => by
    obtain ⟨j, hj, rfl⟩ := List.getElem_of_mem hu
    obtain ⟨A1, c1, h1, _⟩ := hrows.2 j (by omega)
    rw [List.getElem?_eq_getElem hj] at h1
    injection h1 with h1
    rw [h1]; rfl
  go_wp2_with (at_builtin; refine wpList_append_V rfl _ _ _ rfl w6.heap.size 24 (.slice none 0 0) 24 Try.underlying27 info_row2 rfl _ 0 [] rfl (World.ownsRow_nil _ _ _ _) w6.heap.size (some ⟨gd, 0, none⟩) W cd vs rfl hvl.symm hrv hv1 (by unfold maxLen; omega) (by omega) (Nat.le_refl _) ?_; intro v7 w7 hown7 hg7 hat7)
  have hb7 := below_of_none hg7
  rw [Nat.zero_add, List.nil_append] at hown7
  obtain ⟨gm, cm, rfl, hgm1, hgm2, hgm3⟩ := row_form hown7 (by omega)
  have hoR : OwR w7 w3.heap.size gm W cm rs := ⟨hdl, hgm3, by have := hb4.size; have := hb6.size; omega, vs, row_le hown7 (by have := hb4.size; have := hb6.size; omega), hrows6.fresh hb7 hgm1⟩
  clear hg7 hat7 hrv hv1 hown7
  go_wp2_with fail
  (with_reducible refine (HS.out _).mono ?_); rintro e w8 ⟨gs, rfl, hos, hb8⟩
  have hoR8 := hoR.below hb8
  obtain ⟨Ao, co, zo, _, fo⟩ := hoR8.cell k hkW
  have hset := hoR8.set k (c := 32) ((hos.le (by have := hb4.size; have := hb6.size; have := hb7.size; omega)).rdbf) (hos.newer hgm2)
  rw [hsl] at hset
  have hb78 := hb7.trans (hb8.mono hb7.size)
  have hb69 := hb78.setCell (p := ⟨gm, k, none⟩) hgm1 (.slice (some ⟨gs, 0, none⟩) 32 32)
  have B9 := B6.trans (hb69.mono B6.size)
  have hqa9 := hqa.below hb69
  have hown9 := hown6.kept (grown_none hb69) (Classical.em _)
  have hrows9 := hrows6.below hb69
  clear hoR hoR8 hos hb7 hb8 hb78 hb69 hqa hown hrows hown6 hrows6
  obtain ⟨g1, g2, g3⟩ := HG.out.below B9 hgb0
  have e1 : ((D : Int) != (D : Int)) = false := bne_self_eq_false _
  have CF3 := Lib.hid (CF2.out (some ⟨gm, 0, none⟩) cm _ (hset.rdr (by omega)))
  go_wp2_with fail
  generalize w8.setCell ⟨gm, k, none⟩ (.slice (some ⟨gs, 0, none⟩) 32 32) = w9 at hset B9 hqa9 hown9 hrows9 g1 g2 g3 CF3 ⊢
  (with_reducible refine CF3.out.mono ?_); rintro e w10 ⟨gq, xb, rfl, hqb, hb10⟩
  have B10 := B9.trans (hb10.mono B9.size)
  have hqa10 := hqa9.below hb10
  have hown10 := hown9.kept (grown_none hb10) (Classical.em _)
  have hrows10 := hrows9.below hb10
  have hset10 := hset.below hb10
  clear g1 g2 g3 CF3 hset B9 hqa9 hown9 hrows9 hb10
  obtain ⟨g1, g2, g3⟩ := HG.out.below B10 hgb0
  go_wp2_with fail
  (with_reducible refine (HPar.out _).mono ?_); rintro e w11 ⟨rfl, hb11⟩
  have B11 := B10.trans (hb11.mono B10.size)
  clear g1 g2 g3
  obtain ⟨g1, g2, g3⟩ := HG.out.below B11 hgb0
  go_wp2_with fail
  (with_reducible refine (HDk.out _).mono ?_); rintro e w12 ⟨rfl, hb12⟩
  have B12 := B11.trans (hb12.mono B11.size)
  have hb1012 := hb11.trans (hb12.mono hb11.size)
  have hqa12 := hqa10.below hb1012
  have hqb12 := hqb.below hb1012
  have hown12 := hown10.kept (grown_none hb1012) (Classical.em _)
  have hrows12 := hrows10.below hb1012
  have hset12 := hset10.below hb1012
  clear g1 g2 g3 hqa10 hqb hown10 hrows10 hset10 hb11 hb12 hb1012 B10 B11 B6 B4
  obtain ⟨A1, c1, hv1, hr1, _⟩ := hrows12.2 k (by omega)
  have za : w12.cell? ⟨gd, k, none⟩ = some (.slice A1 (rs.getD k []).length c1) := by rw [hown12.cellAt k (by omega)]; exact hv1
  obtain ⟨A2, c2, zb, hr2, _⟩ := hset12.cell k hkW
  rw [getD_set_same (by omega)] at zb hr2
  rw [hrk] at za
  rw [hsl] at zb
  have hrd2 := rdr_block2 (hp_new w12.drew (.cells #[.slice A1 32 c1, .slice A2 32 c2] 24) _ rfl) hrk.symm hsl.symm ((hr1.rdb.below ((Below.refl _ _).drew.trans (below1 w12.drew (.cells #[.slice A1 32 c1, .slice A2 32 c2] 24))) (Nat.le_refl _)).more (by simp)) ((hr2.rdb.below ((Below.refl _ _).drew.trans (below1 w12.drew (.cells #[.slice A1 32 c1, .slice A2 32 c2] 24))) (Nat.le_refl _)).more (by simp)) (Nat.le_refl _)
  have CP := Lib.hid (refp_gives (n := 2) (cp := 2) hrd2 rfl rfl)
  have hb13 := (Below.refl w12.heap.size w12).drew.alloc (Nat.le_refl _) (.cells #[.slice A1 32 c1, .slice A2 32 c2] 24)
  clear hown12 hrows12 hset12 hr1 hr2 hrd2 hv1
  go_wp2_with fail
  refine wp_region_still_tail 8 (by kernel_rfl) (by kernel_rfl) ?_
  simp only [List.take_succ_cons, List.take_zero, List.drop_succ_cons, List.drop_zero]
  change wpStill _ _ w12.drew _ _ _
  have za' : w12.drew.cell? ⟨gd, k, none⟩ = some (.slice A1 32 c1) := za
  have zb' : w12.drew.cell? ⟨gm, k, none⟩ = some (.slice A2 32 c2) := zb
  generalize hwd : w12.drew = wd at za' zb' CP hb13 ⊢
  have Hwd := Lib.hid hwd
  clear hwd
  repeat still_step
  refine wpStill_nil ?_
  change wpList _ _ _ _ _ w12.drew
  rw [Hwd.out]
  go_wp2_with fail
  generalize wd.alloc (.cells #[.slice A1 32 c1, .slice A2 32 c2] 24) = w13 at CP hb13 ⊢
  (with_reducible refine CP.out.mono ?_); rintro e w14 ⟨Ac, cc, rfl, hoc, hb14⟩
  rw [hchl] at hoc ⊢
  have hb15 := hb13.trans (hb14.mono hb13.size)
  have B15 := B12.trans (hb15.mono B12.size)
  obtain ⟨gc, cc2, hvc, _, _, _, _, _⟩ := hoc.pos (by rw [hchl]; omega)
  rw [hchl] at hvc
  injection hvc with hvc1 _ hvc2
  subst hvc1 hvc2
  have hqa15 := hqa12.below hb15
  have hqb15 := hqb12.below hb15
  have F15 := F1.trans (B15.mono F1.size)
  clear za zb za' zb' CP hb13 hb14 hb15 hqa12 hqb12 B12 B15
  go_wp2_with fail
  (with_reducible refine (HPw.out _).mono ?_); rintro e w16 ⟨rfl, hw16⟩
  subst hw16
  go_upto_block 0 with fail
  refine wp_block ?_
  refine rcA _ _ _ _ _ _ _ _ _ _ _ _ _ _ _ _ _ _ _ _ _ _ _ _ _ _ _ _ _ _ _ _ _ _ _ _ _ _ _ _ _ _ _ _ _ _ _ _ _ _ _ _ _ _ _ _ _ _ _ _ _ _ _ _ _ _ _ _ _ _ _ _ _ _ _ _ _ _ _ _ _ _ _ _ _ _ _ _ _ _ _ _ _ _ _ _ _ _ _ _ _ _ _ _ _ _ _ _ _ _ _ _ _ _ _ _ _ _ _ _ _ _ _ _ _ _ _ _ _ _ _ _ _ _ _ _ _ _ _ _ hqa15 hqb15 Hla.out Hlb.out Hch.out hoc hchl hfp hd8 ⟨Nat.zero_le _, Below.refl _ _⟩ (fun v10 v23 v24 v25 v26 v105 v106 v107 v108 v109 v110 v111 v112 v113 v114 v115 v116 v117 v118 v119 v120 v121 v122 v123 v124 v125 v126 v127 v128 v129 v130 v131 v132 v133 v134 v135 v136 v137 v138 v139 v140 v141 v142 v143 v144 v145 v146 v147 j V hI _ => ?_)
  have F16 := F15.trans (hI.2.mono F15.size)
  clear hI hqa15 hqb15 hoc
  go_wp2_with fail
  (with_reducible refine (hWk.out _).mono ?_); rintro e w17 ⟨rfl, hb17⟩
  go_wp2
  go_ret
  exact ⟨rfl, F16.trans (hb17.mono F16.size)⟩
end Go.Proofs.Ytbojmofkhkegmaa
