/- Texts put together: RebuildRowsLaw. -/
import Derived.Test.YtadmofpipfdedaaRrbj
import Derived.Test.YtadmofpipfdedaaRrbg
section
set_option linter.unusedVariables false
set_option linter.unusedSimpArgs false
namespace Go.Proofs.Ytadmofpipfdedaa
open Go.RowKit

set_option maxRecDepth 100000 in
set_option maxHeartbeats 3200000 in
theorem rebuildrows (m n split : Int) (A : Option Addr) (zl : List Int) (cl : Nat) (d more : Int) (w : World) (hm : (-9223372036854775808 ≤ m ∧ m ≤ 9223372036854775807)) (hn : (-9223372036854775808 ≤ n ∧ n ≤ 9223372036854775807)) (hsp : (-9223372036854775808 ≤ split ∧ split ≤ 9223372036854775807)) (hcl : zl.length ≤ cl) (hzl : RdZ w w.heap.size A zl) (hd : (-9223372036854775808 ≤ d ∧ d ≤ 9223372036854775807)) (hmo : (-9223372036854775808 ≤ more ∧ more ≤ 9223372036854775807)) :
    Calls Try.prog 4 #[.int .i64 m, .int .i64 n, .int .i64 split, .slice A zl.length cl, .int .i64 d, .int .i64 more] w fun e w' => e = .returned (.bool true) ∧ Below w.heap.size w w' := by
  have hpn := ptr_eq
  have CP := Lib.hid (fun V => playPair_can m n V hm hn)
  have bs := withinI_bd split 17 (by omega)
  have CS := Lib.hid (fun V => within_any split 17 V hsp (by omega))
  generalize withinI split 17 = s at bs CS
  have hs16 : 0 ≤ s ∧ s ≤ 16 := by omega
  have Hz := Lib.hid hzl
  clear hzl bs
  go_enter Try.func4, Try.ntmps4
  go_wp2_with fail
  (with_reducible refine (CP.out _).mono ?_); rintro e w1 ⟨l, dd, c, l', d', c', rfl, hc, hb⟩
  obtain ⟨hg1, hg2, _, hdd, hll, _⟩ := gCan_parts hc
  have hb1 := gOk_bd hg1
  have hb2 := gOk_bd hg2
  obtain ⟨D, rfl⟩ := Int.eq_ofNat_of_zero_le (show 0 ≤ dd by omega)
  obtain ⟨D', rfl⟩ := Int.eq_ofNat_of_zero_le (show 0 ≤ d' by omega)
  have hDD : D ≤ D' := by omega
  have B2 := below2 w1 (.cells #[.int .i64 l, .int .i64 (D : Int), .int .i64 c] 25) (.cells #[.int .i64 l', .int .i64 (D' : Int), .int .i64 c'] 25)
  have hB12 := hb.trans (B2.mono hb.size)
  have HB := Lib.hid hB12
  have O1 := Lib.hid (show ((w1.alloc (.cells #[.int .i64 l, .int .i64 (D : Int), .int .i64 c] 25)).alloc (.cells #[.int .i64 l', .int .i64 (D' : Int), .int .i64 c'] 25)).heap[w1.heap.size]? = some (Obj.cells #[.int .i64 l, .int .i64 (D : Int), .int .i64 c] 25 (0, 0)) from (hp_old _ _ _ (by simp)).trans (hp_new _ _ _ rfl))
  have O2 := Lib.hid (show ((w1.alloc (.cells #[.int .i64 l, .int .i64 (D : Int), .int .i64 c] 25)).alloc (.cells #[.int .i64 l', .int .i64 (D' : Int), .int .i64 c'] 25)).heap[w1.heap.size + 1]? = some (Obj.cells #[.int .i64 l', .int .i64 (D' : Int), .int .i64 c'] 25 (0, 0)) from hp_new _ _ _ (by simp))
  have hw1 := hb.size
  obtain ⟨G, hGd⟩ : ∃ G : RG, G = ⟨l, (D : Int), c, l', (D' : Int), c', s⟩ := ⟨_, rfl⟩
  have hG : G.ok = true := by rw [hGd]; exact RG.ok_mk hg1 hs16.1 hs16.2 (.inr hg2)
  have h64 : RG64 G := by rw [hGd]; exact rg64_3 ⟨⟨by omega, by omega, by omega⟩, ⟨by omega, by omega, by omega⟩, by omega⟩
  have hle : ∀ t, t < 16 → G.D t ≤ (D' : Int) := fun t _ => by
    rw [hGd]; unfold RG.D rg; dsimp only; split <;> omega
  have CB := both_any G hG h64 D' hle (by omega) (by omega) A zl zl.length cl ((w1.alloc (.cells #[.int .i64 l, .int .i64 (D : Int), .int .i64 c] 25)).alloc (.cells #[.int .i64 l', .int .i64 (D' : Int), .int .i64 c'] 25)) rfl hcl ((Hz.out.below HB.out (Nat.le_refl _)).keep HB.out.size fun _ _ => rfl)
  have HGe := Lib.hid (show (((G.l = l ∧ G.d = (D : Int)) ∧ G.c = c) ∧ (G.l' = l' ∧ G.d' = (D' : Int)) ∧ G.c' = c') ∧ G.s = s from by rw [hGd]; exact ⟨⟨⟨⟨rfl, rfl⟩, rfl⟩, ⟨rfl, rfl⟩, rfl⟩, rfl⟩)
  rw [HGe.out.1.1.1.1, HGe.out.1.1.1.2, HGe.out.1.1.2, HGe.out.1.2.1.1, HGe.out.1.2.1.2, HGe.out.1.2.2, HGe.out.2] at CB
  have CB := Lib.hid CB
  have HG := Lib.hid hG
  have H64 := Lib.hid h64
  have Hle := Lib.hid hle
  clear CP hc B2 hb hB12 hGd hG h64 hle
  go_wp2_with fail
  (with_reducible refine (CS.out _).mono ?_); rintro e w2 ⟨rfl, h2⟩
  have hw2 := h2.symm
  subst hw2
  clear h2 CS
  go_wp2_with fail
  (with_reducible refine CB.out.mono ?_); rintro e w2 ⟨b, H, N, rfl, kb, fb⟩
  have k0 := kb.open2 HB.out O1.out O2.out hw1 (by omega)
  have K0 := Lib.hid k0
  have Fb0 := Lib.hid fb
  have hNn := fb.gd.n
  obtain ⟨g1, g2, g3⟩ := k0.gat (g := w1.heap.size) (l := l) (d := (D : Int)) (c := c) (t := 25) (f := (0, 0)) (by simp)
  obtain ⟨g4, g5, g6⟩ := k0.gat (g := w1.heap.size + 1) (l := l') (d := (D' : Int)) (c := c') (t := 25) (f := (0, 0)) (by simp)
  clear kb fb k0 CB HB O1 O2 hw1
  have bd1 := withinI_bd d (D' : Int) (by omega)
  have CD := Lib.hid (fun V => within_any d (D' : Int) V hd (by omega))
  obtain ⟨k, hk1⟩ := Int.eq_ofNat_of_zero_le bd1.1
  rw [hk1] at CD bd1
  clear hk1
  have hkD : k < D' := by omega
  go_wp2_with fail
  (with_reducible refine (CD.out _).mono ?_); rintro e w3 ⟨rfl, h3⟩
  have hw3 := h3.symm
  subst hw3
  have CL := Lib.hid (ks_live K0.out 0 D' (by omega) (by omega))
  clear h3 CD K0
  go_wp2_with fail
  (with_reducible refine CL.out.mono ?_); rintro e w3 ⟨gl, rfl, k1⟩
  have K1 := Lib.hid k1
  clear k1 CL g1 g2 g3 g4 g5 g6
  have HN32 := Lib.hid (fun r (hr : r < 16) => (show (secAt (N.D k).now (36 + r)).length = 32 from secAt_len (by rw [(Fb0.out.gd.ok k hkD).now]; omega)))
  go_upto_block 0 with fail
  refine wp_block ?_
  refine rrA _ _ _ _ _ _ _ _ _ _ _ _ _ _ _ _ _ _ _ _ _ _ _ _ _ _ _ _ _ _ _ _ _ _ _ _ _ _ _ _ _ _ _ _ _ _ _ _ _ _ _ _ _ _ _ _ _ _ _ _ _ _ _ _ _ _ _ _ _ _ _ _ _ _ _ _ _ _ _ _ _ _ _ _ _ _ _ _ _ _ _ _ _ _ _ _ _ _ _ _ _ _ _ _ _ _ _ _ _ _ _ _ _ _ _ _ _ _ _ _ _ _ _ _ _ _ _ _ _ _ _ _ _ _ _ _ _ _ _ _ _ _ _ _ _ _ _ _ _ _ _ _ _ _ _ _ _ _ _ _ _ K1.out (show k < N.n by omega) (by omega) Fb0.out.gd.dn (Fb0.out.gd.f k hkD) HN32.out ⟨Nat.zero_le _, Below.refl _ _, OwV.nil _ _⟩ (fun v19 v20 v52 v53 v54 v55 v56 v57 v58 v59 v60 v61 v62 v63 v64 v65 v66 v67 xv r V1 hI hx => ?_)
  obtain ⟨_, hB1, hv1⟩ := hI
  rw [hx] at hv1
  obtain ⟨AW, cw, rfl, k2⟩ := K1.out.owv hB1 hv1 (by rw [wantL_len]; omega)
  rw [wantL_len]
  have K2 := Lib.hid k2
  clear hx hB1 hv1 K1
  have hfr := fr_ok (N := N) (k := k) (by omega)
  have CF := Lib.hid (ks_fail k2 (k : Int) ⟨by omega, by omega⟩)
  rw [hfr.1] at CF
  clear k2
  go_wp2_with fail
  (with_reducible refine CF.out.mono ?_); rintro e w4 ⟨rfl, H4, k4⟩
  have CRp := Lib.hid (ks_replace k4 (k : Int) ⟨by omega, by omega⟩)
  rw [hfr.2.1] at CRp
  clear k4 CF K2
  go_wp2_with fail
  (with_reducible refine CRp.out.mono ?_); rintro e w5 ⟨rfl, H5, k5⟩
  have K5 := Lib.hid (show KS w w5 b H5 (frB N k) [(gl, Obj.cells ((liveL 0 D').map Value.bool).toArray 4 (0, 0)), (w1.heap.size, Obj.cells #[.int .i64 l, .int .i64 (D : Int), .int .i64 c] 25 (0, 0)), (w1.heap.size + 1, Obj.cells #[.int .i64 l', .int .i64 (D' : Int), .int .i64 c'] 25 (0, 0))] [(AW, wantL N k 16)] [] from k5)
  have Hfr := Lib.hid hfr.2.2
  clear k5 CRp hfr
  have i0 : (0 : Int) ≤ (k : Int) := by omega
  have i1 : (k : Int) < (D' : Int) := by omega
  have hl0 : (liveL 0 D').length = D' := liveL_len _ _
  have hblk := (K5.out.kx.kp (gl, Obj.cells ((liveL 0 D').map Value.bool).toArray 4 (0, 0)) (by simp)).1
  have hbA := (K5.out.kx.kp (w1.heap.size, Obj.cells #[.int .i64 l, .int .i64 (D : Int), .int .i64 c] 25 (0, 0)) (by simp)).1
  have hbT := (K5.out.kx.kp (w1.heap.size + 1, Obj.cells #[.int .i64 l', .int .i64 (D' : Int), .int .i64 c'] 25 (0, 0)) (by simp)).1
  dsimp only at hblk hbA hbT
  have hgA := live_ne hblk hbA
  have hgT := live_ne hblk hbT
  have hlv : ((liveL 0 D').set k false).length = D' := by rw [List.length_set]; exact hl0
  have hlk : ((liveL 0 D').set k false).getD k false = false := by
    rw [List.getD_eq_getElem?_getD, List.getElem?_set_self (by omega)]; rfl
  have hlt2 : ∀ i, i < D' → i ≠ k → ((liveL 0 D').set k false).getD i false = true := fun i hi hne => by
    rw [List.getD_eq_getElem?_getD, List.getElem?_set_ne (by omega), ← List.getD_eq_getElem?_getD]
    exact live0 hi
  obtain ⟨hc0, hf0, hb0, gg0⟩ := lv_setCell hblk (d := k) (by rw [hl0]; omega) false
  have K6 := Lib.hid (K5.out.putB gg0 hb0 (by simpa using ⟨Ne.symm hgA, Ne.symm hgT⟩))
  generalize (liveL 0 D').set k false = lv1 at hlv hlk hlt2 K6
  have Hlt := Lib.hid hlt2
  clear hblk hbA hbT hb0 gg0 K5 hlt2 hl0
  go_upto_region 17 with fail
  generalize w5.setCell ⟨gl, k, none⟩ (.bool false) = w6 at K6 ⊢
  clear hc0 hf0
  have bm1 := withinI_bd more 3 (by omega)
  have CM := Lib.hid (fun V => within_any more 3 V hmo (by omega))
  generalize withinI more 3 = mm at bm1 CM
  have bm2 := withinI_bd (more.tdiv 3) (D' : Int) (by omega)
  have CM2 := Lib.hid (fun V => within_any (more.tdiv 3) (D' : Int) V (tdiv_i64 more 3 (by omega) hmo) (by omega))
  obtain ⟨k2, hk2⟩ := Int.eq_ofNat_of_zero_le bm2.1
  rw [hk2] at CM2 bm2
  clear hk2
  go_wp2_with fail
  (with_reducible refine (CM.out _).mono ?_); rintro e w7 ⟨rfl, h7⟩
  have hw7 := h7.symm
  subst hw7
  clear h7 CM
  have hwq : IntKind.i64.wrap (more.tdiv 3) = more.tdiv 3 := IntWalk.i64_in _ (tdiv_i64 more 3 (by omega) hmo)
  obtain ⟨g1, g2, g3⟩ := K6.out.gat (g := w1.heap.size) (l := l) (d := (D : Int)) (c := c) (t := 25) (f := (0, 0)) (by simp)
  obtain ⟨g4, g5, g6⟩ := K6.out.gat (g := w1.heap.size + 1) (l := l') (d := (D' : Int)) (c := c') (t := 25) (f := (0, 0)) (by simp)
  go_upto_if 83 with fail
  go_cut [21, 22, 84, 85, 86, 87, 88, 89, 90, 91, 92, 93, 94, 95, 96, 97] (fun v21 _ _ _ _ _ _ _ _ _ _ _ _ _ _ _ W => ∃ (lv2 : List Bool) (lo : Nat), v21 = .int .i64 (lo : Int) ∧ KS w W b H5 (frB N k) [(gl, Obj.cells (lv2.map Value.bool).toArray 4 (0, 0)), (w1.heap.size, Obj.cells #[.int .i64 l, .int .i64 (D : Int), .int .i64 c] 25 (0, 0)), (w1.heap.size + 1, Obj.cells #[.int .i64 l', .int .i64 (D' : Int), .int .i64 c'] 25 (0, 0))] [(AW, wantL N k 16)] [] ∧ lv2.length = D' ∧ lv2.getD k false = false ∧ ((lo = 1 ∧ ∀ i, i < D' → i ≠ k → lv2.getD i false = true) ∨ (lo = 2 ∧ ∃ e, ∀ i, i < D' → i ≠ k → i ≠ e → lv2.getD i false = true)))
  case first =>
    by_cases hm0 : mm = 0
    · subst hm0
      have n0 : (0 : Int) ≤ (k2 : Int) := by omega
      have n1 : (k2 : Int) < (D' : Int) := by omega
      have hblk := (K6.out.kx.kp (gl, Obj.cells (lv1.map Value.bool).toArray 4 (0, 0)) (by simp)).1
      dsimp only at hblk
      obtain ⟨hc0, hf0, hb0, gg0⟩ := lv_setCell hblk (d := k2) (by rw [hlv]; omega) false
      cases hx : lv1.getD k2 false with
      | false =>
        rw [hx] at hc0
        clear hf0 hb0 gg0 hblk
        go_wp2_with fail
        (with_reducible refine (CM2.out _).mono ?_); rintro e w7 ⟨rfl, h7⟩
        have hw7 := h7.symm
        subst hw7
        clear h7
        go_wp2_with fail
        go_meet
        exact ⟨lv1, 1, rfl, K6.out, hlv, hlk, .inl ⟨rfl, Hlt.out⟩⟩
      | true =>
        rw [hx] at hc0
        have K7 := Lib.hid (K6.out.putB gg0 hb0 (by simpa using ⟨Ne.symm hgA, Ne.symm hgT⟩))
        have hkk : k2 ≠ k := fun e => by rw [e, hlk] at hx; cases hx
        have hl2 : (lv1.set k2 false).length = D' := by rw [List.length_set]; exact hlv
        have hk2 : (lv1.set k2 false).getD k false = false := by
          rw [List.getD_eq_getElem?_getD, List.getElem?_set_ne hkk, ← List.getD_eq_getElem?_getD]; exact hlk
        have ho2 := Lib.hid (show ∀ i, i < D' → i ≠ k → i ≠ k2 → (lv1.set k2 false).getD i false = true from fun i hi h1 h2 => by
          rw [List.getD_eq_getElem?_getD, List.getElem?_set_ne (by omega), ← List.getD_eq_getElem?_getD]
          exact Hlt.out i hi h1)
        generalize lv1.set k2 false = lv2 at K7 hl2 hk2 ho2
        clear hb0 gg0 hblk K6 hx
        go_wp2_with fail
        (with_reducible refine (CM2.out _).mono ?_); rintro e w7 ⟨rfl, h7⟩
        have hw7 := h7.symm
        subst hw7
        clear h7
        go_upto_region 22 with fail
        generalize w6.setCell ⟨gl, k2, none⟩ (.bool false) = w7 at K7 ⊢
        clear hc0 hf0 g1 g2 g3 g4 g5 g6
        go_wp2_with fail
        go_meet
        exact ⟨lv2, 2, rfl, K7.out, hl2, hk2, .inr ⟨rfl, k2, ho2.out⟩⟩
    · have e0 : (mm == 0) = false := ibeq_no hm0
      clear hm0
      go_wp2_with fail
      go_meet
      exact ⟨lv1, 1, rfl, K6.out, hlv, hlk, .inl ⟨rfl, Hlt.out⟩⟩
  case rest =>
    obtain ⟨lv2, lo, rfl, k7, hl2, hk2, hoth⟩ := hcut
    have K7 := Lib.hid k7
    have Hoth := Lib.hid hoth
    clear k7 hoth K6 Hlt g1 g2 g3 g4 g5 g6 hlv hlk CM2 hwq bm1 bm2
    have hf0 := Hfr.out
    obtain ⟨hfD, hfn, hfd, hfl, hfo⟩ := hf0
    have hDk : (frB N k).D k = Dsk.new := by rw [hfD, if_pos rfl]
    have hR := Fb0.out.rbh Hle.out HG.out hkD (M := frB N k) (lv := lv2) (by rw [hfn]; exact hNn) (by rw [hfd]; exact Fb0.out.gd.dn) (fun i hi hl => by rw [hfD, if_neg (fun e => by rw [e, hk2] at hl; cases hl)]) (by rw [hDk]; rfl) (by rw [hDk]; exact OutK.new) hk2
    have hDf : ∀ i, i < D' → ((frB N k).D i).f = false := fun i hi => by
      rw [hfD]; split
      · rfl
      · exact Fb0.out.gd.f i hi
    have hDp : ∀ i, i < D' → ((frB N k).D i).ps = [] := fun i hi => by
      rw [hfD]; split
      · rfl
      · exact Fb0.out.gd.ps i hi
    have hnn : (frB N k).n = D' := by rw [hfn]; exact hNn
    have CDk := ks_disk_fok K7.out lv2 (some ⟨gl, 0, none⟩) D' D' hl2.symm (K7.out.lv (g := gl) (lv := lv2) (t := 4) (f := (0, 0)) (List.mem_cons_self ..) rfl (by omega)) k G H64.out hR.1 (fun i hi => by rw [hDp i (by omega)]; exact Nat.zero_le _) (by rw [hfo, Fb0.out.gd.done]; omega)
    rw [HGe.out.1.1.1.1, HGe.out.1.1.1.2, HGe.out.1.1.2, HGe.out.1.2.1.1, HGe.out.1.2.1.2, HGe.out.1.2.2, HGe.out.2] at CDk
    obtain ⟨I, hc⟩ := rb_all hR.1 HG.out
    have hL : ∀ t, t < 16 → l ≤ G.L t ∧ G.L t ≤ 6 := fun t ht => by
      have h5 := gOk_bd (RG.good HG.out t)
      refine ⟨?_, by omega⟩
      unfold RG.L rg
      rw [HGe.out.1.1.1.1, HGe.out.1.2.1.1]
      split <;> omega
    have hcnt : ∀ t, t < 16 → (((cntB (G.D t).toNat (fun i => !srvD (frB N k) lv2 i) : Nat) : Int) ≤ lo) ∧ lo ≤ 2 := fun t ht => by
      have hD := Hle.out t ht
      rcases Hoth.out with ⟨h1, h2⟩ | ⟨h1, e, h2⟩
      · have := cnt_one (N := frB N k) (lv := lv2) (D := (G.D t).toNat) (d := k) (by omega) (fun i hi => hDf i (by omega)) (fun i hi hne => h2 i (by omega) hne)
        omega
      · have := cnt_two (N := frB N k) (lv := lv2) (D := (G.D t).toNat) (d := k) (e := e) (by omega) (fun i hi => hDf i (by omega)) (fun i hi h3 h4 => h2 i (by omega) h3 h4)
        omega
    have hlo1 : 1 ≤ lo := by rcases Hoth.out with ⟨h1, _⟩ | ⟨h1, _⟩ <;> omega
    have h7 : ∀ t, t < 16 → srdE (frB N k) lv2 (G.L t) (G.D t) (G.C t) (t : Int) = 7 → 1 < (lo : Int) ∧ l = 5 := fun t ht e7 => by
      obtain ⟨hc1, hc2⟩ := hcnt t ht
      obtain ⟨hl3, hl4⟩ := hL t ht
      have hno : ¬ (((cntB (G.D t).toNat (fun i => !srvD (frB N k) lv2 i) : Nat) : Int) ≤ G.L t - 4) := fun hle2 => by
        have := rb_told HG.out (by rw [hfd]; exact Fb0.out.gd.dn) (rows_dat G zl) hR.2 ht hle2
        rw [this] at e7; cases e7
      omega
    have hlf : (frB N k).left = -1 := by rw [hfl]; exact Fb0.out.gd.lf
    have Hsame := Lib.hid (fun (M : Bch) (I : RbI (frB N k) M G k) (hz : RbZ M G k (rsZ G zl) 16) => rb_same Fb0.out Hle.out HG.out hkD I hz)
    have HGD := Lib.hid (show ∀ r : Nat, s ≤ (r : Int) → G.D r = (D : Int) from fun r hr => by
      unfold RG.D rg
      rw [HGe.out.1.1.1.2, HGe.out.2, if_neg (by omega)])
    generalize rbS (frB N k) lv2 (k : Int) G = p at CDk I hc
    have CDk := Lib.hid CDk
    obtain ⟨g1, g2, g3⟩ := K7.out.gat (g := w1.heap.size) (l := l) (d := (D : Int)) (c := c) (t := 25) (f := (0, 0)) (by simp)
    obtain ⟨g4, g5, g6⟩ := K7.out.gat (g := w1.heap.size + 1) (l := l') (d := (D' : Int)) (c := c') (t := 25) (f := (0, 0)) (by simp)
    have hloI : (0 : Int) ≤ (lo : Int) := by omega
    clear hcnt hL hR K7 Hoth hDk hfD hfo
    rcases hc with ⟨e0, hz, hps⟩ | hc | hc
    · obtain ⟨e, N3⟩ := p
      dsimp only at e0 hz hps I
      subst e0
      have HI := Lib.hid I
      have HZ := Lib.hid hz
      have hn3 : N3.n = D' := I.n.trans hnn
      have hpend : N3.pend = 0 := pend_zero fun i hi => by
        by_cases e : i = k
        · subst e; exact hps
        · rw [I.o i e]; exact hDp i (by omega)
      have hpl : ∀ i, i < N3.n → (N3.D i).ps.length ≤ 2000000 := fun i hi => by
        by_cases e : i = k
        · subst e; rw [hps]; exact Nat.zero_le _
        · rw [I.o i e, hDp i (by omega)]; exact Nat.zero_le _
      have HS := Lib.hid (Hsame.out N3 I hz)
      have hf3 := I.f
      have hd3 := hz.1
      clear I hz hps h7 hDp hDf Hsame hlo1 hnn
      go_wp2_with fail
      (with_reducible refine CDk.out.mono ?_); rintro e w8 ⟨rfl, H8, k8⟩
      try dsimp only at k8
      have CPd := bp_pending_eq w w8 b H8 N3 k8.bp hpl
      rw [hpend] at CPd
      have CPd := Lib.hid CPd
      have K8 := Lib.hid k8
      clear k8 hpl hpend CDk g1 g2 g3 g4 g5 g6
      go_wp2_with fail
      (with_reducible refine CPd.out.mono ?_); rintro e w9 ⟨rfl, h9⟩
      have hw9 := h9.symm
      subst hw9
      clear h9 CPd
      have HV := Lib.hid (show ∀ r, r < 16 → (wantL N k 16).getD r [] = secAt (N3.D k).now (36 + r) from fun r hr => by rw [wantL_get hr, HS.out _ (by omega)])
      have H32 := Lib.hid (show ∀ r, r < 16 → (secAt (N3.D k).now (36 + r)).length = 32 from fun r hr => by rw [HS.out _ (by omega)]; exact HN32.out r hr)
      have HZr := Lib.hid (show D ≤ k → ∀ r : Nat, r < 16 → s ≤ (r : Int) → secAt (N3.D k).now (36 + r) = zeroL 32 from fun hd r hr hsr => by
        rw [HS.out _ (by omega)]
        exact Fb0.out.no hkD hr (by rw [HGD.out r hsr]; omega))
      go_upto_block 2 with fail
      refine wp_block ?_
      refine rrB _ _ _ _ _ _ _ _ _ _ _ _ _ _ _ _ _ _ _ _ _ _ _ _ _ _ _ _ _ _ _ _ _ _ _ _ _ _ _ _ _ _ _ _ _ _ _ _ _ _ _ _ _ _ _ _ _ _ _ _ _ _ _ _ _ _ _ _ _ _ _ _ _ _ _ _ _ _ _ _ _ _ _ _ _ _ _ _ _ _ _ _ _ _ _ _ _ _ _ _ _ _ _ _ _ _ _ _ _ _ _ _ _ _ _ _ _ _ _ _ _ _ _ _ _ _ _ _ _ _ _ _ _ _ _ _ _ _ _ _ _ _ _ _ _ _ _ _ _ _ _ _ _ _ _ _ _ _ _ (l := l) (D := D) (c := c) (ga := w1.heap.size) (by simp) (show k < N3.n by omega) (by omega) (by omega) hs16 hd3 hf3 (wantL_len _ _ _) H32.out HV.out HZr.out ⟨Nat.zero_le _, K8.out⟩ (fun v12 v25 v26 v27 v129 v130 v131 v132 v133 v134 v135 v136 v137 v138 v139 v140 v141 v142 v143 v144 v145 v146 v147 v148 v149 v150 v151 v152 v153 v154 v155 v156 v157 v158 v159 v160 v161 v162 r2 V2 hI2 hx2 => ?_)
      have HF := Lib.hid hI2.2.bp.bel
      have CW := Lib.hid (rbWakes_any V2)
      clear hI2
      go_wp2_with fail
      (with_reducible refine CW.out.mono ?_); rintro e w12 ⟨rfl, hb12⟩
      have F12 := HF.out.trans (hb12.mono HF.out.size)
      clear hb12
      go_wp2_with fail
      go_ret
      exact ⟨rfl, F12⟩
    · exact absurd hlf hc.2.2
    · obtain ⟨e, N3⟩ := p
      obtain ⟨e7, _, t, ht, _, ht7⟩ := hc
      dsimp only at e7 I
      subst e7
      obtain ⟨hlo2, hl5⟩ := h7 t ht ht7
      have hl5b : (l == 5) = true := by rw [hl5]; rfl
      clear I h7 hl5 ht7 Hsame hDf hDp
      go_wp2_with fail
      (with_reducible refine CDk.out.mono ?_); rintro e w8 ⟨rfl, H8, k8⟩
      have HF := Lib.hid k8.bp.bel
      clear g1 g2 g3 g4 g5 g6
      obtain ⟨g1, g2, g3⟩ := k8.gat (g := w1.heap.size) (l := l) (d := (D : Int)) (c := c) (t := 25) (f := (0, 0)) (by simp)
      obtain ⟨g4, g5, g6⟩ := k8.gat (g := w1.heap.size + 1) (l := l') (d := (D' : Int)) (c := c') (t := 25) (f := (0, 0)) (by simp)
      have CW := Lib.hid (rbWakes_any w8)
      clear k8 CDk
      go_wp2_with fail
      (with_reducible refine CW.out.mono ?_); rintro e w12 ⟨rfl, hb12⟩
      have F12 := HF.out.trans (hb12.mono HF.out.size)
      clear hb12
      go_wp2_with fail
      go_ret
      exact ⟨rfl, F12⟩
end Go.Proofs.Ytadmofpipfdedaa
end
