/- Texts put together: RebuildQuietLaw. -/
import Derived.Test.YtadmofpipfdedaaRqbk
section
set_option linter.unusedVariables false
set_option linter.unusedSimpArgs false
namespace Go.Proofs.Ytadmofpipfdedaa
open Go.RowKit

set_option maxRecDepth 100000 in
set_option maxHeartbeats 3200000 in
theorem rebuildquiet (m n split : Int) (A : Option Addr) (zl : List Int) (cl : Nat) (d limit : Int) (B : Option Addr) (ks : List Bool) (ck : Nat) (w : World) (hm : (-9223372036854775808 ≤ m ∧ m ≤ 9223372036854775807)) (hn : (-9223372036854775808 ≤ n ∧ n ≤ 9223372036854775807)) (hsp : (-9223372036854775808 ≤ split ∧ split ≤ 9223372036854775807)) (hcl : zl.length ≤ cl) (hzl : RdZ w w.heap.size A zl) (hd : (-9223372036854775808 ≤ d ∧ d ≤ 9223372036854775807)) (hli : (-9223372036854775808 ≤ limit ∧ limit ≤ 9223372036854775807)) (hck : ks.length ≤ ck) (hks : RdO w w.heap.size B ks) :
    Calls Try.prog 3 #[.int .i64 m, .int .i64 n, .int .i64 split, .slice A zl.length cl, .int .i64 d, .int .i64 limit, .slice B ks.length ck] w fun e w' => e = .returned (.bool true) ∧ Below w.heap.size w w' := by
  have Hks := Lib.hid hks
  clear hks
  have hpn := ptr_eq
  have CP := Lib.hid (fun V => playPair_can m n V hm hn)
  have bs := withinI_bd split 17 (by omega)
  have CS := Lib.hid (fun V => within_any split 17 V hsp (by omega))
  generalize withinI split 17 = s at bs CS
  have hs16 : 0 ≤ s ∧ s ≤ 16 := by omega
  have Hz := Lib.hid hzl
  clear hzl bs
  go_enter Try.func3, Try.ntmps3
  go_wp2_with fail
  (with_reducible refine (CP.out _).mono ?_); rintro e w1 ⟨l, dd, c, l', d', c', rfl, hc, hb⟩
  obtain ⟨hg1, hg2, _, hdd, hll, _⟩ := gCan_parts hc
  have hb1 := gOk_bd hg1
  have hb2 := gOk_bd hg2
  obtain ⟨D, rfl⟩ := Int.eq_ofNat_of_zero_le (show 0 ≤ dd by omega)
  obtain ⟨D', rfl⟩ := Int.eq_ofNat_of_zero_le (show 0 ≤ d' by omega)
  have hDD : D ≤ D' := by omega
  have B2 := below2 w1 (.cells #[.int .i64 l, .int .i64 (D : Int), .int .i64 c] 25) (.cells #[.int .i64 l', .int .i64 (D' : Int), .int .i64 c'] 25)
  have hB12 := hb.trans (B2.mono hb.size)
  have HB := Lib.hid hB12
  have O1 := Lib.hid (show ((w1.alloc (.cells #[.int .i64 l, .int .i64 (D : Int), .int .i64 c] 25)).alloc (.cells #[.int .i64 l', .int .i64 (D' : Int), .int .i64 c'] 25)).heap[w1.heap.size]? = some (Obj.cells #[.int .i64 l, .int .i64 (D : Int), .int .i64 c] 25 (0, 0)) from (hp_old _ _ _ (by simp)).trans (hp_new _ _ _ rfl))
  have O2 := Lib.hid (show ((w1.alloc (.cells #[.int .i64 l, .int .i64 (D : Int), .int .i64 c] 25)).alloc (.cells #[.int .i64 l', .int .i64 (D' : Int), .int .i64 c'] 25)).heap[w1.heap.size + 1]? = some (Obj.cells #[.int .i64 l', .int .i64 (D' : Int), .int .i64 c'] 25 (0, 0)) from hp_new _ _ _ (by simp))
  have hw1 := hb.size
  obtain ⟨G, hGd⟩ : ∃ G : RG, G = ⟨l, (D : Int), c, l', (D' : Int), c', s⟩ := ⟨_, rfl⟩
  have hG : G.ok = true := by rw [hGd]; exact RG.ok_mk hg1 hs16.1 hs16.2 (.inr hg2)
  have h64 : RG64 G := by rw [hGd]; exact rg64_3 ⟨⟨by omega, by omega, by omega⟩, ⟨by omega, by omega, by omega⟩, by omega⟩
  have hle : ∀ t, t < 16 → G.D t ≤ (D' : Int) := fun t _ => by
    rw [hGd]; unfold RG.D rg; dsimp only; split <;> omega
  have CB := both_any G hG h64 D' hle (by omega) (by omega) A zl zl.length cl ((w1.alloc (.cells #[.int .i64 l, .int .i64 (D : Int), .int .i64 c] 25)).alloc (.cells #[.int .i64 l', .int .i64 (D' : Int), .int .i64 c'] 25)) rfl hcl ((Hz.out.below HB.out (Nat.le_refl _)).keep HB.out.size fun _ _ => rfl)
  have HGe := Lib.hid (show (((G.l = l ∧ G.d = (D : Int)) ∧ G.c = c) ∧ (G.l' = l' ∧ G.d' = (D' : Int)) ∧ G.c' = c') ∧ G.s = s from by rw [hGd]; exact ⟨⟨⟨⟨rfl, rfl⟩, rfl⟩, ⟨rfl, rfl⟩, rfl⟩, rfl⟩)
  rw [HGe.out.1.1.1.1, HGe.out.1.1.1.2, HGe.out.1.1.2, HGe.out.1.2.1.1, HGe.out.1.2.1.2, HGe.out.1.2.2, HGe.out.2] at CB
  have CB := Lib.hid CB
  have HG := Lib.hid hG
  have H64 := Lib.hid h64
  have Hle := Lib.hid hle
  clear CP hc B2 hb hB12 hGd hG h64 hle
  go_wp2_with fail
  (with_reducible refine (CS.out _).mono ?_); rintro e w2 ⟨rfl, h2⟩
  have hw2 := h2.symm
  subst hw2
  clear h2 CS
  go_wp2_with fail
  (with_reducible refine CB.out.mono ?_); rintro e w2 ⟨b, H, N, rfl, kb, fb⟩
  have k0 := kb.open2 HB.out O1.out O2.out hw1 (by omega)
  have K0 := Lib.hid k0
  have Fb0 := Lib.hid fb
  have hNn := fb.gd.n
  obtain ⟨g1, g2, g3⟩ := k0.gat (g := w1.heap.size) (l := l) (d := (D : Int)) (c := c) (t := 25) (f := (0, 0)) (by simp)
  obtain ⟨g4, g5, g6⟩ := k0.gat (g := w1.heap.size + 1) (l := l') (d := (D' : Int)) (c := c') (t := 25) (f := (0, 0)) (by simp)
  clear kb fb k0 CB HB O1 O2 hw1
  have CC := Lib.hid (ks_clone K0.out (fun i hi => by rw [Fb0.out.gd.ps i (by omega)]; exact Nat.zero_le _))
  clear K0
  go_wp2_with fail
  (with_reducible refine CC.out.mono ?_); rintro e w3 ⟨b2, H2, LL, rfl, k3, _, hwas⟩
  have K3 := Lib.hid k3
  have Hwas := Lib.hid hwas
  clear CC hwas g1 g2 g3 g4 g5 g6
  obtain ⟨g1, g2, g3⟩ := k3.gat (g := w1.heap.size) (l := l) (d := (D : Int)) (c := c) (t := 25) (f := (0, 0)) (by simp)
  obtain ⟨g4, g5, g6⟩ := k3.gat (g := w1.heap.size + 1) (l := l') (d := (D' : Int)) (c := c') (t := 25) (f := (0, 0)) (by simp)
  have bd1 := withinI_bd d (D' : Int) (by omega)
  have CD := Lib.hid (fun V => within_any d (D' : Int) V hd (by omega))
  obtain ⟨k, hk1⟩ := Int.eq_ofNat_of_zero_le bd1.1
  rw [hk1] at CD bd1
  clear hk1 k3
  have hkD : k < D' := by omega
  go_wp2_with fail
  (with_reducible refine (CD.out _).mono ?_); rintro e w4 ⟨rfl, h4⟩
  have hw4 := h4.symm
  subst hw4
  clear h4 CD
  have CLv := Lib.hid (live_any 0 D' w3 (by omega) (by omega))
  go_wp2_with fail
  (with_reducible refine CLv.out.mono ?_); rintro e w5 ⟨gl, rfl, hgl, hglw, hb5⟩
  have K5 := Lib.hid (K3.out.block hb5 hgl hglw)
  have HLne := Lib.hid (show ∀ r ∈ LL ++ [(w1.heap.size, Obj.cells #[.int .i64 l, .int .i64 (D : Int), .int .i64 c] 25 (0, 0)), (w1.heap.size + 1, Obj.cells #[.int .i64 l', .int .i64 (D' : Int), .int .i64 c'] 25 (0, 0))], r.1 ≠ gl from fun r hr e => by
    have h1 := (Array.getElem?_eq_some_iff.1 (K3.out.kx.kp r hr).1).1
    omega)
  have i0 : (0 : Int) ≤ (k : Int) := by omega
  have i1 : (k : Int) < (D' : Int) := by omega
  have hl0 : (liveL 0 D').length = D' := liveL_len _ _
  have hlv : ((liveL 0 D').set k false).length = D' := by rw [List.length_set]; exact hl0
  have hlk : ((liveL 0 D').set k false).getD k false = false := by
    rw [List.getD_eq_getElem?_getD, List.getElem?_set_self (by omega)]; rfl
  have hlt2 : ∀ i, i < D' → i ≠ k → ((liveL 0 D').set k false).getD i false = true := fun i hi hne => by
    rw [List.getD_eq_getElem?_getD, List.getElem?_set_ne (by omega), ← List.getD_eq_getElem?_getD]
    exact live0 hi
  obtain ⟨hc0, hf0, hb0, gg0⟩ := lv_setCell hgl (d := k) (by rw [hl0]; omega) false
  have K6 := Lib.hid (K5.out.putB gg0 hb0 HLne.out)
  generalize (liveL 0 D').set k false = lv at hlv hlk hlt2 K6
  have Hlt := Lib.hid hlt2
  clear hgl hglw hb5 hb0 gg0 K5 K3 hlt2 hl0 CLv g1 g2 g3 g4 g5 g6
  go_upto_region 12 with fail
  generalize w5.setCell ⟨gl, k, none⟩ (.bool false) = w6 at K6 ⊢
  clear hc0 hf0
  have hfr := fr_ok (N := N) (k := k) (by omega)
  have CF := Lib.hid (ks_fail K6.out (k : Int) ⟨by omega, by omega⟩)
  rw [hfr.1] at CF
  go_wp2_with fail
  (with_reducible refine CF.out.mono ?_); rintro e w7 ⟨rfl, H7, k7⟩
  have CRp := Lib.hid (ks_replace k7 (k : Int) ⟨by omega, by omega⟩)
  clear k7 CF K6
  go_wp2_with fail
  (with_reducible refine CRp.out.mono ?_); rintro e w7 ⟨rfl, H7, k7⟩
  have K7 := Lib.hid (show KS w w7 b H7 (frB N k) ((gl, Obj.cells (lv.map Value.bool).toArray 4 (0, 0)) :: (LL ++ [(w1.heap.size, Obj.cells #[.int .i64 l, .int .i64 (D : Int), .int .i64 c] 25 (0, 0)), (w1.heap.size + 1, Obj.cells #[.int .i64 l', .int .i64 (D' : Int), .int .i64 c'] 25 (0, 0))])) [] [] from k7)
  clear k7 CRp
  have bl1 := withinI_bd limit 20 (by omega)
  have CLm := Lib.hid (fun V => within_any limit 20 V hli (by omega))
  generalize withinI limit 20 = lim at bl1 CLm
  obtain ⟨_, _, hfD, hfn, hfd, hfl, hfo⟩ := hfr
  have hla := limit_all (N := frB N k) (v := lim) (by rw [hfd]; exact Fb0.out.gd.dn) bl1.1
  have CLi := Lib.hid (ks_limit (K7.out.below (Below.refl _ w7).drew) lim ⟨by omega, by omega⟩)
  have HBk := Lib.hid (show Bk N ((frB N k).limit lim) D' G k from ⟨by rw [hla.1, hfn]; exact hNn, hla.2.1, fun i hi hne => by rw [hla.2.2.1, hfD, if_neg hne], by rw [hla.2.2.1, hfD, if_pos rfl]; rfl, by rw [hla.2.2.1, hfD, if_pos rfl]; exact OutK.new⟩)
  have HM1 := Lib.hid (show ((frB N k).limit lim).done = 0 ∧ ∀ i, i < ((frB N k).limit lim).n → (((frB N k).limit lim).D i).ps = [] from ⟨by rw [hla.2.2.2.1, hfo]; exact Fb0.out.gd.done, fun i hi => by
    rw [hla.1, hfn, hNn] at hi
    rw [hla.2.2.1, hfD]
    split
    · rfl
    · exact Fb0.out.gd.ps i hi⟩)
  generalize (frB N k).limit lim = M1 at CLi HBk HM1
  clear hfD hfn hfd hfl hfo hla
  go_wp2_with fail
  refine wp_region_noPanic (region_ord 6 [] (fun V => Below w.heap.size w V) (by kernel_rfl) (by kernel_rfl) (fun _ _ _ _ _ h => h) fun R => ?_)
  change anyI _ _ _ _ _ _ 6 _ _ w7.drew
  have HS0 := Lib.hid (show (fun V => Below w.heap.size w V) w7.drew from (K7.out.bp.bel.trans ((Below.refl _ w7).drew.mono K7.out.bp.bel.size)))
  obtain ⟨V0, hV0⟩ : ∃ V, w7.drew = V := ⟨_, rfl⟩
  rw [hV0] at HS0 CLi ⊢
  clear hV0
  refine' anyI_take R 0 rfl (v := ?_) (by kernel_rfl) (by rfl) (fun V hV => ?hy) HS0.out ?_
  case hy => ((try dsimp only at hV);  go_simp; try with_reducible rfl)
  try simp only [Act.put, List.getElem_toArray, List.getElem_cons_succ, List.getElem_cons_zero, List.setIfInBounds_toArray, List.set_cons_zero, List.set_cons_succ]
  refine' anyI_take R 1 rfl (v := ?_) (by kernel_rfl) (by rfl) (fun V hV => ?hy) HS0.out ?_
  case hy => ((try dsimp only at hV);  go_simp; try with_reducible rfl)
  try simp only [Act.put, List.getElem_toArray, List.getElem_cons_succ, List.getElem_cons_zero, List.setIfInBounds_toArray, List.set_cons_zero, List.set_cons_succ]
  refine' anyI_take R 2 rfl (v := ?_) (by kernel_rfl) (by rfl) (fun V hV => ?hy) HS0.out ?_
  case hy => ((try dsimp only at hV);  go_simp; try with_reducible rfl)
  try simp only [Act.put, List.getElem_toArray, List.getElem_cons_succ, List.getElem_cons_zero, List.setIfInBounds_toArray, List.set_cons_zero, List.set_cons_succ]
  refine' anyI_take R 3 rfl (v := ?_) (by kernel_rfl) (by rfl) (fun V hV => ?hy) HS0.out ?_
  case hy => ((try dsimp only at hV);  go_simp; try with_reducible rfl)
  try simp only [Act.put, List.getElem_toArray, List.getElem_cons_succ, List.getElem_cons_zero, List.setIfInBounds_toArray, List.set_cons_zero, List.set_cons_succ]
  refine anyI_one 4 (by kernel_rfl) rfl ?_
  try simp only [List.getElem_toArray, List.getElem_cons_succ, List.getElem_cons_zero]
  refine opE_step ?_
  rw [if_pos (by rfl)]
  go_simp
  go_at_call 11
  (with_reducible refine (CLm.out _).mono ?_)
  rintro e wn ⟨rfl, hwn⟩
  rw [hwn]
  clear hwn
  try dsimp only
  refine ⟨HS0.out, ?_⟩
  try simp only [Act.put, List.getElem_toArray, List.getElem_cons_succ, List.getElem_cons_zero, List.setIfInBounds_toArray, List.set_cons_zero, List.set_cons_succ]
  refine anyI_one 5 (by kernel_rfl) rfl ?_
  try simp only [List.getElem_toArray, List.getElem_cons_succ, List.getElem_cons_zero]
  refine opE_step ?_
  rw [if_pos (by rfl)]
  go_simp
  go_at_call 17
  (with_reducible refine CLi.out.mono ?_)
  rintro e w8 ⟨rfl, H8, k8⟩
  have K8 := Lib.hid k8
  replace HS0 := Lib.hid (show Below w.heap.size w w8 from K8.out.bp.bel)
  clear k8
  try dsimp only
  refine ⟨HS0.out, ?_⟩
  try simp only [Act.put, List.getElem_toArray, List.getElem_cons_succ, List.getElem_cons_zero, List.setIfInBounds_toArray, List.set_cons_zero, List.set_cons_succ]
  refine anyI_tail (by kernel_rfl) ?_
  try simp only [List.drop_succ_cons, List.drop_zero]
  clear R
  go_wp2_with fail
  refine NoPanic.normal ?_
  clear HS0 CLi CLm K7
  obtain ⟨g1, g2, g3⟩ := K8.out.gat (g := w1.heap.size) (l := l) (d := (D : Int)) (c := c) (t := 25) (f := (0, 0)) (by simp)
  obtain ⟨g4, g5, g6⟩ := K8.out.gat (g := w1.heap.size + 1) (l := l') (d := (D' : Int)) (c := c') (t := 25) (f := (0, 0)) (by simp)
  obtain ⟨hh1, _⟩ := HBk.out.rbh Fb0.out Hle.out HG.out hkD hlk Hlt.out
  have hrun := HBk.out.run Fb0.out Hle.out HG.out hkD hlk Hlt.out
  have CDk := ks_disk_fok K8.out lv (some ⟨gl, 0, none⟩) D' D' hlv.symm (K8.out.lv (g := gl) (lv := lv) (t := 4) (f := (0, 0)) (List.mem_cons_self ..) rfl (by omega)) k G H64.out hh1 (fun i hi => by rw [HM1.out.2 i hi]; exact Nat.zero_le _) (by rw [HM1.out.1]; omega)
  rw [HGe.out.1.1.1.1, HGe.out.1.1.1.2, HGe.out.1.1.2, HGe.out.1.2.1.1, HGe.out.1.2.1.2, HGe.out.1.2.2, HGe.out.2] at CDk
  have hpd := Lib.hid (fun j => rbS_pend M1 lv k G j)
  have hdo := rbS_done M1 lv (k : Int) G
  rw [HM1.out.1] at hdo
  generalize rbS M1 lv (k : Int) G = p at CDk hrun hpd hdo
  obtain ⟨E, N3⟩ := p
  dsimp only at CDk hrun hpd hdo
  have CDk := Lib.hid CDk
  have HI3 := Lib.hid hrun.1
  have HC3 := Lib.hid hrun.2
  clear hh1 hrun K8
  go_wp2_with fail
  (with_reducible refine CDk.out.mono ?_); rintro e w9 ⟨rfl, H9, k9⟩
  have K9 := Lib.hid k9
  clear k9 CDk g1 g2 g3 g4 g5 g6
  go_upto_region 16 with fail
  go_cut [77, 78, 79, 80, 81, 82, 83, 84, 85, 86, 87, 88, 89, 90, 91] (fun _ _ _ _ _ _ _ _ _ _ _ _ _ _ v91 W => v91 = .bool false ∧ W = w9)
  case first =>
    have CDn := Lib.hid (bp_down w w9 b H9 N3 K9.out.bp)
    rcases HC3.out with ⟨hE, hz, _⟩ | ⟨hE, hdn, _⟩
    · try dsimp only at hE hz
      rw [hz.1] at CDn
      subst hE
      clear hz HC3
      go_wp2_with fail
      (with_reducible refine CDn.out.mono ?_); rintro e w10 ⟨rfl, h10⟩
      have hw10 := h10.symm
      subst hw10
      clear h10
      go_wp2_with fail
      go_meet
      exact ⟨rfl, rfl⟩
    · try dsimp only at hE hdn
      rw [hdn] at CDn
      subst hE
      clear hdn HC3
      go_wp2_with fail
      (with_reducible refine CDn.out.mono ?_); rintro e w10 ⟨rfl, h10⟩
      have hw10 := h10.symm
      subst hw10
      clear h10
      go_wp2_with fail
      go_meet
      exact ⟨rfl, rfl⟩
  case rest =>
    obtain ⟨rfl, hwc⟩ := hcut
    have hw9 := hwc.symm
    subst hw9
    clear hwc HC3
    have hn3 : N3.n = D' := HI3.out.n.trans HBk.out.n
    have CCr := Lib.hid (ks_crash K9.out ks B ks.length ck rfl hck Hks.out (fun i hi => Nat.le_trans (hpd.out i) (by rw [HM1.out.2 i (by rw [HBk.out.n]; omega)]; show 0 + 16 ≤ 2000000; omega)))
    have HBk4 := Lib.hid (HBk.out.crash Fb0.out HI3.out hkD ks)
    have HN4 := Lib.hid (show (N3.crash ks).left = -1 ∧ (N3.crash ks).done ≤ 16 ∧ ∀ i, i < D' → ((N3.crash ks).D i).ps = [] from ⟨rfl, by show N3.done ≤ 16; omega, fun i hi => by rw [crash_D (by omega)]; rfl⟩)
    clear K9 hpd HI3 HBk HM1 hdo
    go_wp2_with fail
    (with_reducible refine CCr.out.mono ?_); rintro e w10 ⟨rfl, H10, k10⟩
    have K10 := Lib.hid k10
    clear k10 CCr
    generalize N3.crash ks = N4 at K10 HBk4 HN4
    obtain ⟨hl4, hd4, hp4⟩ := HN4.out
    have hn4 := HBk4.out.n
    obtain ⟨g1, g2, g3⟩ := K10.out.gat (g := w1.heap.size) (l := l) (d := (D : Int)) (c := c) (t := 25) (f := (0, 0)) (by simp)
    obtain ⟨g4, g5, g6⟩ := K10.out.gat (g := w1.heap.size + 1) (l := l') (d := (D' : Int)) (c := c') (t := 25) (f := (0, 0)) (by simp)
    obtain ⟨hh4, _⟩ := HBk4.out.rbh Fb0.out Hle.out HG.out hkD hlk Hlt.out
    have hrun := HBk4.out.run Fb0.out Hle.out HG.out hkD hlk Hlt.out
    have CDk := ks_disk_fok K10.out lv (some ⟨gl, 0, none⟩) D' D' hlv.symm (K10.out.lv (g := gl) (lv := lv) (t := 4) (f := (0, 0)) (List.mem_cons_self ..) rfl (by omega)) k G H64.out hh4 (fun i hi => by rw [hp4 i (by omega)]; exact Nat.zero_le _) (by omega)
    rw [HGe.out.1.1.1.1, HGe.out.1.1.1.2, HGe.out.1.1.2, HGe.out.1.2.1.1, HGe.out.1.2.1.2, HGe.out.1.2.2, HGe.out.2] at CDk
    generalize rbS N4 lv (k : Int) G = p at CDk hrun
    obtain ⟨E5, N5⟩ := p
    dsimp only at CDk hrun
    obtain ⟨I5, h5⟩ := hrun
    rcases h5 with ⟨hE, hz5, hp5⟩ | h5
    · subst hE
      have hn5 : N5.n = D' := I5.n.trans hn4
      have hps5 : ∀ i, i < D' → (N5.D i).ps = [] := fun i hi => by
        by_cases e : i = k
        · subst e; exact hp5
        · rw [I5.o i e]; exact hp4 i hi
      have hpend : N5.pend = 0 := pend_zero fun i hi => hps5 i (by omega)
      have HS := Lib.hid (show ∀ i, i < D' → ∀ r, r < 52 → secAt (N5.D i).now r = secAt (N.D i).now r from fun i hi r hr => by
        by_cases e : i = k
        · subst e; exact rb_same Fb0.out Hle.out HG.out hkD I5 hz5 r hr
        · rw [I5.o i e, HBk4.out.o i hi e])
      have HF5 := Lib.hid (show ∀ i, i < D' → (N5.D i).f = false from fun i hi => by
        by_cases e : i = k
        · subst e; exact I5.f
        · rw [I5.o i e, HBk4.out.o i hi e]; exact Fb0.out.gd.f i hi)
      have hd5 := hz5.1
      have hpl : ∀ i, i < N5.n → (N5.D i).ps.length ≤ 2000000 := fun i hi => by rw [hps5 i (by omega)]; exact Nat.zero_le _
      have H32 := Lib.hid (show ∀ d, d < D' → ∀ r, r < 52 → (secAt (N.D d).now r).length = 32 from fun d hd r hr => secAt_len (by rw [(Fb0.out.gd.ok d hd).now]; omega))
      have CDk := Lib.hid CDk
      clear I5 hz5 hp5 hps5 hh4 hp4 HN4 HBk4 K10 Hlt
      go_wp2_with fail
      (with_reducible refine CDk.out.mono ?_); rintro e w11 ⟨rfl, H11, k11⟩
      have CPd := bp_pending_eq w w11 b H11 N5 k11.bp hpl
      rw [hpend] at CPd
      have CPd := Lib.hid CPd
      have K11 := Lib.hid (k11.less (K' := LL ++ [(w1.heap.size, Obj.cells #[.int .i64 l, .int .i64 (D : Int), .int .i64 c] 25 (0, 0)), (w1.heap.size + 1, Obj.cells #[.int .i64 l', .int .i64 (D' : Int), .int .i64 c'] 25 (0, 0))]) (R' := []) (S' := []) (fun p hp => List.mem_cons_of_mem _ hp) (fun _ h => h) (fun _ h => h))
      clear k11 hpl hpend CDk g1 g2 g3 g4 g5 g6
      go_wp2_with fail
      (with_reducible refine CPd.out.mono ?_); rintro e w12 ⟨rfl, h12⟩
      have hw12 := h12.symm
      subst hw12
      clear h12 CPd
      go_upto_block 0 with fail
      refine wp_block ?_
      refine rqC _ _ _ _ _ _ _ _ _ _ _ _ _ _ _ _ _ _ _ _ _ _ _ _ _ _ _ _ _ _ _ _ _ _ _ _ _ _ _ _ _ _ _ _ _ _ _ _ _ _ _ _ _ _ _ _ _ _ _ _ _ _ _ _ _ _ _ _ _ _ _ _ _ _ _ _ _ _ _ _ _ _ _ _ _ _ _ _ _ _ _ _ _ _ _ _ _ _ _ _ _ _ _ _ _ _ _ _ _ _ _ _ _ _ _ _ _ _ _ _ _ _ _ _ _ _ _ _ _ _ _ _ _ _ _ _ _ _ _ _ _ _ (l' := l') (D := D') (c' := c') (gt := w1.heap.size + 1) (N := N) (by omega) (by simp) hn5 hNn hd5 Fb0.out.gd.dn HF5.out (fun d hd => Fb0.out.gd.f d hd) H32.out HS.out (fun V hV => Hwas.out V fun p hp => hV p (List.mem_append_left _ hp)) ⟨Nat.zero_le _, K11.out⟩ (fun v14 v22 v23 v24 v25 v26 v108 v109 v110 v111 v112 v113 v114 v115 v116 v117 v118 v119 v120 v121 v122 v123 v124 v125 v126 v127 v128 v129 v130 v131 v132 v133 v134 v135 v136 v137 v138 v139 v140 v141 v142 v143 d3 V3 hI3 hxx3 => ?_)
      have HF := Lib.hid hI3.2.bp.bel
      have CW := Lib.hid (rbWakes_any V3)
      clear hI3 hxx3 HS H32 K11
      go_wp2_with fail
      (with_reducible refine CW.out.mono ?_); rintro e w13 ⟨rfl, hb13⟩
      have F13 := HF.out.trans (hb13.mono HF.out.size)
      clear hb13
      go_wp2_with fail
      go_ret
      exact ⟨rfl, F13⟩
    · exact absurd hl4 h5.2.2
end Go.Proofs.Ytadmofpipfdedaa
end
