/- Texts put together: UpdateErrorsLaw. -/
import Derived.Test.YtenkkdnepmoihaaGreatDoorUebn
section
set_option linter.unusedVariables false
set_option linter.unusedSimpArgs false
namespace Go.Proofs.YtenkkdnepmoihaaGreatDoor
open Go.RowKit

set_option maxRecDepth 100000 in
set_option maxHeartbeats 3200000 in
theorem updateerrors (hu : UpdC) (hp : UpdP) (n at0 sz0 : Int) (A : Option Addr) (zl : List Int) (cl : Nat) (aa cc : Int) (w : World) (hn : (-9223372036854775808 ≤ n ∧ n ≤ 9223372036854775807)) (hat : (-9223372036854775808 ≤ at0 ∧ at0 ≤ 9223372036854775807)) (hsz : (-9223372036854775808 ≤ sz0 ∧ sz0 ≤ 9223372036854775807)) (hcl : zl.length ≤ cl) (hzl : RdZ w w.heap.size A zl) (haa : (-9223372036854775808 ≤ aa ∧ aa ≤ 9223372036854775807)) (hcc : (-9223372036854775808 ≤ cc ∧ cc ≤ 9223372036854775807)) (ht : TabOk w) :
    Calls Tryz.prog 4 #[.int .i64 n, .int .i64 at0, .int .i64 sz0, .slice A zl.length cl, .int .i64 aa, .int .i64 cc] w fun e w' => e = .returned (.bool true) ∧ Below w.heap.size w w' := by
  have hpn := ptr_eq
  have HP := Lib.hid (fun V => playGood_any n V hn)
  obtain ⟨D, F, W, hD, gr⟩ := gr_of n (r := 0) (by omega) (by omega)
  rw [hD] at HP
  have hd8 := gr.d8; have hd3 := gr.d3; have hw7 := gr.w7
  have CW1 := Lib.hid (fun V => within_any at0 1000 V hat (by omega))
  have hnb := withinI_bd at0 1000 (by omega)
  generalize withinI at0 1000 = n0 at CW1 hnb
  have CW2 := Lib.hid (fun V => within_any sz0 32 V hsz (by omega))
  have hzb := withinI_bd sz0 32 (by omega)
  obtain ⟨z0, hz0⟩ := Int.eq_ofNat_of_zero_le hzb.1
  rw [hz0] at CW2 hzb
  have hz32 : z0 < 32 := by omega
  obtain ⟨nn, hnn⟩ : ∃ nn, 1 + n0 = nn := ⟨_, rfl⟩
  have hnnb : 1 ≤ nn ∧ nn ≤ 1000 := by omega
  have Hnn := Lib.hid hnn
  have CSc := Lib.hid (fun V => sector_any nn V (by omega))
  have hx := sectorB_len nn
  generalize sectorB nn = x at CSc hx
  generalize goL n = l at *
  generalize goC n = c at *
  have L1 := gr.l64
  have L2 := gr.d64
  have L3 := gr.c64
  have hg := (plOk_yes gr.ok).1
  have hcap : gCap l (D : Int) c = (W : Int) * 16 := by rw [gCap_yes hg, ← gWid_yes hg, gr.wd]
  have w1 := gr.w1
  have CC := Lib.hid (fun V => refCapacity_any l (D : Int) c V gr.l64 gr.d64 gr.c64)
  obtain ⟨cap, hce⟩ : ∃ cap, gCap l (D : Int) c = cap := ⟨_, rfl⟩
  rw [hce] at CC
  have hcap2 : 16 ≤ cap ∧ cap ≤ 112 := by omega
  have Hng := Lib.hid (show IntKind.i64.wrap (-nn) = -nn from by rw [IntKind.wrap_i64]; omega)
  have Hca := Lib.hid (show IntKind.i64.wrap (cap - 1) = cap - 1 from by rw [IntKind.wrap_i64]; omega)
  have Hcb := Lib.hid (show IntKind.i64.wrap (cap - 1 + nn) = cap - 1 + nn from by rw [IntKind.wrap_i64]; omega)
  have E6 := fun N lv => show upE N lv l (D : Int) c (-nn) x = 4 from by unfold upE; rw [if_neg (by omega), if_pos (plOfOk_no (by omega))]
  have E18 := fun N lv => show upE N lv l (D : Int) c (cap - 1 + nn) x = 4 from by unfold upE; rw [if_neg (by omega), if_pos (plOfOk_no (by omega))]
  have hxt : (x.take z0).length = z0 := by rw [List.length_take]; omega
  have E28 := fun N lv => show upE N lv l (D : Int) c 0 (x.take z0) = 1 from if_pos (by omega)
  have E37 := fun N lv => show upE N lv l (D : Int) c (-nn) [] = 1 from if_pos (by simp)
  have CFl := Lib.hid (fun (w1 : World) (hb1 : Below w.heap.size w w1) => filled_open gr D (Nat.le_refl _) hd8 zl.length cl hb1 rfl hcl hzl)
  have Gr' := Lib.hid gr
  have hll := liveL_len 0 D
  have hlive := fun i (hi : i < D) => live0 hi
  have Hz0 := Lib.hid hz0
  clear hD hn hat hsz hzl hz0 hnn hce hcap hg hzb
  go_enter Tryz.func4, Tryz.ntmps4
  go_wp2_with fail
  (with_reducible refine (HP.out _).mono ?_); rintro e w1 ⟨rfl, hb1⟩
  have G := gat_new w1 l D c 24 (0, 0)
  obtain ⟨g1, g2, g3⟩ := G
  have CFl1 := Lib.hid (CFl.out w1 hb1)
  clear hb1 CFl
  go_wp2_with fail
  (with_reducible refine CFl1.out.mono ?_); rintro e w2 ⟨b, H0, N0, rfl, k0, f0⟩
  have CLv := Lib.hid (ks_live k0 0 D (by omega) (by omega))
  obtain ⟨g4, g5, g6⟩ := k0.gat (g := w1.heap.size) (l := l) (d := (D : Int)) (c := c) (t := 24) (f := (0, 0)) (by simp)
  have Hf0 := Lib.hid f0
  clear k0 f0 CFl1 g1 g2 g3
  generalize w1.heap.size = gb at *
  go_wp2_with fail
  (with_reducible refine CLv.out.mono ?_); rintro e w3 ⟨gl, rfl, k1⟩
  generalize liveL 0 D = lv at hll k1 hlive
  have hglb : gl ≠ gb := fun e => by
    subst e
    have h1 := (k1.kx.kp (gl, Obj.cells (lv.map Value.bool).toArray 4 (0, 0)) (by simp)).1
    have h2 := (k1.kx.kp (gl, Obj.cells #[.int .i64 l, .int .i64 (D : Int), .int .i64 c] 24 (0, 0)) (by simp)).1
    rw [h1] at h2
    injection h2 with h2
    injection h2 with h2 _ _
    have h3 := congrArg (fun a => a[0]?) h2
    simp only [List.getElem?_toArray, List.getElem?_map] at h3
    rw [List.getElem?_eq_getElem (by omega)] at h3
    cases h3
  have K1 := Lib.hid k1
  have ha := Hf0.out.arr lv
  have hup : Up N0 D := ⟨Hf0.out.gd.n, Hf0.out.gd.dn, Hf0.out.gd.f⟩
  have hdn0 : N0.done = 0 := Hf0.out.gd.done
  have hdn9 : N0.done ≤ 900000 := by rw [hdn0]; omega
  have hsv : ∀ i, i < D → srvD N0 lv i = true := fun i hi => srvD_mk (by rw [hup.n]; exact hi) (hlive i hi) (hup.f i hi)
  have hcnt : ((cntB D (fun i => !srvD N0 lv i) : Nat) : Int) ≤ l - 4 := by
    rw [cntB_none fun i hi => by rw [hsv i hi]; rfl]
    have := gr.lv; omega
  have e00 : plN l (D : Int) c ((0 : Nat) : Int) ((0 : Nat) : Int) = 0 := by unfold plN; simp
  have u0 : upE N0 lv l (D : Int) c 0 x = 0 := by
    have := (up_at (k := 0) (gr.at (show 0 < 16 by omega)) (by omega) hx (ha.ok gr (show 0 < 16 by omega) hcnt)).1
    rwa [e00] at this
  have C6 := fun (gx : Nat) (V : World) (H' : BH) (k' : KS w V b H' N0 [(gl, Obj.cells (lv.map Value.bool).toArray 4 (0, 0)), (gb, Obj.cells #[.int .i64 l, .int .i64 (D : Int), .int .i64 c] 24 (0, 0))] [] [(some ⟨gx, 0, none⟩, x)]) => ks_doNo k' hu ht lv (some ⟨gl, 0, none⟩) D D hll.symm (k'.lv (g := gl) (t := 4) (f := (0, 0)) (lv := lv) (by simp) rfl (by omega)) l (D : Int) c (-nn) L1 L2 L3 (by omega) (some ⟨gx, 0, none⟩) 32 32 x hx (Nat.le_refl _) (k'.sl (A := some ⟨gx, 0, none⟩) (bs := x) (by simp)) 1 (by omega) (fun j hj => by rw [ha.st.good.ps j hj]; exact Nat.zero_le _) hdn9 4 (E6 _ _) (by decide)
  have C18 := fun (gx : Nat) (V : World) (H' : BH) (k' : KS w V b H' N0 [(gl, Obj.cells (lv.map Value.bool).toArray 4 (0, 0)), (gb, Obj.cells #[.int .i64 l, .int .i64 (D : Int), .int .i64 c] 24 (0, 0))] [] [(some ⟨gx, 0, none⟩, x)]) => ks_doNo k' hu ht lv (some ⟨gl, 0, none⟩) D D hll.symm (k'.lv (g := gl) (t := 4) (f := (0, 0)) (lv := lv) (by simp) rfl (by omega)) l (D : Int) c (cap - 1 + nn) L1 L2 L3 (by omega) (some ⟨gx, 0, none⟩) 32 32 x hx (Nat.le_refl _) (k'.sl (A := some ⟨gx, 0, none⟩) (bs := x) (by simp)) 1 (by omega) (fun j hj => by rw [ha.st.good.ps j hj]; exact Nat.zero_le _) hdn9 4 (E18 _ _) (by decide)
  have C28 := fun (gx : Nat) (V : World) (H' : BH) (k' : KS w V b H' N0 [(gl, Obj.cells (lv.map Value.bool).toArray 4 (0, 0)), (gb, Obj.cells #[.int .i64 l, .int .i64 (D : Int), .int .i64 c] 24 (0, 0))] [] [(some ⟨gx, 0, none⟩, x)]) => ks_doNo k' hu ht lv (some ⟨gl, 0, none⟩) D D hll.symm (k'.lv (g := gl) (t := 4) (f := (0, 0)) (lv := lv) (by simp) rfl (by omega)) l (D : Int) c 0 L1 L2 L3 (by omega) (some ⟨gx, 0, none⟩) z0 32 (x.take z0) hxt (by omega) ((k'.sl (A := some ⟨gx, 0, none⟩) (bs := x) (by simp)).take z0) 1 (by omega) (fun j hj => by rw [ha.st.good.ps j hj]; exact Nat.zero_le _) hdn9 1 (E28 _ _) (by decide)
  have C37 := fun (gx : Nat) (V : World) (H' : BH) (k' : KS w V b H' N0 [(gl, Obj.cells (lv.map Value.bool).toArray 4 (0, 0)), (gb, Obj.cells #[.int .i64 l, .int .i64 (D : Int), .int .i64 c] 24 (0, 0))] [] [(some ⟨gx, 0, none⟩, x)]) => ks_doNo k' hu ht lv (some ⟨gl, 0, none⟩) D D hll.symm (k'.lv (g := gl) (t := 4) (f := (0, 0)) (lv := lv) (by simp) rfl (by omega)) l (D : Int) c (-nn) L1 L2 L3 (by omega) none 0 0 [] rfl (Nat.le_refl _) (RdB.nil _ _ _) 1 (by omega) (fun j hj => by rw [ha.st.good.ps j hj]; exact Nat.zero_le _) hdn9 1 (E37 _ _) (by decide)
  have C45 := fun (gx : Nat) (V : World) (H' : BH) (k' : KS w V b H' N0 [(gl, Obj.cells (lv.map Value.bool).toArray 4 (0, 0)), (gb, Obj.cells #[.int .i64 l, .int .i64 (D : Int), .int .i64 c] 24 (0, 0))] [] [(some ⟨gx, 0, none⟩, x)]) => ks_doBad k' hu ht lv (some ⟨gl, 0, none⟩) D D hll.symm (k'.lv (g := gl) (t := 4) (f := (0, 0)) (lv := lv) (by simp) rfl (by omega)) l (D : Int) c 0 L1 L2 L3 (by omega) (some ⟨gx, 0, none⟩) 32 32 x hx (Nat.le_refl _) (k'.sl (A := some ⟨gx, 0, none⟩) (bs := x) (by simp)) 0 (by omega) (fun e => ha.fok gr hx e) (fun j hj => by rw [ha.st.good.ps j hj]; exact Nat.zero_le _) hdn9 u0 (by omega)
  have C53 := fun (gx : Nat) (V : World) (H' : BH) (k' : KS w V b H' N0 [(gl, Obj.cells (lv.map Value.bool).toArray 4 (0, 0)), (gb, Obj.cells #[.int .i64 l, .int .i64 (D : Int), .int .i64 c] 24 (0, 0))] [] [(some ⟨gx, 0, none⟩, x)]) => ks_emptyNo k' hu ht lv (some ⟨gl, 0, none⟩) D D hll.symm (k'.lv (g := gl) (t := 4) (f := (0, 0)) (lv := lv) (by simp) rfl (by omega)) (-nn) (by omega) (fun j hj => by rw [ha.st.good.ps j hj]; exact Nat.zero_le _) hdn9 (by omega)
  have Ha := Lib.hid (fun lv' => Hf0.out.arr lv')
  have Hup := Lib.hid hup
  replace C6 := Lib.hid C6
  replace C18 := Lib.hid C18
  replace C28 := Lib.hid C28
  replace C37 := Lib.hid C37
  replace C45 := Lib.hid C45
  replace C53 := Lib.hid C53
  obtain ⟨g1, g2, g3⟩ := k1.gat (g := gb) (l := l) (d := (D : Int)) (c := c) (t := 24) (f := (0, 0)) (by simp)
  clear k1 CLv g4 g5 g6 Hf0 ha hup hsv hcnt u0 e00 E6 E18 E28 E37 gr hxt
  go_wp2_with fail
  (with_reducible refine (CW1.out _).mono ?_); rintro e w3' ⟨rfl, rfl⟩
  go_wp2_with fail
  (with_reducible refine (CW2.out _).mono ?_); rintro e w3'' ⟨rfl, rfl⟩
  go_wp2_with fail
  rw [Hnn.out]
  (with_reducible refine (CSc.out _).mono ?_); rintro e w4 ⟨gx, rfl, hxo, hbx⟩
  have hgxl : gx ≠ gl := fun e => by
    have h1 := (hxo.lt gx rfl).1
    have h2 := (Array.getElem?_eq_some_iff.1 (K1.out.kx.kp (gl, Obj.cells (lv.map Value.bool).toArray 4 (0, 0)) (by simp)).1).1
    dsimp only at h2
    omega
  have Kw := Lib.hid (K1.out.slice hbx hxo.rdbf)
  replace C6 := Lib.hid (C6.out gx)
  replace C18 := Lib.hid (C18.out gx)
  replace C28 := Lib.hid (C28.out gx)
  replace C37 := Lib.hid (C37.out gx)
  replace C45 := Lib.hid (C45.out gx)
  replace C53 := Lib.hid (C53.out gx)
  clear hbx hxo K1 g1 g2 g3
  have hzi : (z0 : Int) ≤ 32 := by omega
  go_wp2_with fail
  refine wp_region_noPanic (region_ord 56 [] (fun V => GAt V gb l (D : Int) c) (by kernel_rfl) (by kernel_rfl) (fun _ _ _ _ _ h => h) fun R => ?_)
  change anyI _ _ _ _ _ _ 56 _ _ w4.drew
  have HS0 := Lib.hid (show (fun V => GAt V gb l (D : Int) c) w4.drew from (Kw.out.below (Below.refl _ w4).drew).gat (g := gb) (l := l) (d := (D : Int)) (c := c) (t := 24) (f := (0, 0)) (by simp))
  have K0 := Lib.hid (Kw.out.below (Below.refl _ w4).drew)
  obtain ⟨V0, hV0⟩ : ∃ V, w4.drew = V := ⟨_, rfl⟩
  rw [hV0] at HS0 K0 ⊢
  clear hV0
  refine' anyI_take R 0 rfl (v := ?_) (by kernel_rfl) (by rfl) (fun V hV => ?hy) HS0.out ?_
  case hy => ((try dsimp only at hV);  obtain ⟨y0, y1, y2⟩ := hV; go_simp; try with_reducible rfl)
  try simp only [Act.put, List.getElem_toArray, List.getElem_cons_succ, List.getElem_cons_zero, List.setIfInBounds_toArray, List.set_cons_zero, List.set_cons_succ]
  refine' anyI_take R 1 rfl (v := ?_) (by kernel_rfl) (by rfl) (fun V hV => ?hy) HS0.out ?_
  case hy => ((try dsimp only at hV);  obtain ⟨y0, y1, y2⟩ := hV; go_simp; try with_reducible rfl)
  try simp only [Act.put, List.getElem_toArray, List.getElem_cons_succ, List.getElem_cons_zero, List.setIfInBounds_toArray, List.set_cons_zero, List.set_cons_succ]
  refine' anyI_take R 2 rfl (v := ?_) (by kernel_rfl) (by rfl) (fun V hV => ?hy) HS0.out ?_
  case hy => ((try dsimp only at hV);  obtain ⟨y0, y1, y2⟩ := hV; go_simp; try with_reducible rfl)
  try simp only [Act.put, List.getElem_toArray, List.getElem_cons_succ, List.getElem_cons_zero, List.setIfInBounds_toArray, List.set_cons_zero, List.set_cons_succ]
  refine' anyI_take R 3 rfl (v := ?_) (by kernel_rfl) (by rfl) (fun V hV => ?hy) HS0.out ?_
  case hy => ((try dsimp only at hV);  obtain ⟨y0, y1, y2⟩ := hV; go_simp; try with_reducible rfl)
  try simp only [Act.put, List.getElem_toArray, List.getElem_cons_succ, List.getElem_cons_zero, List.setIfInBounds_toArray, List.set_cons_zero, List.set_cons_succ]
  refine' anyI_take R 4 rfl (v := ?_) (by kernel_rfl) (by rfl) (fun V hV => ?hy) HS0.out ?_
  case hy => ((try dsimp only at hV);  obtain ⟨y0, y1, y2⟩ := hV; go_simp; try with_reducible rfl)
  try simp only [Act.put, List.getElem_toArray, List.getElem_cons_succ, List.getElem_cons_zero, List.setIfInBounds_toArray, List.set_cons_zero, List.set_cons_succ]
  refine' anyI_take R 5 rfl (v := ?_) (by kernel_rfl) (by rfl) (fun V hV => ?hy) HS0.out ?_
  case hy => ((try dsimp only at hV);  obtain ⟨y0, y1, y2⟩ := hV; go_simp; try with_reducible rfl)
  try simp only [Act.put, List.getElem_toArray, List.getElem_cons_succ, List.getElem_cons_zero, List.setIfInBounds_toArray, List.set_cons_zero, List.set_cons_succ]
  refine anyI_one 6 (by kernel_rfl) rfl ?_
  try simp only [List.getElem_toArray, List.getElem_cons_succ, List.getElem_cons_zero]
  refine opE_step ?_
  rw [if_pos (by rfl)]
  go_simp
  go_at_call 15
  try simp only [Hng.out, Hca.out, Hcb.out]
  (with_reducible refine (C6.out _ _ K0.out).mono ?_)
  rintro e w6 ⟨rfl, H6, k6⟩
  have K6 := Lib.hid k6
  replace HS0 := Lib.hid (show GAt w6 gb l (D : Int) c from K6.out.gat (g := gb) (l := l) (d := (D : Int)) (c := c) (t := 24) (f := (0, 0)) (by simp))
  clear k6
  try dsimp only
  refine ⟨HS0.out, ?_⟩
  try simp only [Act.put, List.getElem_toArray, List.getElem_cons_succ, List.getElem_cons_zero, List.setIfInBounds_toArray, List.set_cons_zero, List.set_cons_succ]
  refine' anyI_take R 7 rfl (v := ?_) (by kernel_rfl) (by rfl) (fun V hV => ?hy) HS0.out ?_
  case hy => ((try dsimp only at hV);  obtain ⟨y0, y1, y2⟩ := hV; go_simp; try with_reducible rfl)
  try simp only [Act.put, List.getElem_toArray, List.getElem_cons_succ, List.getElem_cons_zero, List.setIfInBounds_toArray, List.set_cons_zero, List.set_cons_succ]
  refine' anyI_take R 8 rfl (v := ?_) (by kernel_rfl) (by rfl) (fun V hV => ?hy) HS0.out ?_
  case hy => ((try dsimp only at hV);  obtain ⟨y0, y1, y2⟩ := hV; go_simp; try with_reducible rfl)
  try simp only [Act.put, List.getElem_toArray, List.getElem_cons_succ, List.getElem_cons_zero, List.setIfInBounds_toArray, List.set_cons_zero, List.set_cons_succ]
  refine' anyI_take R 9 rfl (v := ?_) (by kernel_rfl) (by rfl) (fun V hV => ?hy) HS0.out ?_
  case hy => ((try dsimp only at hV);  obtain ⟨y0, y1, y2⟩ := hV; go_simp; try with_reducible rfl)
  try simp only [Act.put, List.getElem_toArray, List.getElem_cons_succ, List.getElem_cons_zero, List.setIfInBounds_toArray, List.set_cons_zero, List.set_cons_succ]
  refine' anyI_take R 10 rfl (v := ?_) (by kernel_rfl) (by rfl) (fun V hV => ?hy) HS0.out ?_
  case hy => ((try dsimp only at hV);  obtain ⟨y0, y1, y2⟩ := hV; go_simp; try with_reducible rfl)
  try simp only [Act.put, List.getElem_toArray, List.getElem_cons_succ, List.getElem_cons_zero, List.setIfInBounds_toArray, List.set_cons_zero, List.set_cons_succ]
  refine' anyI_take R 11 rfl (v := ?_) (by kernel_rfl) (by rfl) (fun V hV => ?hy) HS0.out ?_
  case hy => ((try dsimp only at hV);  obtain ⟨y0, y1, y2⟩ := hV; go_simp; try with_reducible rfl)
  try simp only [Act.put, List.getElem_toArray, List.getElem_cons_succ, List.getElem_cons_zero, List.setIfInBounds_toArray, List.set_cons_zero, List.set_cons_succ]
  refine' anyI_take R 12 rfl (v := ?_) (by kernel_rfl) (by rfl) (fun V hV => ?hy) HS0.out ?_
  case hy => ((try dsimp only at hV);  obtain ⟨y0, y1, y2⟩ := hV; go_simp; try with_reducible rfl)
  try simp only [Act.put, List.getElem_toArray, List.getElem_cons_succ, List.getElem_cons_zero, List.setIfInBounds_toArray, List.set_cons_zero, List.set_cons_succ]
  refine' anyI_take R 15 rfl (v := ?_) (by kernel_rfl) (by rfl) (fun V hV => ?hy) HS0.out ?_
  case hy => ((try dsimp only at hV);  obtain ⟨y0, y1, y2⟩ := hV; go_simp; try with_reducible rfl)
  try simp only [Act.put, List.getElem_toArray, List.getElem_cons_succ, List.getElem_cons_zero, List.setIfInBounds_toArray, List.set_cons_zero, List.set_cons_succ]
  refine' anyI_take R 17 rfl (v := ?_) (by kernel_rfl) (by rfl) (fun V hV => ?hy) HS0.out ?_
  case hy => ((try dsimp only at hV);  obtain ⟨y0, y1, y2⟩ := hV; go_simp; try with_reducible rfl)
  try simp only [Act.put, List.getElem_toArray, List.getElem_cons_succ, List.getElem_cons_zero, List.setIfInBounds_toArray, List.set_cons_zero, List.set_cons_succ]
  refine anyI_one 13 (by kernel_rfl) rfl ?_
  try simp only [List.getElem_toArray, List.getElem_cons_succ, List.getElem_cons_zero]
  refine opE_step ?_
  rw [if_pos (by rfl)]
  go_simp
  go_at_call 13
  (with_reducible refine (CC.out _).mono ?_)
  rintro e w13 ⟨rfl, hb13⟩
  have K13 := Lib.hid (K6.out.below hb13)
  replace HS0 := Lib.hid (show GAt w13 gb l (D : Int) c from K13.out.gat (g := gb) (l := l) (d := (D : Int)) (c := c) (t := 24) (f := (0, 0)) (by simp))
  clear hb13
  try dsimp only
  refine ⟨HS0.out, ?_⟩
  try simp only [Act.put, List.getElem_toArray, List.getElem_cons_succ, List.getElem_cons_zero, List.setIfInBounds_toArray, List.set_cons_zero, List.set_cons_succ]
  refine' anyI_take R 14 rfl (v := ?_) (by kernel_rfl) (by rfl) (fun V hV => ?hy) HS0.out ?_
  case hy => ((try dsimp only at hV);  obtain ⟨y0, y1, y2⟩ := hV; go_simp; try with_reducible rfl)
  try simp only [Act.put, List.getElem_toArray, List.getElem_cons_succ, List.getElem_cons_zero, List.setIfInBounds_toArray, List.set_cons_zero, List.set_cons_succ]
  refine' anyI_take R 16 rfl (v := ?_) (by kernel_rfl) (by rfl) (fun V hV => ?hy) HS0.out ?_
  case hy => ((try dsimp only at hV);  obtain ⟨y0, y1, y2⟩ := hV; go_simp; try with_reducible rfl)
  try simp only [Act.put, List.getElem_toArray, List.getElem_cons_succ, List.getElem_cons_zero, List.setIfInBounds_toArray, List.set_cons_zero, List.set_cons_succ]
  refine anyI_one 18 (by kernel_rfl) rfl ?_
  try simp only [List.getElem_toArray, List.getElem_cons_succ, List.getElem_cons_zero]
  refine opE_step ?_
  rw [if_pos (by rfl)]
  go_simp
  go_at_call 15
  try simp only [Hng.out, Hca.out, Hcb.out]
  (with_reducible refine (C18.out _ _ K13.out).mono ?_)
  rintro e w18 ⟨rfl, H18, k18⟩
  have K18 := Lib.hid k18
  replace HS0 := Lib.hid (show GAt w18 gb l (D : Int) c from K18.out.gat (g := gb) (l := l) (d := (D : Int)) (c := c) (t := 24) (f := (0, 0)) (by simp))
  clear k18
  try dsimp only
  refine ⟨HS0.out, ?_⟩
  try simp only [Act.put, List.getElem_toArray, List.getElem_cons_succ, List.getElem_cons_zero, List.setIfInBounds_toArray, List.set_cons_zero, List.set_cons_succ]
  refine' anyI_take R 19 rfl (v := ?_) (by kernel_rfl) (by rfl) (fun V hV => ?hy) HS0.out ?_
  case hy => ((try dsimp only at hV);  obtain ⟨y0, y1, y2⟩ := hV; go_simp; try with_reducible rfl)
  try simp only [Act.put, List.getElem_toArray, List.getElem_cons_succ, List.getElem_cons_zero, List.setIfInBounds_toArray, List.set_cons_zero, List.set_cons_succ]
  refine' anyI_take R 20 rfl (v := ?_) (by kernel_rfl) (by rfl) (fun V hV => ?hy) HS0.out ?_
  case hy => ((try dsimp only at hV);  obtain ⟨y0, y1, y2⟩ := hV; go_simp; try with_reducible rfl)
  try simp only [Act.put, List.getElem_toArray, List.getElem_cons_succ, List.getElem_cons_zero, List.setIfInBounds_toArray, List.set_cons_zero, List.set_cons_succ]
  refine' anyI_take R 21 rfl (v := ?_) (by kernel_rfl) (by rfl) (fun V hV => ?hy) HS0.out ?_
  case hy => ((try dsimp only at hV);  obtain ⟨y0, y1, y2⟩ := hV; go_simp; try with_reducible rfl)
  try simp only [Act.put, List.getElem_toArray, List.getElem_cons_succ, List.getElem_cons_zero, List.setIfInBounds_toArray, List.set_cons_zero, List.set_cons_succ]
  refine' anyI_take R 22 rfl (v := ?_) (by kernel_rfl) (by rfl) (fun V hV => ?hy) HS0.out ?_
  case hy => ((try dsimp only at hV);  obtain ⟨y0, y1, y2⟩ := hV; go_simp; try with_reducible rfl)
  try simp only [Act.put, List.getElem_toArray, List.getElem_cons_succ, List.getElem_cons_zero, List.setIfInBounds_toArray, List.set_cons_zero, List.set_cons_succ]
  refine' anyI_take R 23 rfl (v := ?_) (by kernel_rfl) (by rfl) (fun V hV => ?hy) HS0.out ?_
  case hy => ((try dsimp only at hV);  obtain ⟨y0, y1, y2⟩ := hV; go_simp; try with_reducible rfl)
  try simp only [Act.put, List.getElem_toArray, List.getElem_cons_succ, List.getElem_cons_zero, List.setIfInBounds_toArray, List.set_cons_zero, List.set_cons_succ]
  refine' anyI_take R 24 rfl (v := ?_) (by kernel_rfl) (by rfl) (fun V hV => ?hy) HS0.out ?_
  case hy => ((try dsimp only at hV);  obtain ⟨y0, y1, y2⟩ := hV; go_simp; try with_reducible rfl)
  try simp only [Act.put, List.getElem_toArray, List.getElem_cons_succ, List.getElem_cons_zero, List.setIfInBounds_toArray, List.set_cons_zero, List.set_cons_succ]
  refine' anyI_take R 25 rfl (v := ?_) (by kernel_rfl) (by rfl) (fun V hV => ?hy) HS0.out ?_
  case hy => ((try dsimp only at hV);  obtain ⟨y0, y1, y2⟩ := hV; go_simp; try with_reducible rfl)
  try simp only [Act.put, List.getElem_toArray, List.getElem_cons_succ, List.getElem_cons_zero, List.setIfInBounds_toArray, List.set_cons_zero, List.set_cons_succ]
  refine' anyI_take R 26 rfl (v := ?_) (by kernel_rfl) (by rfl) (fun V hV => ?hy) HS0.out ?_
  case hy => ((try dsimp only at hV);  obtain ⟨y0, y1, y2⟩ := hV; go_simp; try with_reducible rfl)
  try simp only [Act.put, List.getElem_toArray, List.getElem_cons_succ, List.getElem_cons_zero, List.setIfInBounds_toArray, List.set_cons_zero, List.set_cons_succ]
  refine' anyI_take R 27 rfl (v := ?_) (by kernel_rfl) (by rfl) (fun V hV => ?hy) HS0.out ?_
  case hy => ((try dsimp only at hV);  obtain ⟨y0, y1, y2⟩ := hV; go_simp; try with_reducible rfl)
  try simp only [Act.put, List.getElem_toArray, List.getElem_cons_succ, List.getElem_cons_zero, List.setIfInBounds_toArray, List.set_cons_zero, List.set_cons_succ]
  refine anyI_one 28 (by kernel_rfl) rfl ?_
  try simp only [List.getElem_toArray, List.getElem_cons_succ, List.getElem_cons_zero]
  refine opE_step ?_
  rw [if_pos (by rfl)]
  go_simp
  go_at_call 15
  try simp only [Hng.out, Hca.out, Hcb.out]
  (with_reducible refine (C28.out _ _ K18.out).mono ?_)
  rintro e w28 ⟨rfl, H28, k28⟩
  have K28 := Lib.hid k28
  replace HS0 := Lib.hid (show GAt w28 gb l (D : Int) c from K28.out.gat (g := gb) (l := l) (d := (D : Int)) (c := c) (t := 24) (f := (0, 0)) (by simp))
  clear k28
  try dsimp only
  refine ⟨HS0.out, ?_⟩
  try simp only [Act.put, List.getElem_toArray, List.getElem_cons_succ, List.getElem_cons_zero, List.setIfInBounds_toArray, List.set_cons_zero, List.set_cons_succ]
  refine' anyI_take R 29 rfl (v := ?_) (by kernel_rfl) (by rfl) (fun V hV => ?hy) HS0.out ?_
  case hy => ((try dsimp only at hV);  obtain ⟨y0, y1, y2⟩ := hV; go_simp; try with_reducible rfl)
  try simp only [Act.put, List.getElem_toArray, List.getElem_cons_succ, List.getElem_cons_zero, List.setIfInBounds_toArray, List.set_cons_zero, List.set_cons_succ]
  refine' anyI_take R 30 rfl (v := ?_) (by kernel_rfl) (by rfl) (fun V hV => ?hy) HS0.out ?_
  case hy => ((try dsimp only at hV);  obtain ⟨y0, y1, y2⟩ := hV; go_simp; try with_reducible rfl)
  try simp only [Act.put, List.getElem_toArray, List.getElem_cons_succ, List.getElem_cons_zero, List.setIfInBounds_toArray, List.set_cons_zero, List.set_cons_succ]
  refine' anyI_take R 31 rfl (v := ?_) (by kernel_rfl) (by rfl) (fun V hV => ?hy) HS0.out ?_
  case hy => ((try dsimp only at hV);  obtain ⟨y0, y1, y2⟩ := hV; go_simp; try with_reducible rfl)
  try simp only [Act.put, List.getElem_toArray, List.getElem_cons_succ, List.getElem_cons_zero, List.setIfInBounds_toArray, List.set_cons_zero, List.set_cons_succ]
  refine' anyI_take R 32 rfl (v := ?_) (by kernel_rfl) (by rfl) (fun V hV => ?hy) HS0.out ?_
  case hy => ((try dsimp only at hV);  obtain ⟨y0, y1, y2⟩ := hV; go_simp; try with_reducible rfl)
  try simp only [Act.put, List.getElem_toArray, List.getElem_cons_succ, List.getElem_cons_zero, List.setIfInBounds_toArray, List.set_cons_zero, List.set_cons_succ]
  refine' anyI_take R 33 rfl (v := ?_) (by kernel_rfl) (by rfl) (fun V hV => ?hy) HS0.out ?_
  case hy => ((try dsimp only at hV);  obtain ⟨y0, y1, y2⟩ := hV; go_simp; try with_reducible rfl)
  try simp only [Act.put, List.getElem_toArray, List.getElem_cons_succ, List.getElem_cons_zero, List.setIfInBounds_toArray, List.set_cons_zero, List.set_cons_succ]
  refine' anyI_take R 34 rfl (v := ?_) (by kernel_rfl) (by rfl) (fun V hV => ?hy) HS0.out ?_
  case hy => ((try dsimp only at hV);  obtain ⟨y0, y1, y2⟩ := hV; go_simp; try with_reducible rfl)
  try simp only [Act.put, List.getElem_toArray, List.getElem_cons_succ, List.getElem_cons_zero, List.setIfInBounds_toArray, List.set_cons_zero, List.set_cons_succ]
  refine' anyI_take R 35 rfl (v := ?_) (by kernel_rfl) (by rfl) (fun V hV => ?hy) HS0.out ?_
  case hy => ((try dsimp only at hV);  obtain ⟨y0, y1, y2⟩ := hV; go_simp; try with_reducible rfl)
  try simp only [Act.put, List.getElem_toArray, List.getElem_cons_succ, List.getElem_cons_zero, List.setIfInBounds_toArray, List.set_cons_zero, List.set_cons_succ]
  refine' anyI_take R 36 rfl (v := ?_) (by kernel_rfl) (by rfl) (fun V hV => ?hy) HS0.out ?_
  case hy => ((try dsimp only at hV);  obtain ⟨y0, y1, y2⟩ := hV; go_simp; try with_reducible rfl)
  try simp only [Act.put, List.getElem_toArray, List.getElem_cons_succ, List.getElem_cons_zero, List.setIfInBounds_toArray, List.set_cons_zero, List.set_cons_succ]
  refine anyI_one 37 (by kernel_rfl) rfl ?_
  try simp only [List.getElem_toArray, List.getElem_cons_succ, List.getElem_cons_zero]
  refine opE_step ?_
  rw [if_pos (by rfl)]
  go_simp
  go_at_call 15
  try simp only [Hng.out, Hca.out, Hcb.out]
  (with_reducible refine (C37.out _ _ K28.out).mono ?_)
  rintro e w37 ⟨rfl, H37, k37⟩
  have K37 := Lib.hid k37
  replace HS0 := Lib.hid (show GAt w37 gb l (D : Int) c from K37.out.gat (g := gb) (l := l) (d := (D : Int)) (c := c) (t := 24) (f := (0, 0)) (by simp))
  clear k37
  try dsimp only
  refine ⟨HS0.out, ?_⟩
  try simp only [Act.put, List.getElem_toArray, List.getElem_cons_succ, List.getElem_cons_zero, List.setIfInBounds_toArray, List.set_cons_zero, List.set_cons_succ]
  refine' anyI_take R 38 rfl (v := ?_) (by kernel_rfl) (by rfl) (fun V hV => ?hy) HS0.out ?_
  case hy => ((try dsimp only at hV);  obtain ⟨y0, y1, y2⟩ := hV; go_simp; try with_reducible rfl)
  try simp only [Act.put, List.getElem_toArray, List.getElem_cons_succ, List.getElem_cons_zero, List.setIfInBounds_toArray, List.set_cons_zero, List.set_cons_succ]
  refine' anyI_take R 39 rfl (v := ?_) (by kernel_rfl) (by rfl) (fun V hV => ?hy) HS0.out ?_
  case hy => ((try dsimp only at hV);  obtain ⟨y0, y1, y2⟩ := hV; go_simp; try with_reducible rfl)
  try simp only [Act.put, List.getElem_toArray, List.getElem_cons_succ, List.getElem_cons_zero, List.setIfInBounds_toArray, List.set_cons_zero, List.set_cons_succ]
  refine' anyI_take R 40 rfl (v := ?_) (by kernel_rfl) (by rfl) (fun V hV => ?hy) HS0.out ?_
  case hy => ((try dsimp only at hV);  obtain ⟨y0, y1, y2⟩ := hV; go_simp; try with_reducible rfl)
  try simp only [Act.put, List.getElem_toArray, List.getElem_cons_succ, List.getElem_cons_zero, List.setIfInBounds_toArray, List.set_cons_zero, List.set_cons_succ]
  refine' anyI_take R 41 rfl (v := ?_) (by kernel_rfl) (by rfl) (fun V hV => ?hy) HS0.out ?_
  case hy => ((try dsimp only at hV);  obtain ⟨y0, y1, y2⟩ := hV; go_simp; try with_reducible rfl)
  try simp only [Act.put, List.getElem_toArray, List.getElem_cons_succ, List.getElem_cons_zero, List.setIfInBounds_toArray, List.set_cons_zero, List.set_cons_succ]
  refine' anyI_take R 42 rfl (v := ?_) (by kernel_rfl) (by rfl) (fun V hV => ?hy) HS0.out ?_
  case hy => ((try dsimp only at hV);  obtain ⟨y0, y1, y2⟩ := hV; go_simp; try with_reducible rfl)
  try simp only [Act.put, List.getElem_toArray, List.getElem_cons_succ, List.getElem_cons_zero, List.setIfInBounds_toArray, List.set_cons_zero, List.set_cons_succ]
  refine' anyI_take R 43 rfl (v := ?_) (by kernel_rfl) (by rfl) (fun V hV => ?hy) HS0.out ?_
  case hy => ((try dsimp only at hV);  obtain ⟨y0, y1, y2⟩ := hV; go_simp; try with_reducible rfl)
  try simp only [Act.put, List.getElem_toArray, List.getElem_cons_succ, List.getElem_cons_zero, List.setIfInBounds_toArray, List.set_cons_zero, List.set_cons_succ]
  refine' anyI_take R 44 rfl (v := ?_) (by kernel_rfl) (by rfl) (fun V hV => ?hy) HS0.out ?_
  case hy => ((try dsimp only at hV);  obtain ⟨y0, y1, y2⟩ := hV; go_simp; try with_reducible rfl)
  try simp only [Act.put, List.getElem_toArray, List.getElem_cons_succ, List.getElem_cons_zero, List.setIfInBounds_toArray, List.set_cons_zero, List.set_cons_succ]
  refine anyI_one 45 (by kernel_rfl) rfl ?_
  try simp only [List.getElem_toArray, List.getElem_cons_succ, List.getElem_cons_zero]
  refine opE_step ?_
  rw [if_pos (by rfl)]
  go_simp
  go_at_call 15
  try simp only [Hng.out, Hca.out, Hcb.out]
  (with_reducible refine (C45.out _ _ K37.out).mono ?_)
  rintro e w45 ⟨rfl, H45, k45⟩
  have K45 := Lib.hid k45
  replace HS0 := Lib.hid (show GAt w45 gb l (D : Int) c from K45.out.gat (g := gb) (l := l) (d := (D : Int)) (c := c) (t := 24) (f := (0, 0)) (by simp))
  clear k45
  try dsimp only
  refine ⟨HS0.out, ?_⟩
  try simp only [Act.put, List.getElem_toArray, List.getElem_cons_succ, List.getElem_cons_zero, List.setIfInBounds_toArray, List.set_cons_zero, List.set_cons_succ]
  refine' anyI_take R 46 rfl (v := ?_) (by kernel_rfl) (by rfl) (fun V hV => ?hy) HS0.out ?_
  case hy => ((try dsimp only at hV);  obtain ⟨y0, y1, y2⟩ := hV; go_simp; try with_reducible rfl)
  try simp only [Act.put, List.getElem_toArray, List.getElem_cons_succ, List.getElem_cons_zero, List.setIfInBounds_toArray, List.set_cons_zero, List.set_cons_succ]
  refine' anyI_take R 47 rfl (v := ?_) (by kernel_rfl) (by rfl) (fun V hV => ?hy) HS0.out ?_
  case hy => ((try dsimp only at hV);  obtain ⟨y0, y1, y2⟩ := hV; go_simp; try with_reducible rfl)
  try simp only [Act.put, List.getElem_toArray, List.getElem_cons_succ, List.getElem_cons_zero, List.setIfInBounds_toArray, List.set_cons_zero, List.set_cons_succ]
  refine' anyI_take R 48 rfl (v := ?_) (by kernel_rfl) (by rfl) (fun V hV => ?hy) HS0.out ?_
  case hy => ((try dsimp only at hV);  obtain ⟨y0, y1, y2⟩ := hV; go_simp; try with_reducible rfl)
  try simp only [Act.put, List.getElem_toArray, List.getElem_cons_succ, List.getElem_cons_zero, List.setIfInBounds_toArray, List.set_cons_zero, List.set_cons_succ]
  refine' anyI_take R 49 rfl (v := ?_) (by kernel_rfl) (by rfl) (fun V hV => ?hy) HS0.out ?_
  case hy => ((try dsimp only at hV);  obtain ⟨y0, y1, y2⟩ := hV; go_simp; try with_reducible rfl)
  try simp only [Act.put, List.getElem_toArray, List.getElem_cons_succ, List.getElem_cons_zero, List.setIfInBounds_toArray, List.set_cons_zero, List.set_cons_succ]
  refine' anyI_take R 50 rfl (v := ?_) (by kernel_rfl) (by rfl) (fun V hV => ?hy) HS0.out ?_
  case hy => ((try dsimp only at hV);  obtain ⟨y0, y1, y2⟩ := hV; go_simp; try with_reducible rfl)
  try simp only [Act.put, List.getElem_toArray, List.getElem_cons_succ, List.getElem_cons_zero, List.setIfInBounds_toArray, List.set_cons_zero, List.set_cons_succ]
  refine' anyI_take R 51 rfl (v := ?_) (by kernel_rfl) (by rfl) (fun V hV => ?hy) HS0.out ?_
  case hy => ((try dsimp only at hV);  obtain ⟨y0, y1, y2⟩ := hV; go_simp; try with_reducible rfl)
  try simp only [Act.put, List.getElem_toArray, List.getElem_cons_succ, List.getElem_cons_zero, List.setIfInBounds_toArray, List.set_cons_zero, List.set_cons_succ]
  refine' anyI_take R 52 rfl (v := ?_) (by kernel_rfl) (by rfl) (fun V hV => ?hy) HS0.out ?_
  case hy => ((try dsimp only at hV);  obtain ⟨y0, y1, y2⟩ := hV; go_simp; try with_reducible rfl)
  try simp only [Act.put, List.getElem_toArray, List.getElem_cons_succ, List.getElem_cons_zero, List.setIfInBounds_toArray, List.set_cons_zero, List.set_cons_succ]
  refine anyI_one 53 (by kernel_rfl) rfl ?_
  try simp only [List.getElem_toArray, List.getElem_cons_succ, List.getElem_cons_zero]
  refine opE_step ?_
  rw [if_pos (by rfl)]
  go_simp
  go_at_call 20
  try simp only [Hng.out]
  (with_reducible refine (C53.out _ _ K45.out).mono ?_)
  rintro e w53 ⟨rfl, H53, k53⟩
  have K53 := Lib.hid k53
  replace HS0 := Lib.hid (show GAt w53 gb l (D : Int) c from K53.out.gat (g := gb) (l := l) (d := (D : Int)) (c := c) (t := 24) (f := (0, 0)) (by simp))
  clear k53
  try dsimp only
  refine ⟨HS0.out, ?_⟩
  try simp only [Act.put, List.getElem_toArray, List.getElem_cons_succ, List.getElem_cons_zero, List.setIfInBounds_toArray, List.set_cons_zero, List.set_cons_succ]
  refine' anyI_take R 54 rfl (v := ?_) (by kernel_rfl) (by rfl) (fun V hV => ?hy) HS0.out ?_
  case hy => ((try dsimp only at hV);  obtain ⟨y0, y1, y2⟩ := hV; go_simp; try with_reducible rfl)
  try simp only [Act.put, List.getElem_toArray, List.getElem_cons_succ, List.getElem_cons_zero, List.setIfInBounds_toArray, List.set_cons_zero, List.set_cons_succ]
  refine' anyI_take R 55 rfl (v := ?_) (by kernel_rfl) (by rfl) (fun V hV => ?hy) HS0.out ?_
  case hy => ((try dsimp only at hV);  obtain ⟨y0, y1, y2⟩ := hV; go_simp; try with_reducible rfl)
  try simp only [Act.put, List.getElem_toArray, List.getElem_cons_succ, List.getElem_cons_zero, List.setIfInBounds_toArray, List.set_cons_zero, List.set_cons_succ]
  refine anyI_tail (by kernel_rfl) ?_
  try simp only [List.drop_succ_cons, List.drop_zero]
  clear R
  go_wp2_with fail
  refine NoPanic.normal ?_
  go_wp2_with fail
  have HG := K53.out.gat (g := gb) (l := l) (d := (D : Int)) (c := c) (t := 24) (f := (0, 0)) (by simp)
  clear CC Hng Hca Hcb C6 C18 C28 C37 C45 C53
  refine ueR10 _ _ _ _ _ _ _ _ _ _ _ _ _ _ _ _ _ _ _ _ _ _ _ _ _ _ _ _ _ _ _ _ _ _ _ _ _ _ _ _ _ _ _ _ _ _ _ _ _ _ _ _ _ _ _ _ _ _ _ _ _ _ _ _ _ _ _ _ _ _ _ _ _ _ _ _ _ _ _ _ _ _ _ _ _ _ _ _ _ _ _ _ _ _ _ _ _ _ _ _ _ _ _ _ _ _ _ _ _ _ _ _ _ _ _ _ _ _ _ _ _ _ _ _ _ _ _ _ _ _ _ _ _ _ _ _ _ _ _ _ _ _ _ _ _ _ _ _ _ _ _ _ _ _ _ _ _ _ _ _ _ _ _ _ _ _ _ _ _ _ _ _ ⟨hd3, hd8⟩ haa hcc HG (fun v97 v98 v99 v100 v101 v102 v103 v104 a1 c1 m haD hcD => ?_)
  refine ‹∀ (a : Act) (w : World), Code.wp Tryz.prog _ _ a w → _› _ _ ?_
  refine ueT _ _ _ _ _ _ _ _ _ _ _ _ _ _ _ _ _ _ _ _ _ _ _ _ _ _ _ _ _ _ _ _ _ _ _ _ _ _ _ _ _ _ _ _ _ _ _ _ _ _ _ _ _ _ _ _ _ _ _ _ _ _ _ _ _ _ _ _ _ _ _ _ _ _ _ _ _ _ _ _ _ _ _ _ _ _ _ _ _ _ _ _ _ _ _ _ _ _ _ _ _ _ _ _ _ _ _ _ _ _ _ _ _ _ _ _ _ _ _ _ _ _ _ _ _ _ _ _ _ _ _ _ _ _ _ _ _ _ _ _ _ _ _ _ _ _ _ _ _ _ _ _ _ _ _ _ _ _ _ _ _ _ _ _ _ _ _ _ hu hp ht Gr'.out haD hcD hx hll hglb hgxl Ha.out Hup.out hdn0 (K53.out.below (belowN _ _ m)) (fun v0 v1 v2 v3 v4 v5 v6 v7 v8 v9 v10 v11 v13 v14 v15 v16 v17 v18 v19 v20 v21 v22 v23 v24 v25 v26 v27 v28 v29 v30 v31 v32 v33 v34 v35 v36 v37 v38 v39 v40 v41 v42 v43 v44 v45 v46 v47 v48 v49 v50 v51 v52 v53 v54 v55 v56 v57 v58 v59 v60 v61 v62 v63 v64 v65 v66 v67 v68 v69 v70 v71 v72 v73 v74 v75 v76 v77 v78 v79 v80 v81 v82 v83 v84 v85 v86 v87 v88 v89 v90 v91 v92 v93 v94 v95 v96 v97 v98 v99 v100 v101 v102 v103 v104 v105 v106 v107 v108 v109 v110 v111 v112 v113 v114 v115 v116 v117 v118 v119 v120 v121 v122 v123 v124 v125 v126 v127 v128 v129 v130 v131 v132 v133 v134 v135 v136 v137 v138 v139 v140 v141 v142 v143 v144 v145 v146 v147 v148 v149 v150 v151 v152 v153 v154 v155 v156 v157 v158 v159 v160 v161 v162 v163 v164 v165 v166 v167 v168 v169 v170 v171 v172 V hb => ?_)
  go_ret
  exact ⟨rfl, hb⟩
end Go.Proofs.YtenkkdnepmoihaaGreatDoor
end
