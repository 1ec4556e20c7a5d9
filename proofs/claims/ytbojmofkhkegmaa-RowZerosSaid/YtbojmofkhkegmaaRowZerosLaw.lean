/- RowZeros walked. -/
import Derived.Test.YtbojmofkhkegmaaRowZerosLoops
set_option linter.unusedVariables false
set_option linter.unusedSimpArgs false
namespace Go.Proofs.Ytbojmofkhkegmaa
open Go.RowKit

set_option maxRecDepth 100000 in
set_option maxHeartbeats 3200000 in
theorem rowzeros (n r0 k0 x0 : Int) (w : World) (hn : (-9223372036854775808 ≤ n ∧ n ≤ 9223372036854775807)) (hr0 : (-9223372036854775808 ≤ r0 ∧ r0 ≤ 9223372036854775807)) (hk0 : (-9223372036854775808 ≤ k0 ∧ k0 ≤ 9223372036854775807)) (hx0 : (-9223372036854775808 ≤ x0 ∧ x0 ≤ 9223372036854775807)) :
    Calls Try.prog 5 #[.int .i64 n, .int .i64 r0, .int .i64 k0, .int .i64 x0] w fun e w' => e = .returned (.bool true) ∧ Below w.heap.size w w' := by
  have HP := Lib.hid (fun W => playGood_any n W hn)
  have CW1 := Lib.hid (fun W => within_any r0 16 W hr0 (by omega))
  have hrb := withinI_bd r0 16 (by omega)
  generalize withinI r0 16 = r at CW1 hrb
  obtain ⟨D, F, W, hD, gr⟩ := gr_of n hrb.1 hrb.2
  rw [hD] at HP
  clear hD
  have hd8 := gr.d8; have hd3 := gr.d3; have hw7 := gr.w7; have hw1 := gr.w1; have hlv := gr.lv
  have CW2 := Lib.hid (fun V => within_any k0 (W : Int) V hk0 (by omega))
  have hib := withinI_bd k0 (W : Int) (by omega)
  obtain ⟨i, hi⟩ := Int.eq_ofNat_of_zero_le hib.1
  rw [hi] at CW2 hib
  have hiW : i < W := by omega
  have HS := Lib.hid (fun V => sector_any x0 V hx0)
  have hsl := sectorB_len x0
  generalize sectorB x0 = sx at HS hsl
  have CF := Lib.hid (fun (A' : Option Addr) cp (rs : List (List UInt8)) V (h : RdR V V.heap.size A' rs) (h2 : rs.length = W) (h3 : ∀ x ∈ rs, x.length = 32) => gr.fill (cp := cp) h h2 h3)
  have hF := gr.hF
  have Hcnt := Lib.hid (@zeros_count D F W i (goL n) hF hiW hlv (sx.set 0 (sx.getD 0 0 ||| 1)) (by rw [List.length_set]; exact hsl) (set_ne_zero hsl _))
  have hWk := Lib.hid (fun V => wakesRow_any V)
  have Hz := Lib.hid (fun i (hi : i < D) => @zeros_fill D F W i hF (by omega) (by omega) hi)
  have Hfs := Lib.hid (fun (rs : List (List UInt8)) (h2 : rs.length = W) (h3 : ∀ x ∈ rs, x.length = 32) i (hi : i < D) => gr.fills h2 h3 hi)
  have HG := Lib.hid gr
  generalize goL n = l at *
  generalize goC n = c at *
  have hmk : ∀ w, (Instr.makeSlice 24 (.int .i64 32) (.int .i64 32)).run Try.prog w = .ok (.slice (some ⟨w.heap.size, 0, none⟩) 32 32) (w.alloc (.cells (zcells 32) 5)) := make_bytes 32 (by omega)
  have Hlv := Lib.hid hlv
  clear gr hi hn hr0 hk0 hx0 hlv
  go_enter Try.func5, Try.ntmps5
  go_wp2_with fail
  (with_reducible refine (HP.out _).mono ?_); rintro e w1 ⟨rfl, hb1⟩
  have G := gat_new w1 l D c 23 (0, 0)
  have F1 := hb1.alloc hb1.size (.cells #[.int .i64 l, .int .i64 (D : Int), .int .i64 c] 23 (0, 0))
  have hgb0 : w1.heap.size < (w1.alloc (.cells #[.int .i64 l, .int .i64 (D : Int), .int .i64 c] 23 (0, 0))).heap.size := by simp
  clear hb1
  go_wp2_with fail
  (with_reducible refine (CW1.out _).mono ?_); rintro e w2 ⟨rfl, rfl⟩
  generalize w1.alloc (.cells #[.int .i64 l, .int .i64 (D : Int), .int .i64 c] 23 (0, 0)) = wg at G F1 hgb0 ⊢
  generalize w1.heap.size = gb at G hgb0 ⊢
  go_upto_block 0 with fail
  have hz := own_make 5 wg 32 (by omega)
  have hG0 := G.below (below1 wg (.cells (zcells 32) 5)) hgb0
  have F0 := F1.alloc F1.size (.cells (zcells 32) 5)
  have hgb : gb < (wg.alloc (.cells (zcells 32) 5)).heap.size := by simp; omega
  have hlo : wg.heap.size ≤ (wg.alloc (.cells (zcells 32) 5)).heap.size := by simp
  generalize wg.alloc (.cells (zcells 32) 5) = W0 at hz hG0 F0 hgb hlo ⊢
  change OwB 5 W0 _ _ (zeroL 32) at hz
  generalize hgz : wg.heap.size = gz at hz hlo ⊢
  have hF1s := F1.size
  rw [hgz] at hF1s
  clear hgz G F1 hgb0 hmk
  refine wp_block ?_
  refine rzA _ _ _ _ _ _ _ _ _ _ _ _ _ _ _ _ _ _ _ _ _ _ _ _ _ _ _ _ _ _ _ _ _ _ _ _ _ _ _ _ _ _ _ _ _ _ _ _ _ _ _ _ _ _ _ _ _ _ _ _ _ _ _ _ _ _ _ _ _ _ _ _ _ _ _ _ _ _ _ _ _ _ _ _ _ _ _ _ _ _ _ _ _ _ _ _ _ _ _ _ _ _ _ _ _ _ _ _ _ _ _ _ HG.out hG0 hgb hz hlo ⟨Nat.zero_le _, ⟨[], World.ownsRow_nil _ _ _ _, RowsY.nil _ _ _⟩, Below.refl _ _⟩ (fun v27 v28 v29 v30 v31 v32 v33 v34 v35 v36 dv i2 V hI hx => ?_)
  subst hx
  obtain ⟨_, hdz, BW⟩ := hI
  obtain ⟨vs, hown, hrows⟩ := hdz
  have hrl : (List.replicate i2 (zeroL 32)).length = i2 := by simp
  obtain ⟨A2, c2, hv2, _, hrd⟩ := rdf_own (row_le hown hlo) (by rw [hrl]; omega) hrows
  rw [hrl] at hv2
  subst hv2
  obtain ⟨gd, cd, hvd, hgd1, hgd2, hgd3⟩ := row_form hown (by omega)
  injection hvd with hvd1 _ hvd2
  subst hvd1 hvd2
  have hG1 := hG0.below BW hgb
  obtain ⟨g1, g2, g3⟩ := hG1
  have e1 : ((D : Int) != (D : Int)) = false := bne_self_eq_false _
  have CF1 := Lib.hid (CF.out _ c2 _ V hrd.rdr hrl rep_mem)
  go_wp2_with fail
  (with_reducible refine CF1.out.mono ?_); rintro e w5 ⟨g, xs, rfl, hq, hb5⟩
  have BW5 := BW.trans (hb5.mono BW.size)
  have hG5 := hG0.below BW5 hgb
  clear g1 g2 g3 CF1 hrd
  obtain ⟨g1, g2, g3⟩ := hG5
  have hown5 := hown.kept (grown_none hb5) (Classical.em _)
  have hrows5 := hrows.below hb5
  go_upto_block 2 with fail
  refine wp_block ?_
  refine rzB _ _ _ _ _ _ _ _ _ _ _ _ _ _ _ _ _ _ _ _ _ _ _ _ _ _ _ _ _ _ _ _ _ _ _ _ _ _ _ _ _ _ _ _ _ _ _ _ _ _ _ _ _ _ _ _ _ _ _ _ _ _ _ _ _ _ _ _ _ _ _ _ _ _ _ _ _ _ _ _ _ _ _ _ _ _ _ _ _ _ _ _ _ _ _ _ _ _ _ _ _ _ _ _ _ _ _ _ _ _ _ _ hq Hz.out (hz.below BW5).rdS.1 hd8 ⟨Nat.zero_le _, Below.refl _ _⟩ (fun v8 v16 v56 v57 v58 v59 v60 v61 v62 v63 j V2 hI _ => ?_)
  obtain ⟨_, hb6⟩ := hI
  have BW6 := BW5.trans (hb6.mono BW5.size)
  have hown6 := hown5.kept (grown_none hb6) (Classical.em _)
  have hrows6 := hrows5.below hb6
  have hG6 := hG0.below BW6 hgb
  clear hown hrows hown5 hrows5 hq hb5 hb6 BW BW5 g1 g2 g3 Hz
  go_wp2_with fail
  (with_reducible refine (HS.out _).mono ?_); rintro e w7 ⟨gs, rfl, hos, hb7⟩
  have hgs := (hos.lt gs rfl).1
  obtain ⟨z7, f7⟩ := hos.cell hsl 0 (by omega)
  have ex : bits .or .u8 ((sx.getD 0 0).toNat : Int) 1 = (((sx.getD 0 0 ||| 1).toNat : Nat) : Int) := or_u8 (sx.getD 0 0) 1
  obtain ⟨hos8, hgr8⟩ := hos.set hsl 0 (sx.getD 0 0 ||| 1)
  have hb8 := hb7.setCell (p := ⟨gs, 0, none⟩) hgs (.int .u8 ((sx.getD 0 0 ||| 1).toNat : Int))
  have BW8 := BW6.trans (hb8.mono BW6.size)
  have hown8 := hown6.kept (grown_none hb8) (Classical.em _)
  have hrows8 := hrows6.below hb8
  have hsl8 : (sx.set 0 (sx.getD 0 0 ||| 1)).length = 32 := by rw [List.length_set]; exact hsl
  have hlast := hown6.lt gd rfl
  generalize sx.set 0 (sx.getD 0 0 ||| 1) = s8 at hos8 hsl8 Hcnt
  generalize sx.getD 0 0 = s0 at z7 ex hos8 hgr8 hb8 BW8 hown8 hrows8
  generalize s0 ||| 1 = s1 at ex hos8 hgr8 hb8 BW8 hown8 hrows8
  clear hos hb7 hown6 hrows6 hG6
  go_wp2_with fail
  generalize w7.setCell ⟨gs, 0, none⟩ (.int .u8 (s1.toNat : Int)) = w8 at hos8 hgr8 hb8 BW8 hown8 hrows8 ⊢
  (with_reducible refine (CW2.out _).mono ?_); rintro e w9 ⟨rfl, hw9⟩
  subst hw9
  have h0gd : w.heap.size ≤ gd := Nat.le_trans F0.size hgd1
  have hoR : OwR w9 gz gd i2 c2 (List.replicate i2 (zeroL 32)) := ⟨hrl, hgd3, by omega, vs, row_le hown8 hlo, hrows8⟩
  have k0 : (0 : Int) ≤ (i : Int) := by omega
  have k1 : (i : Int) < (i2 : Int) := by omega
  obtain ⟨Ao, co, zc, _, fc⟩ := hoR.cell i (by omega)
  have hsetD := hoR.set i (c := 32) ((hos8.le (by have := hgs; have := F0.size; omega)).rdbf) (hos8.newer hlast.2)
  rw [hsl8] at hsetD
  have BW10 := BW8.setCell (p := ⟨gd, i, none⟩) hgd1 (.slice (some ⟨gs, 0, none⟩) 32 32)
  have hG10 := hG0.below BW10 hgb
  have hsl9 : ((List.replicate i2 (zeroL 32)).set i s8).length = i2 := by simp
  have hall9 : ∀ x ∈ (List.replicate i2 (zeroL 32)).set i s8, x.length = 32 := set_alike rep_mem hsl8
  have CF2 := Lib.hid (CF.out (some ⟨gd, 0, none⟩) c2 _ _ (hsetD.rdr (by omega)) hsl9 hall9)
  have Hf2 := Lib.hid (Hfs.out _ hsl9 hall9)
  have Hcn := Lib.hid (show ∀ cn, cn = cntB D (fun q => decide ((fillL D F ((List.replicate i2 (zeroL 32)).set i s8)).getD q [] ≠ zeroL 32)) → (cn : Int) = l - 3 from fun cn h => by rw [h]; exact Hcnt.out)
  generalize fillL D F ((List.replicate i2 (zeroL 32)).set i s8) = fl2 at CF2 Hf2 Hcn
  obtain ⟨g1, g2, g3⟩ := hG10
  clear hos8 hgr8 hb8 BW8 hown8 hrows8 hoR hsetD CF Hfs Hcnt HP CW1 CW2 HS hall9 hsl9
  go_wp2_with fail
  generalize w9.setCell ⟨gd, i, none⟩ (.slice (some ⟨gs, 0, none⟩) 32 32) = w10 at CF2 BW10 g1 g2 g3 ⊢
  (with_reducible refine CF2.out.mono ?_); rintro e w11 ⟨g', xs', rfl, hq, hb11⟩
  have BW11 := BW10.trans (hb11.mono BW10.size)
  have hG11 := hG0.below BW11 hgb
  clear g1 g2 g3 CF2 BW10 hb11
  obtain ⟨g1, g2, g3⟩ := hG11
  go_upto_block 4 with fail
  refine wp_block ?_
  refine rzC _ _ _ _ _ _ _ _ _ _ _ _ _ _ _ _ _ _ _ _ _ _ _ _ _ _ _ _ _ _ _ _ _ _ _ _ _ _ _ _ _ _ _ _ _ _ _ _ _ _ _ _ _ _ _ _ _ _ _ _ _ _ _ _ _ _ _ _ _ _ _ _ _ _ _ _ _ _ _ _ _ _ _ _ _ _ _ _ _ _ _ _ _ _ _ _ _ _ _ _ _ _ _ _ _ _ _ _ _ _ _ hq Hf2.out (hz.below BW11).rdS.1 hd8 ⟨Nat.zero_le _, rfl, Below.refl _ _⟩ (fun v21 v97 v98 v99 v100 v101 v102 v103 v104 v105 v106 cn j V3 hI hx => ?_)
  subst hx
  obtain ⟨_, hcn, hb12⟩ := hI
  have Hc := Lib.hid (Hcn.out cn hcn)
  have BW12 := BW11.trans (hb12.mono BW11.size)
  have hG12 := hG0.below BW12 hgb
  have F12 := F0.trans (BW12.mono F0.size)
  clear hcn Hcn g1 g2 g3 hq hb12 BW11 Hf2
  obtain ⟨g1, g2, g3⟩ := hG12
  have hl56 : 5 ≤ l ∧ l ≤ 6 := by rcases Hlv.out with ⟨rfl, _⟩ | ⟨rfl, _⟩ <;> omega
  have e9 : ((cn : Int) == l - 3) = true := by rw [beq_iff_eq]; exact Hc.out
  go_wp2_with fail
  (with_reducible refine (hWk.out _).mono ?_); rintro e w13 ⟨rfl, hb13⟩
  go_wp2
  go_ret
  exact ⟨rfl, F12.trans (hb13.mono F12.size)⟩
end Go.Proofs.Ytbojmofkhkegmaa
