/- Texts put together: RebuildTwoLaw. -/
import Derived.Test.YtadmofpipfdedaaRtbj
section
set_option linter.unusedVariables false
set_option linter.unusedSimpArgs false
namespace Go.Proofs.Ytadmofpipfdedaa
open Go.RowKit

/-- Two numbers. -/
def xs2 (a b : Nat) : Nat → Nat
  | 0 => a
  | _ => b
theorem xs2_lt {a b D : Nat} (ha : a < D) (hb : b < D) : ∀ j, j < 2 → xs2 a b j < D
  | 0, _ => ha
  | 1, _ => hb
theorem cell1_one (x : Int) : ∀ u ∈ [Value.int .i64 x], u.oneCell' = true := by intro u hu; rw [List.mem_singleton.1 hu]; rfl
set_option maxRecDepth 100000 in
set_option maxHeartbeats 3200000 in
theorem rebuildtwo (n : Int) (A : Option Addr) (zl : List Int) (cl : Nat) (x y : Int) (w : World) (hn : (-9223372036854775808 ≤ n ∧ n ≤ 9223372036854775807)) (hcl : zl.length ≤ cl) (hzl : RdZ w w.heap.size A zl) (hx : (-9223372036854775808 ≤ x ∧ x ≤ 9223372036854775807)) (hy : (-9223372036854775808 ≤ y ∧ y ≤ 9223372036854775807)) :
    Calls Try.prog 6 #[.int .i64 n, .slice A zl.length cl, .int .i64 x, .int .i64 y] w fun e w' => e = .returned (.bool true) ∧ Below w.heap.size w w' := by
  have hpn := ptr_eq
  have CG := (fun V => playGood_any n V hn)
  have hg0 := go_ok n
  have hb0 := gOk_bd hg0
  obtain ⟨D0, hD0⟩ := Int.eq_ofNat_of_zero_le (show 0 ≤ goD n by omega)
  rw [hD0] at CG hg0 hb0
  generalize goL n = l at CG hg0 hb0
  generalize goC n = c at CG hg0 hb0
  have CG := Lib.hid CG
  have Hz := Lib.hid hzl
  have hc3 := (gOk_yes hg0).2.2
  have HC3 := Lib.hid hc3
  clear hzl hD0 hg0 hc3
  go_enter Try.func6, Try.ntmps6
  go_wp2_with fail
  (with_reducible refine (CG.out _).mono ?_); rintro e w1 ⟨rfl, hb⟩
  have HB1 := Lib.hid hb
  have hw1 := hb.size
  clear hb CG
  go_upto_region 2 with fail
  go_cut [25, 26, 27, 28, 29] (fun _ _ _ _ _ W => ∃ D : Nat, 4 ≤ D ∧ D ≤ 8 ∧ W.heap[w1.heap.size]? = some (.cells #[.int .i64 6, .int .i64 (D : Int), .int .i64 c] 25 (0, 0)) ∧ Below w1.heap.size w1 W)
  case first =>
    by_cases h4 : (D0 : Int) < 4
    · have h4b : ¬ (4 : Int) ≤ (D0 : Int) := by omega
      go_wp2_with (first
        | (refine wpList_store_blk rfl 3 _ _ (by rfl) w1.heap.size 0 (.int .i64 6) (by rfl) (by rfl) [.int .i64 l, .int .i64 (D0 : Int), .int .i64 c] 25 (hp_new _ _ _ rfl) [.int .i64 6] rfl 1 rfl (by kernel_rfl) (by show 0 + 1 ≤ 3; omega) (cell1_one 6) [.int .i64 6, .int .i64 (D0 : Int), .int .i64 c] (by rfl) ?_; intro w6 h6 g6)
        | (refine wpList_store_blk rfl 3 _ _ (by rfl) w1.heap.size 1 (.int .i64 4) (by rfl) (by rfl) [.int .i64 6, .int .i64 (D0 : Int), .int .i64 c] 25 h6 [.int .i64 4] rfl 1 rfl (by kernel_rfl) (by show 1 + 1 ≤ 3; omega) (cell1_one 4) [.int .i64 6, .int .i64 4, .int .i64 c] (by rfl) ?_; intro w7 h7 g7))
      go_meet
      refine ⟨4, by omega, by omega, h7, ?_⟩
      have hB := below1 w1 (.cells #[.int .i64 l, .int .i64 (D0 : Int), .int .i64 c] 25)
      have hB6 := hB.grown g6 (by simp) (fun j e => by injection e with e; omega)
      exact hB6.grown g7 hB6.size (fun j e => by injection e with e; omega)
    · have h4b : (4 : Int) ≤ (D0 : Int) := by omega
      go_wp2_with (first
        | (refine wpList_store_blk rfl 3 _ _ (by rfl) w1.heap.size 0 (.int .i64 6) (by rfl) (by rfl) [.int .i64 l, .int .i64 (D0 : Int), .int .i64 c] 25 (hp_new _ _ _ rfl) [.int .i64 6] rfl 1 rfl (by kernel_rfl) (by show 0 + 1 ≤ 3; omega) (cell1_one 6) [.int .i64 6, .int .i64 (D0 : Int), .int .i64 c] (by rfl) ?_; intro w6 h6 g6)
        | (refine wpList_store_blk rfl 3 _ _ (by rfl) w1.heap.size 1 (.int .i64 (D0 : Int)) (by rfl) (by rfl) [.int .i64 6, .int .i64 (D0 : Int), .int .i64 c] 25 h6 [.int .i64 (D0 : Int)] rfl 1 rfl (by kernel_rfl) (by show 1 + 1 ≤ 3; omega) (cell1_one (D0 : Int)) [.int .i64 6, .int .i64 (D0 : Int), .int .i64 c] (by rfl) ?_; intro w7 h7 g7))
      go_meet
      refine ⟨D0, by omega, by omega, h7, ?_⟩
      have hB := below1 w1 (.cells #[.int .i64 l, .int .i64 (D0 : Int), .int .i64 c] 25)
      have hB6 := hB.grown g6 (by simp) (fun j e => by injection e with e; omega)
      exact hB6.grown g7 hB6.size (fun j e => by injection e with e; omega)
  case rest =>
    obtain ⟨D, hD4, hD8, hbx, hbw⟩ := hcut
    have hc6 : gOk 6 (D : Int) c = true := gOk_mk ⟨.inr ⟨rfl, by omega⟩, by omega, HC3.out⟩
    have hcb := gOk_bd hc6
    have hG : RG.ok ⟨6, (D : Int), c, 6, (D : Int), c, 0⟩ = true := RG.ok_mk hc6 (show (0 : Int) ≤ 0 by omega) (show (0 : Int) ≤ 16 by omega) (.inl rfl)
    have hle : ∀ t, t < 16 → RG.D ⟨6, (D : Int), c, 6, (D : Int), c, 0⟩ t ≤ (D : Int) := fun t _ => by unfold RG.D rg; dsimp only; split <;> omega
    have hB0 := HB1.out.trans (hbw.mono hw1)
    have CB := both_any ⟨6, (D : Int), c, 6, (D : Int), c, 0⟩ hG (rg64_3 ⟨⟨by omega, by omega, by omega⟩, ⟨by omega, by omega, by omega⟩, by omega⟩) D hle (by omega) (by omega) A zl zl.length cl wc rfl hcl ((Hz.out.below hB0 (Nat.le_refl _)).keep hB0.size fun _ _ => rfl)
    rw [rowG_6] at CB
    dsimp only at CB
    have CB := Lib.hid CB
    have HB0 := Lib.hid hB0
    have Hbx := Lib.hid hbx
    have Hc6 := Lib.hid hc6
    have x0 := cell_of_row _ _ 0 _ _ _ hbx
    have x1 := cell_of_row _ _ 1 _ _ _ hbx
    have x2 := cell_of_row _ _ 2 _ _ _ hbx
    clear hbx hbw hB0 hle hG hc6 hb0
    go_wp2_with fail
    (with_reducible refine CB.out.mono ?_); rintro e w2 ⟨b, H, N, rfl, kb, fb⟩
    have k0 := kb.open HB0.out Hbx.out hw1
    have Fb0 := Lib.hid fb
    have hNn := fb.gd.n
    have CC := Lib.hid (ks_clone k0 (fun i hi => by rw [fb.gd.ps i (by omega)]; exact Nat.zero_le _))
    clear kb fb CB HB0 Hbx x0 x1 x2 k0
    go_wp2_with fail
    (with_reducible refine CC.out.mono ?_); rintro e w3 ⟨b2, H2, LL, rfl, k3, _, hwas⟩
    have K3 := Lib.hid k3
    have Hwas := Lib.hid hwas
    clear CC hwas
    obtain ⟨g1, g2, g3⟩ := k3.gat (g := w1.heap.size) (l := 6) (d := (D : Int)) (c := c) (t := 25) (f := (0, 0)) (by simp)
    have bx := withinI_bd x (D : Int) (by omega)
    have CX := Lib.hid (fun V => within_any x (D : Int) V hx (by omega))
    obtain ⟨x1, hx1⟩ := Int.eq_ofNat_of_zero_le bx.1
    rw [hx1] at CX bx
    have by1 := withinI_bd y ((D : Int) - 1) (by omega)
    have CY := Lib.hid (fun V => within_any y ((D : Int) - 1) V hy (by omega))
    obtain ⟨y0, hy0⟩ := Int.eq_ofNat_of_zero_le by1.1
    rw [hy0] at CY by1
    clear hx1 hy0 k3
    obtain ⟨y1, hy1, hne, hmd⟩ : ∃ y1 : Nat, y1 < D ∧ y1 ≠ x1 ∧ ((x1 : Int) + 1 + (y0 : Int)).tmod (D : Int) = ((y1 : Nat) : Int) := by
      by_cases h : x1 + 1 + y0 < D
      · refine ⟨x1 + 1 + y0, h, by omega, ?_⟩
        rw [Int.tmod_eq_of_lt (by omega) (by omega)]; omega
      · refine ⟨x1 + 1 + y0 - D, by omega, by omega, ?_⟩
        have e : ((x1 : Int) + 1 + (y0 : Int)) = ((x1 + 1 + y0 - D : Nat) : Int) + (D : Int) := by omega
        rw [e, Int.tmod_eq_emod_of_nonneg (by omega), Int.add_emod_right, Int.emod_eq_of_lt (by omega) (by omega)]
    have hD0 : ¬ D = 0 := by omega
    have i0 : (0 : Int) ≤ (x1 : Int) := by omega
    have i1 : (x1 : Int) < (D : Int) := by omega
    have j0 : (0 : Int) ≤ (y0 : Int) := by omega
    have j1 : (y0 : Int) < (D : Int) - 1 := by omega
    go_wp2_with fail
    (with_reducible refine (CX.out _).mono ?_); rintro e w4 ⟨rfl, h4⟩
    have hw4 := h4.symm
    subst hw4
    clear h4 CX
    go_wp2_with fail
    go_quiet ((go_at_call 11; with_reducible exact Calls.quiet_of_same (CY.out _)))
    have K4 := Lib.hid (K3.out.below (belowN _ _ nq))
    generalize w3.drewN nq = w4 at K4 ⊢
    clear g1 g2 g3 K3 CY hmd hD0
    obtain ⟨g1, g2, g3⟩ := K4.out.gat (g := w1.heap.size) (l := 6) (d := (D : Int)) (c := c) (t := 25) (f := (0, 0)) (by simp)
    have CLv := Lib.hid (live_any 0 D w4 (by omega) (by omega))
    go_wp2_with fail
    (with_reducible refine CLv.out.mono ?_); rintro e w5 ⟨gl, rfl, hgl, hglw, hb5⟩
    have K5 := Lib.hid (K4.out.block hb5 hgl hglw)
    have HLne := Lib.hid (show ∀ r ∈ LL ++ [(w1.heap.size, Obj.cells #[.int .i64 6, .int .i64 (D : Int), .int .i64 c] 25 (0, 0))], r.1 ≠ gl from fun r hr e => by
      have h1 := (Array.getElem?_eq_some_iff.1 (K4.out.kx.kp r hr).1).1
      omega)
    have hgz : gl < w5.heap.size := (Array.getElem?_eq_some_iff.1 hgl).1
    have K6 := Lib.hid ((K5.out.add (.cells #[.int .i64 (x1 : Int), .int .i64 (y1 : Int)] 3)).less (K' := (gl, Obj.cells ((liveL 0 D).map Value.bool).toArray 4 (0, 0)) :: (w5.heap.size, Obj.cells #[.int .i64 ((xs2 x1 y1 0 : Nat) : Int), .int .i64 ((xs2 x1 y1 1 : Nat) : Int)] 3 (0, 0)) :: (LL ++ [(w1.heap.size, Obj.cells #[.int .i64 6, .int .i64 (D : Int), .int .i64 c] 25 (0, 0))])) (R' := []) (S' := []) (fun p hp => by
      simp only [List.mem_cons] at hp ⊢
      rcases hp with rfl | rfl | hp
      · exact .inr (.inl rfl)
      · exact .inl rfl
      · exact .inr (.inr hp)) (fun _ h => h) (fun _ h => h))
    have HT1 := Lib.hid (show T1 N N (liveL 0 D) D (xs2 x1 y1) 0 from ⟨hNn, Fb0.out.gd.dn, Fb0.out.gd.lf, Fb0.out.gd.done, fun i hi _ => ⟨rfl, live0 hi⟩, fun t ht => by omega, liveL_len _ _⟩)
    clear hgl hglw hb5 K4 K5 CLv g1 g2 g3
    go_upto_block 0 with fail
    refine wp_block ?_
    refine rtA _ _ _ _ _ _ _ _ _ _ _ _ _ _ _ _ _ _ _ _ _ _ _ _ _ _ _ _ _ _ _ _ _ _ _ _ _ _ _ _ _ _ _ _ _ _ _ _ _ _ _ _ _ _ _ _ _ _ _ _ _ _ _ _ _ _ _ _ _ _ _ _ _ _ _ _ _ _ _ _ _ _ _ _ _ _ _ _ _ _ _ _ _ _ _ _ _ _ _ _ _ _ _ _ _ _ _ _ _ _ _ _ _ _ _ _ _ _ _ _ _ _ _ _ _ _ _ _ hD8 (xs2_lt (by omega) hy1) (List.mem_cons_self ..) (fun r hr => by
      rcases List.mem_cons.1 hr with rfl | hr
      · show w5.heap.size ≠ gl; omega
      · exact HLne.out r hr) ⟨Nat.zero_le _, K6.out, HT1.out⟩ (fun v14 v65 v66 v67 v68 v69 v70 v71 v72 v73 v74 v75 v76 v77 j H3 M3 lv3 V1 hI hxx => ?_)
    obtain ⟨_, k7, ht1⟩ := hI
    rw [hxx] at ht1
    have hgV : gl < V1.heap.size := (Array.getElem?_eq_some_iff.1 (k7.kx.kp _ (List.mem_cons_self ..)).1).1
    have K8 := Lib.hid ((k7.add (.cells #[.int .i64 (y1 : Int), .int .i64 (x1 : Int)] 3)).less (K' := (gl, Obj.cells (lv3.map Value.bool).toArray 4 (0, 0)) :: (V1.heap.size, Obj.cells #[.int .i64 ((xs2 y1 x1 0 : Nat) : Int), .int .i64 ((xs2 y1 x1 1 : Nat) : Int)] 3 (0, 0)) :: (LL ++ [(w1.heap.size, Obj.cells #[.int .i64 6, .int .i64 (D : Int), .int .i64 c] 25 (0, 0))])) (R' := []) (S' := []) (fun p hp => by
      simp only [List.mem_cons] at hp ⊢
      rcases hp with rfl | rfl | hp
      · exact .inr (.inl rfl)
      · exact .inl rfl
      · exact .inr (.inr (.inr hp))) (fun _ h => h) (fun _ h => h))
    have HT2 := Lib.hid (ht1.two (zs := xs2 y1 x1) Fb0.out ⟨rfl, rfl⟩)
    clear k7 ht1 hxx K6 HT1
    go_upto_block 2 with fail
    refine wp_block ?_
    refine rtB _ _ _ _ _ _ _ _ _ _ _ _ _ _ _ _ _ _ _ _ _ _ _ _ _ _ _ _ _ _ _ _ _ _ _ _ _ _ _ _ _ _ _ _ _ _ _ _ _ _ _ _ _ _ _ _ _ _ _ _ _ _ _ _ _ _ _ _ _ _ _ _ _ _ _ _ _ _ _ _ _ _ _ _ _ _ _ _ _ _ _ _ _ _ _ _ _ _ _ _ _ _ _ _ _ _ _ _ _ _ _ _ _ _ _ _ _ _ _ _ _ _ _ _ _ _ _ (gb := w1.heap.size) (c := c) (zl := zl) hD8 Hc6.out Fb0.out (xs2_lt hy1 (by omega)) hne (List.mem_cons_self ..) (List.mem_cons_of_mem _ (by simp)) (fun r hr => by
      rcases List.mem_cons.1 hr with rfl | hr
      · show V1.heap.size ≠ gl; omega
      · exact HLne.out r hr) ⟨Nat.zero_le _, K8.out, HT2.out⟩ (fun v8 v16 v83 v84 v85 v86 v87 v88 v89 v90 v91 v92 v93 v94 v95 v96 j2 H5 M5 lv5 V2 hI2 hxx2 => ?_)
    obtain ⟨_, k9, ht2⟩ := hI2
    rw [hxx2] at ht2
    have K9 := Lib.hid (k9.less (K' := LL ++ [(w1.heap.size, Obj.cells #[.int .i64 6, .int .i64 (D : Int), .int .i64 c] 25 (0, 0))]) (R' := []) (S' := []) (fun p hp => List.mem_cons_of_mem _ (List.mem_cons_of_mem _ hp)) (fun _ h => h) (fun _ h => h))
    have HO := Lib.hid (fun i (hi : i < D) => ht2.o i hi (fun t h1 h2 => by omega))
    have hM5 := ht2.n
    have hM5d := ht2.dn
    have H32 := Lib.hid (show ∀ d, d < D → ∀ r, r < 16 → (secAt (N.D d).now (36 + r)).length = 32 from fun d hd r hr => secAt_len (by rw [(Fb0.out.gd.ok d hd).now]; omega))
    clear k9 ht2 hxx2 K8 HT2
    go_upto_block 4 with fail
    refine wp_block ?_
    refine rtC _ _ _ _ _ _ _ _ _ _ _ _ _ _ _ _ _ _ _ _ _ _ _ _ _ _ _ _ _ _ _ _ _ _ _ _ _ _ _ _ _ _ _ _ _ _ _ _ _ _ _ _ _ _ _ _ _ _ _ _ _ _ _ _ _ _ _ _ _ _ _ _ _ _ _ _ _ _ _ _ _ _ _ _ _ _ _ _ _ _ _ _ _ _ _ _ _ _ _ _ _ _ _ _ _ _ _ _ _ _ _ _ _ _ _ _ _ _ _ _ _ _ _ _ _ _ _ _ _ (gb := w1.heap.size) (D := D) (c := c) (N := N) hD8 (by simp) hM5 hNn hM5d Fb0.out.gd.dn (fun d hd => (HO.out d hd).2.2.1) (fun d hd => Fb0.out.gd.f d hd) H32.out (fun d hd r hr => (HO.out d hd).1 _ (by omega)) (fun V hV => Hwas.out V fun p hp => hV p (List.mem_append_left _ hp)) ⟨Nat.zero_le _, K9.out⟩ (fun v8 v18 v19 v20 v21 v22 v97 v98 v99 v100 v101 v102 v103 v104 v105 v106 v107 v108 v109 v110 v111 v112 v113 v114 v115 v116 v117 v118 v119 v120 v121 v122 v123 v124 v125 v126 d3 V3 hI3 hxx3 => ?_)
    have K10 := Lib.hid hI3.2
    obtain ⟨g1, g2, g3⟩ := K10.out.gat (g := w1.heap.size) (l := 6) (d := (D : Int)) (c := c) (t := 25) (f := (0, 0)) (by simp)
    have CCk := refCheck_any 6 (D : Int) c V3 (by omega) (by omega) (by omega)
    rw [Hc6.out] at CCk
    have CCk := Lib.hid CCk
    clear hI3 hxx3 K9 HO H32
    go_wp2_with fail
    (with_reducible refine CCk.out.mono ?_); rintro e w8 ⟨rfl, hb8⟩
    have K11 := Lib.hid (K10.out.below hb8)
    have CW := Lib.hid (rbWakes_any w8)
    clear hb8 CCk g1 g2 g3 K10
    go_wp2_with fail
    (with_reducible refine CW.out.mono ?_); rintro e w9 ⟨rfl, hb9⟩
    have F9 := K11.out.bp.bel.trans (hb9.mono K11.out.bp.bel.size)
    clear hb9
    go_wp2_with fail
    go_ret
    exact ⟨rfl, F9⟩
end Go.Proofs.Ytadmofpipfdedaa
end
