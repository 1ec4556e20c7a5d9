/- Texts put together: WinKit, WindowLostLaw. -/
import Derived.Test.YtldfoadildaljaaWlbl
import Derived.Test.YtldfoadildaljaaWlbi
import Derived.Test.YtldfoadildaljaaWlbo
import Derived.Test.YtldfoadildaljaaWlbn
import Derived.Test.YtldfoadildaljaaWlal
import Derived.Test.YtldfoadildaljaaWlbm
import Derived.Test.YtldfoadildaljaaWlai
section
set_option maxRecDepth 20000
set_option linter.unusedVariables false
set_option linter.unusedSimpArgs false
namespace Go.Proofs.Ytldfoadildaljaa
open Go.RowKit

section
variable {N : Bch} {lv : List Bool} {l d c l' d' c' k r r0 fr : Int} {rs ds : List (List UInt8)}
end
section
variable {W w : World} {b gl : Nat} {H : BH} {N : Bch} {K : List (Nat × Obj)} {R0 : List (Option Addr × List (List UInt8))} {lv : List Bool} {l d c l' d' c' k : Int}
end
end Go.Proofs.Ytldfoadildaljaa
end
section
set_option maxRecDepth 20000
set_option linter.unusedVariables false
set_option linter.unusedSimpArgs false
namespace Go.Proofs.Ytldfoadildaljaa
open Go.RowKit

set_option maxRecDepth 100000 in
set_option maxHeartbeats 8000000 in
theorem windowlost (P : WinP) (m n : Int) (A : Option Addr) (zs : List Int) (cl : Nat) (x y z : Int) (w : World) (hm : (-9223372036854775808 ≤ m ∧ m ≤ 9223372036854775807)) (hn : (-9223372036854775808 ≤ n ∧ n ≤ 9223372036854775807)) (hcl : zs.length ≤ cl) (hz : RdZ w w.heap.size A zs) (hx : (-9223372036854775808 ≤ x ∧ x ≤ 9223372036854775807)) (hy : (-9223372036854775808 ≤ y ∧ y ≤ 9223372036854775807)) (hzz : (-9223372036854775808 ≤ z ∧ z ≤ 9223372036854775807)) :
    Calls Try.prog 4 #[.int .i64 m, .int .i64 n, .slice A zs.length cl, .int .i64 x, .int .i64 y, .int .i64 z] w fun e w' => e = .returned (.bool true) ∧ Below w.heap.size w w' := by
  have HZ := Lib.hid hz
  have hpn := ptr_eq
  have CP := Lib.hid (fun V => playPair_can m n V hm hn)
  have HP := Lib.hid P
  go_enter Try.func4, Try.ntmps4
  go_wp2_with fail
  (with_reducible refine (CP.out _).mono ?_); rintro e w1 ⟨l, dd, c, l', d', c', rfl, hc, hb⟩
  obtain ⟨hg1, hg2, _, hdd, hll, _⟩ := gCan_parts hc
  have hb1 := gOk_bd hg1
  have hb2 := gOk_bd hg2
  obtain ⟨D, rfl⟩ := Int.eq_ofNat_of_zero_le (show 0 ≤ dd by omega)
  obtain ⟨D', rfl⟩ := Int.eq_ofNat_of_zero_le (show 0 ≤ d' by omega)
  have hDD : D ≤ D' := by omega
  obtain ⟨R, Wn, wa, wb, Pq⟩ := pn_of hc
  have HQ := Lib.hid Pq
  have hrw := Pq.rows
  have hnb := Pq.n_bd
  have B2 := below2 w1 (.cells #[.int .i64 l, .int .i64 (D : Int), .int .i64 c] 23) (.cells #[.int .i64 l', .int .i64 (D' : Int), .int .i64 c'] 23)
  have hbb := hb.trans (B2.mono hb.size)
  have gr0 := gr_mk (l := l) (c := c) (r := (0 : Int)) (D := D) hg1 (by omega) (by omega)
  have CF := Lib.hid (stpFilled_any gr0 D' hDD (by omega) A zs zs.length cl ((w1.alloc (.cells #[.int .i64 l, .int .i64 (D : Int), .int .i64 c] 23)).alloc (.cells #[.int .i64 l', .int .i64 (D' : Int), .int .i64 c'] 23)) rfl hcl ((hz.below hbb (Nat.le_refl _)).keep hbb.size fun _ _ => rfl))
  have HB := Lib.hid hbb
  have O1 := Lib.hid (show ((w1.alloc (.cells #[.int .i64 l, .int .i64 (D : Int), .int .i64 c] 23)).alloc (.cells #[.int .i64 l', .int .i64 (D' : Int), .int .i64 c'] 23)).heap[w1.heap.size]? = some (Obj.cells #[.int .i64 l, .int .i64 (D : Int), .int .i64 c] 23 (0, 0)) from (hp_old _ _ _ (by simp)).trans (hp_new _ _ _ rfl))
  have O2 := Lib.hid (show ((w1.alloc (.cells #[.int .i64 l, .int .i64 (D : Int), .int .i64 c] 23)).alloc (.cells #[.int .i64 l', .int .i64 (D' : Int), .int .i64 c'] 23)).heap[w1.heap.size + 1]? = some (Obj.cells #[.int .i64 l', .int .i64 (D' : Int), .int .i64 c'] 23 (0, 0)) from hp_new _ _ _ (by simp))
  have hw1 := hb.size
  clear CP hc B2 hb hbb Pq P gr0
  go_wp2_with fail
  refine CF.out.mono ?_
  rintro e w2 ⟨b, H, N, rfl, k2, f2⟩
  have k0 := k2.open2 HB.out O1.out O2.out hw1 (by omega)
  have Hf := Lib.hid f2
  obtain ⟨g1, g2, g3⟩ := k0.gat (g := w1.heap.size) (l := l) (d := (D : Int)) (c := c) (t := 23) (f := (0, 0)) (by simp)
  obtain ⟨g4, g5, g6⟩ := k0.gat (g := w1.heap.size + 1) (l := l') (d := (D' : Int)) (c := c') (t := 23) (f := (0, 0)) (by simp)
  have CL := Lib.hid (ks_live k0 0 D' (by omega) (by omega))
  clear k2 f2 k0 O1 O2 CF HB
  go_wp2_with fail
  (with_reducible refine CL.out.mono ?_); rintro e w3 ⟨gl, rfl, k1⟩
  have K1 := Lib.hid k1
  clear g1 g2 g3 g4 g5 g6
  clear CL k1
  have hl0 : (liveL 0 D').length = D' := liveL_len _ _
  have k3 := K1.out.add (.cells #[.int .i64 x, .int .i64 y, .int .i64 z] 3)
  obtain ⟨gt3, hgt⟩ : ∃ gt, w3.heap.size = gt := ⟨_, rfl⟩
  rw [hgt] at k3
  have K3 := Lib.hid k3
  have HM0 := Lib.hid (show Mr N (liveL 0 D') l (D : Int) c (fun t => datL zs t (roW l (D : Int))) 0 ∧ N.n = D' from ⟨Hf.out.mr _, Hf.out.gd.n⟩)
  clear K1 k3 Hf hz
  go_wp2_with fail
  go_loopw [52] (fun i wr => ∃ (j : Nat) (N : Bch) (H : BH), j ≤ 3 ∧ i = .int .i64 j ∧ KS w wr b H N [(gt3, Obj.cells #[.int .i64 x, .int .i64 y, .int .i64 z] 3 (0, 0)), (gl, Obj.cells ((liveL 0 D').map Value.bool).toArray 4 (0, 0)), (w1.heap.size, Obj.cells #[.int .i64 l, .int .i64 (D : Int), .int .i64 c] 23 (0, 0)), (w1.heap.size + 1, Obj.cells #[.int .i64 l', .int .i64 (D' : Int), .int .i64 c'] 23 (0, 0))] [] [] ∧ Mr N (liveL 0 D') l (D : Int) c (fun t => datL zs t (roW l (D : Int))) 0 ∧ N.n = D') (fun i _ => 3 - (intOf i).toNat)
  case atStart => exact ⟨0, N, H, by omega, rfl, K3.out, HM0.out⟩
  case round =>
    obtain ⟨j, N, H, hj, rfl, hk, hmr, hnn⟩ := hrel
    have HK := Lib.hid hk
    have HMr := Lib.hid hmr
    clear K3 HM0 hmr
    by_cases hlt : j < 3
    · have i0 : (0 : Int) ≤ (j : Int) := by omega
      have i1 : (j : Int) < 3 := by omega
      obtain ⟨v, hv, hcell⟩ : ∃ v : Int, (-9223372036854775808 ≤ v ∧ v ≤ 9223372036854775807) ∧ wr.cell? ⟨gt3, j, none⟩ = some (.int .i64 v) := by
        have h1 := (hk.kx.kp (gt3, Obj.cells #[.int .i64 x, .int .i64 y, .int .i64 z] 3 (0, 0)) (by simp)).1
        obtain rfl | rfl | rfl : j = 0 ∨ j = 1 ∨ j = 2 := by omega
        · exact ⟨x, hx, cell_of_row wr gt3 0 _ _ _ h1⟩
        · exact ⟨y, hy, cell_of_row wr gt3 1 _ _ _ h1⟩
        · exact ⟨z, hzz, cell_of_row wr gt3 2 _ _ _ h1⟩
      have bd1 := withinI_bd v (D' : Int) (by omega)
      have CD := Lib.hid (fun V => within_any v (D' : Int) V hv (by omega))
      obtain ⟨d1, hd1⟩ := Int.eq_ofNat_of_zero_le bd1.1
      rw [hd1] at CD bd1
      have CFl := Lib.hid (fun V (h : KS w V b H N [(gt3, Obj.cells #[.int .i64 x, .int .i64 y, .int .i64 z] 3 (0, 0)), (gl, Obj.cells ((liveL 0 D').map Value.bool).toArray 4 (0, 0)), (w1.heap.size, Obj.cells #[.int .i64 l, .int .i64 (D : Int), .int .i64 c] 23 (0, 0)), (w1.heap.size + 1, Obj.cells #[.int .i64 l', .int .i64 (D' : Int), .int .i64 c'] 23 (0, 0))] [] []) => ks_fail h (d1 : Int) ⟨by omega, by omega⟩)
      have HM1 := Lib.hid (HMr.out.fail (k := d1) (by omega))
      obtain ⟨g1, g2, g3⟩ := HK.out.gat (g := w1.heap.size) (l := l) (d := (D : Int)) (c := c) (t := 23) (f := (0, 0)) (by simp)
      obtain ⟨g4, g5, g6⟩ := HK.out.gat (g := w1.heap.size + 1) (l := l') (d := (D' : Int)) (c := c') (t := 23) (f := (0, 0)) (by simp)
      clear hd1 hk hv HMr
      go_wp2_with fail
      (with_reducible refine (CD.out _).mono ?_); rintro e w4 ⟨rfl, h4⟩
      obtain rfl : wr = w4 := h4.symm
      clear h4 CD
      go_wp2_with fail
      (with_reducible refine (CFl.out _ HK.out).mono ?_); rintro e w5 ⟨rfl, H5, k5⟩
      have K5 := Lib.hid k5
      clear g1 g2 g3 g4 g5 g6
      clear CFl k5 HK
      go_wp2_with fail
      go_roundw
      case rel => exact ⟨j + 1, N.fail (d1 : Int), H5, by omega, by go_num, K5.out, HM1.out, fail_is.trans hnn⟩
      case measure => simp [intOf]; omega
    · have i1 : ¬ (j : Int) < 3 := by omega
      have K4 := Lib.hid (hk.less (K' := [(gl, Obj.cells ((liveL 0 D').map Value.bool).toArray 4 (0, 0)), (w1.heap.size, Obj.cells #[.int .i64 l, .int .i64 (D : Int), .int .i64 c] 23 (0, 0)), (w1.heap.size + 1, Obj.cells #[.int .i64 l', .int .i64 (D' : Int), .int .i64 c'] 23 (0, 0))]) (R' := []) (S' := []) (fun p hp => List.mem_cons_of_mem _ hp) (fun p hp => hp) (fun p hp => hp))
      obtain ⟨nb, hnbq⟩ : ∃ nb : Nat, R * wb = (nb : Int) := ⟨(R * wb).toNat, by omega⟩
      have HNb := Lib.hid hnbq
      have CWn := Lib.hid (fun V => refWindows_any l (D : Int) c l' (D' : Int) c' V (by omega) (by omega) (by omega) (by omega) (by omega) (by omega))
      rw [HQ.out.eK] at CWn
      have hcap := HQ.out.capA
      have hrk := HQ.out.rk
      have HRd := Lib.hid (dat_rows l (D : Int) zs)
      rw [hnbq] at hnb
      clear hk hnbq HK
      go_wp2_with fail
      go_loopw [19] (fun i V => ∃ kk : Nat, (kk : Int) ≤ Wn ∧ i = .int .i64 kk ∧ KS w V b H N [(gl, Obj.cells ((liveL 0 D').map Value.bool).toArray 4 (0, 0)), (w1.heap.size, Obj.cells #[.int .i64 l, .int .i64 (D : Int), .int .i64 c] 23 (0, 0)), (w1.heap.size + 1, Obj.cells #[.int .i64 l', .int .i64 (D' : Int), .int .i64 c'] 23 (0, 0))] [] []) (fun i _ => (Wn - intOf i).toNat)
      case atStart => exact ⟨0, by omega, rfl, K4.out⟩
      case round =>
        obtain ⟨kk, hkk, rfl, hk⟩ := hrel
        have HK := Lib.hid hk
        clear hk K4
        obtain ⟨g1, g2, g3⟩ := HK.out.gat (g := w1.heap.size) (l := l) (d := (D : Int)) (c := c) (t := 23) (f := (0, 0)) (by simp)
        obtain ⟨g4, g5, g6⟩ := HK.out.gat (g := w1.heap.size + 1) (l := l') (d := (D' : Int)) (c := c') (t := 23) (f := (0, 0)) (by simp)
        go_wp2_with fail
        (with_reducible refine (CWn.out _).mono ?_); rintro e w4 ⟨rfl, hb4⟩
        have K5 := Lib.hid (HK.out.below hb4)
        clear g1 g2 g3 g4 g5 g6
        clear hb4 HK
        obtain ⟨g1, g2, g3⟩ := K5.out.gat (g := w1.heap.size) (l := l) (d := (D : Int)) (c := c) (t := 23) (f := (0, 0)) (by simp)
        obtain ⟨g4, g5, g6⟩ := K5.out.gat (g := w1.heap.size + 1) (l := l') (d := (D' : Int)) (c := c') (t := 23) (f := (0, 0)) (by simp)
        by_cases hlt : (kk : Int) < Wn
        · have CSp := Lib.hid (fun V => refSpan_any l (D : Int) c l' (D' : Int) c' (kk : Int) V (by omega) (by omega) (by omega) (by omega) (by omega) (by omega) (by omega))
          have hT0 : pnT l (D : Int) c l' (D' : Int) c' (kk : Int) = (kk : Int) * (R * wb) + R * wb := by unfold pnT; rw [if_pos (HQ.out.sok (by omega) (by omega)), HQ.out.n, Int.add_mul, Int.one_mul]
          rw [HQ.out.frm (by omega) (by omega), hT0, HNb.out] at CSp
          have hrd := (HMr.out.le (s' := (kk : Int) * R) (Int.mul_nonneg (by omega) (by omega))).read HQ.out (k := (kk : Int)) (by omega) hlt HRd.out
          have hrd := hrd.1
          rw [HNb.out, show ((nb : Nat) : Int).toNat = nb from Int.toNat_natCast _] at hrd
          obtain ⟨fr, hfr⟩ : ∃ fr : Nat, (kk : Int) * (nb : Int) = (fr : Int) := ⟨kk * nb, by rw [Int.natCast_mul]⟩
          have hfb : fr ≤ 16 * 28 := by
            have h1 : kk * nb ≤ 16 * 28 := Nat.mul_le_mul (by omega) (by omega)
            have h2 : ((kk * nb : Nat) : Int) = (fr : Int) := by rw [Int.natCast_mul]; exact hfr
            omega
          rw [hfr] at CSp hrd
          obtain ⟨en, hen⟩ : ∃ en : Int, (fr : Int) + (nb : Int) = en := ⟨_, rfl⟩
          rw [hen] at CSp
          have hwn : IntKind.i64.wrap (en - (fr : Int)) = (nb : Int) := by rw [show en - (fr : Int) = (nb : Int) by omega]; exact IntWalk.i64_in _ (by omega)
          have henb : en - (fr : Int) = (nb : Int) := by omega
          have CCp := Lib.hid (fun V => refCapacity_any l (D : Int) c V (by omega) (by omega) (by omega))
          have CR := fun (V : World) (h : KS w V b H N [(gl, Obj.cells ((liveL 0 D').map Value.bool).toArray 4 (0, 0)), (w1.heap.size, Obj.cells #[.int .i64 l, .int .i64 (D : Int), .int .i64 c] 23 (0, 0)), (w1.heap.size + 1, Obj.cells #[.int .i64 l', .int .i64 (D' : Int), .int .i64 c'] 23 (0, 0))] [] []) => HP.out.rd w V b H N _ _ _ h (liveL 0 D') (some ⟨gl, 0, none⟩) D' D' hl0.symm (h.lv (g := gl) (lv := (liveL 0 D')) (t := 4) (f := (0, 0)) (by simp) rfl (by omega)) l (D : Int) c l' (D' : Int) c' (kk : Int) (by omega) (by omega) (by omega) (by omega) (by omega) (by omega) (by omega)
          clear hT0 hfr hen
          rcases hrd with hrd | ⟨hrd, hfc⟩
          · rw [hrd] at CR
            have CR := Lib.hid CR
            have hwl := wlist_len (gCap l (D : Int) c) (valOf l (D : Int) c (fun t => datL zs t (roW l (D : Int)))) (fr : Int) nb
            clear hrd CCp
            go_wp2_with fail
            (with_reducible refine (CSp.out _).mono ?_); rintro e w5 ⟨rfl, hb5⟩
            have K6 := Lib.hid (K5.out.below hb5)
            clear g1 g2 g3 g4 g5 g6
            clear hb5 K5 CSp
            obtain ⟨g1, g2, g3⟩ := K6.out.gat (g := w1.heap.size) (l := l) (d := (D : Int)) (c := c) (t := 23) (f := (0, 0)) (by simp)
            obtain ⟨g4, g5, g6⟩ := K6.out.gat (g := w1.heap.size + 1) (l := l') (d := (D' : Int)) (c := c') (t := 23) (f := (0, 0)) (by simp)
            go_wp2_with fail
            (with_reducible refine (CR.out _ K6.out).mono ?_); rintro e w6 ⟨A6, c6, rfl, k7⟩
            dsimp only at k7 ⊢
            rw [hwl]
            have K7 := Lib.hid k7
            clear g1 g2 g3 g4 g5 g6
            clear k7 K6 CR hwl
            obtain ⟨g1, g2, g3⟩ := K7.out.gat (g := w1.heap.size) (l := l) (d := (D : Int)) (c := c) (t := 23) (f := (0, 0)) (by simp)
            obtain ⟨g4, g5, g6⟩ := K7.out.gat (g := w1.heap.size + 1) (l := l') (d := (D' : Int)) (c := c') (t := 23) (f := (0, 0)) (by simp)
            go_upto_block 4 with fail
            refine wp_block ?_
            refine wlI _ _ _ _ _ _ _ _ _ _ _ _ _ _ _ _ _ _ _ _ _ _ _ _ _ _ _ _ _ _ _ _ _ _ _ _ _ _ _ _ _ _ _ _ _ _ _ _ _ _ _ _ _ _ _ _ _ _ _ _ _ _ _ _ _ _ _ _ _ _ _ _ _ _ _ _ _ _ _ _ _ _ _ _ _ _ _ _ _ _ _ _ _ _ _ _ _ _ _ _ _ _ _ _ _ _ _ _ _ _ _ _ _ _ _ _ _ _ _ _ _ _ _ _ _ _ _ _ _ _ _ _ _ _ _ _ _ _ _ _ _ _ _ _ _ _ _ _ _ _ _ hg1 hcl HZ.out (by simp) (by omega) (by omega) (List.mem_cons_self ..) ⟨Nat.zero_le _, K7.out⟩ (fun v12 v24 v25 v26 v27 v28 v29 v30 v112 v113 v114 v115 v116 v117 v118 v119 v120 v121 v122 v123 v124 v125 v126 v127 v128 v129 v130 v131 v132 v133 v134 v135 v136 v137 v138 v139 v140 v141 v142 v143 v144 v145 v146 v147 v148 v149 v150 v151 v152 v153 v154 ix V8 hI8 hx8 => ?_)
            have K8 := Lib.hid (hI8.2.less (K' := [(gl, Obj.cells ((liveL 0 D').map Value.bool).toArray 4 (0, 0)), (w1.heap.size, Obj.cells #[.int .i64 l, .int .i64 (D : Int), .int .i64 c] 23 (0, 0)), (w1.heap.size + 1, Obj.cells #[.int .i64 l', .int .i64 (D' : Int), .int .i64 c'] 23 (0, 0))]) (R' := []) (S' := []) (fun p hp => hp) (fun p hp => by cases hp) (fun p hp => hp))
            clear g1 g2 g3 g4 g5 g6
            clear hI8 hx8 K7
            go_wp2_with fail
            go_roundw
            case rel => exact ⟨kk + 1, by omega, by go_num, K8.out⟩
            case measure => simp [intOf]; omega
          · rw [hrd] at CR
            have CR := Lib.hid CR
            clear hrd
            go_wp2_with fail
            (with_reducible refine (CSp.out _).mono ?_); rintro e w5 ⟨rfl, hb5⟩
            have K6 := Lib.hid (K5.out.below hb5)
            clear g1 g2 g3 g4 g5 g6
            clear hb5 K5 CSp
            obtain ⟨g1, g2, g3⟩ := K6.out.gat (g := w1.heap.size) (l := l) (d := (D : Int)) (c := c) (t := 23) (f := (0, 0)) (by simp)
            obtain ⟨g4, g5, g6⟩ := K6.out.gat (g := w1.heap.size + 1) (l := l') (d := (D' : Int)) (c := c') (t := 23) (f := (0, 0)) (by simp)
            go_wp2_with fail
            (with_reducible refine (CR.out _ K6.out).mono ?_); rintro e w6 ⟨A6, c6, rfl, k7⟩
            have K7 := Lib.hid (k7.less (K' := [(gl, Obj.cells ((liveL 0 D').map Value.bool).toArray 4 (0, 0)), (w1.heap.size, Obj.cells #[.int .i64 l, .int .i64 (D : Int), .int .i64 c] 23 (0, 0)), (w1.heap.size + 1, Obj.cells #[.int .i64 l', .int .i64 (D' : Int), .int .i64 c'] 23 (0, 0))]) (R' := []) (S' := []) (fun p hp => hp) (fun p hp => by cases hp) (fun p hp => hp))
            clear g1 g2 g3 g4 g5 g6
            clear k7 K6 CR
            obtain ⟨g1, g2, g3⟩ := K7.out.gat (g := w1.heap.size) (l := l) (d := (D : Int)) (c := c) (t := 23) (f := (0, 0)) (by simp)
            obtain ⟨g4, g5, g6⟩ := K7.out.gat (g := w1.heap.size + 1) (l := l') (d := (D' : Int)) (c := c') (t := 23) (f := (0, 0)) (by simp)
            have hl00 : ([] : List (List UInt8)).length = 0 := rfl
            rw [hl00]
            go_wp2_with fail
            (with_reducible refine (CCp.out _).mono ?_); rintro e w7 ⟨rfl, hb7⟩
            have K8 := Lib.hid (K7.out.below hb7)
            clear g1 g2 g3 g4 g5 g6
            clear hb7 K7 CCp
            go_wp2_with fail
            go_roundw
            case rel => exact ⟨kk + 1, by omega, by go_num, K8.out⟩
            case measure => simp [intOf]; omega
        · go_wp2_with fail
          (with_reducible refine (winWakes_any HP.out _).mono ?_); rintro e w10 ⟨rfl, h10⟩
          have K10 := K5.out.below h10
          go_wp2_with fail
          go_ret
          exact ⟨rfl, K10.bp.bel⟩
end Go.Proofs.Ytldfoadildaljaa
end
