/- Texts put together: WindowCrashLaw. -/
import Derived.Test.YtldfoadildaljaaGreatWcbp
import Derived.Test.YtldfoadildaljaaGreatWcbl
import Derived.Test.YtldfoadildaljaaGreatWcal
import Derived.Test.YtldfoadildaljaaGreatWcbm
import Derived.Test.YtldfoadildaljaaGreatWcai
section
set_option maxRecDepth 20000
set_option linter.unusedVariables false
set_option linter.unusedSimpArgs false
namespace Go.Proofs.YtldfoadildaljaaGreat
open Go.RowKit

set_option maxRecDepth 100000 in
set_option maxHeartbeats 8000000 in
theorem windowcrash (P : WinP) (m n : Int) (A : Option Addr) (zs : List Int) (cl : Nat) (kz limit : Int) (B : Option Addr) (ks : List Bool) (ck : Nat) (w : World) (hm : (-9223372036854775808 ≤ m ∧ m ≤ 9223372036854775807)) (hn : (-9223372036854775808 ≤ n ∧ n ≤ 9223372036854775807)) (hcl : zs.length ≤ cl) (hz : RdZ w w.heap.size A zs) (hkz : (-9223372036854775808 ≤ kz ∧ kz ≤ 9223372036854775807)) (hli : (-9223372036854775808 ≤ limit ∧ limit ≤ 9223372036854775807)) (hck : ks.length ≤ ck) (hks : RdO w w.heap.size B ks) :
    Calls Tryz.prog 3 #[.int .i64 m, .int .i64 n, .slice A zs.length cl, .int .i64 kz, .int .i64 limit, .slice B ks.length ck] w fun e w' => e = .returned (.bool true) ∧ Below w.heap.size w w' := by
  have HZ := Lib.hid hz
  have Hks := Lib.hid hks
  clear hks
  have hpn := ptr_eq
  have CP := Lib.hid (fun V => playPair_can m n V hm hn)
  have HP := Lib.hid P
  go_enter Tryz.func3, Tryz.ntmps3
  go_wp2_with fail
  (with_reducible refine (CP.out _).mono ?_); rintro e w1 ⟨l, dd, c, l', d', c', rfl, hc, hb⟩
  obtain ⟨hg1, hg2, _, hdd, hll, _⟩ := gCan_parts hc
  have hb1 := gOk_bd hg1
  have hb2 := gOk_bd hg2
  obtain ⟨D, rfl⟩ := Int.eq_ofNat_of_zero_le (show 0 ≤ dd by omega)
  obtain ⟨D', rfl⟩ := Int.eq_ofNat_of_zero_le (show 0 ≤ d' by omega)
  have hDD : D ≤ D' := by omega
  obtain ⟨R, Wn, wa, wb, Pq⟩ := pn_of hc
  have HQ := Lib.hid Pq
  have hrw := Pq.rows
  have hnb := Pq.n_bd
  have B2 := below2 w1 (.cells #[.int .i64 l, .int .i64 (D : Int), .int .i64 c] 25) (.cells #[.int .i64 l', .int .i64 (D' : Int), .int .i64 c'] 25)
  have hbb := hb.trans (B2.mono hb.size)
  have gr0 := gr_mk (l := l) (c := c) (r := (0 : Int)) (D := D) hg1 (by omega) (by omega)
  have CF := Lib.hid (stpFilled_any gr0 D' hDD (by omega) A zs zs.length cl ((w1.alloc (.cells #[.int .i64 l, .int .i64 (D : Int), .int .i64 c] 25)).alloc (.cells #[.int .i64 l', .int .i64 (D' : Int), .int .i64 c'] 25)) rfl hcl ((hz.below hbb (Nat.le_refl _)).keep hbb.size fun _ _ => rfl))
  have HB := Lib.hid hbb
  have O1 := Lib.hid (show ((w1.alloc (.cells #[.int .i64 l, .int .i64 (D : Int), .int .i64 c] 25)).alloc (.cells #[.int .i64 l', .int .i64 (D' : Int), .int .i64 c'] 25)).heap[w1.heap.size]? = some (Obj.cells #[.int .i64 l, .int .i64 (D : Int), .int .i64 c] 25 (0, 0)) from (hp_old _ _ _ (by simp)).trans (hp_new _ _ _ rfl))
  have O2 := Lib.hid (show ((w1.alloc (.cells #[.int .i64 l, .int .i64 (D : Int), .int .i64 c] 25)).alloc (.cells #[.int .i64 l', .int .i64 (D' : Int), .int .i64 c'] 25)).heap[w1.heap.size + 1]? = some (Obj.cells #[.int .i64 l', .int .i64 (D' : Int), .int .i64 c'] 25 (0, 0)) from hp_new _ _ _ (by simp))
  have hw1 := hb.size
  clear CP hc B2 hb hbb Pq P gr0
  go_wp2_with fail
  refine CF.out.mono ?_
  rintro e w2 ⟨b, H, N, rfl, k2, f2⟩
  have k0 := k2.open2 HB.out O1.out O2.out hw1 (by omega)
  have Hf := Lib.hid f2
  obtain ⟨g1, g2, g3⟩ := k0.gat (g := w1.heap.size) (l := l) (d := (D : Int)) (c := c) (t := 25) (f := (0, 0)) (by simp)
  obtain ⟨g4, g5, g6⟩ := k0.gat (g := w1.heap.size + 1) (l := l') (d := (D' : Int)) (c := c') (t := 25) (f := (0, 0)) (by simp)
  have CL := Lib.hid (ks_live k0 0 D' (by omega) (by omega))
  clear k2 f2 k0 O1 O2 CF HB
  go_wp2_with fail
  (with_reducible refine CL.out.mono ?_); rintro e w3 ⟨gl, rfl, k1⟩
  have K1 := Lib.hid k1
  clear g1 g2 g3 g4 g5 g6
  clear CL k1
  have hl0 : (liveL 0 D').length = D' := liveL_len _ _
  have HI0 := Lib.hid (show WcI N D' l D c l' c' (fun t => datL zs t (roW l (D : Int))) (((0 : Nat) : Int) * R) ∧ N.done ≤ 32 * 0 from ⟨by rw [show ((0 : Nat) : Int) * R = 0 from Int.zero_mul R]; exact Hf.out.wc, by rw [Hf.out.gd.done]; exact Nat.le_refl _⟩)
  obtain ⟨nb, hnbq⟩ : ∃ nb : Nat, R * wb = (nb : Int) := ⟨(R * wb).toNat, by omega⟩
  have HNb := Lib.hid hnbq
  have CWn := Lib.hid (fun V => refWindows_any l (D : Int) c l' (D' : Int) c' V (by omega) (by omega) (by omega) (by omega) (by omega) (by omega))
  rw [HQ.out.eK] at CWn
  have hrk := HQ.out.rk
  have HRd := Lib.hid (wdat_rows l (D : Int) zs)
  rw [hnbq] at hnb
  have bk1 := withinI_bd kz Wn (by omega)
  have CK := Lib.hid (fun V => within_any kz Wn V hkz (by omega))
  obtain ⟨kk, hkk⟩ := Int.eq_ofNat_of_zero_le bk1.1
  rw [hkk] at CK bk1
  clear hkk hnbq Hf hz
  obtain ⟨g1, g2, g3⟩ := K1.out.gat (g := w1.heap.size) (l := l) (d := (D : Int)) (c := c) (t := 25) (f := (0, 0)) (by simp)
  obtain ⟨g4, g5, g6⟩ := K1.out.gat (g := w1.heap.size + 1) (l := l') (d := (D' : Int)) (c := c') (t := 25) (f := (0, 0)) (by simp)
  go_wp2_with fail
  (with_reducible refine (CWn.out _).mono ?_); rintro e w4 ⟨rfl, hb4⟩
  have K2 := Lib.hid (K1.out.below hb4)
  clear g1 g2 g3 g4 g5 g6
  clear hb4 K1
  obtain ⟨g1, g2, g3⟩ := K2.out.gat (g := w1.heap.size) (l := l) (d := (D : Int)) (c := c) (t := 25) (f := (0, 0)) (by simp)
  obtain ⟨g4, g5, g6⟩ := K2.out.gat (g := w1.heap.size + 1) (l := l') (d := (D' : Int)) (c := c') (t := 25) (f := (0, 0)) (by simp)
  go_wp2_with fail
  (with_reducible refine (CK.out _).mono ?_); rintro e w5 ⟨rfl, h5⟩
  obtain rfl : w4 = w5 := h5.symm
  clear h5 CK
  go_wp2_with fail
  go_loopw [17] (fun i V => ∃ (j : Nat) (N : Bch) (H : BH), j ≤ kk ∧ i = .int .i64 j ∧ KS w V b H N [(gl, Obj.cells ((liveL 0 D').map Value.bool).toArray 4 (0, 0)), (w1.heap.size, Obj.cells #[.int .i64 l, .int .i64 (D : Int), .int .i64 c] 25 (0, 0)), (w1.heap.size + 1, Obj.cells #[.int .i64 l', .int .i64 (D' : Int), .int .i64 c'] 25 (0, 0))] [] [] ∧ WcI N D' l D c l' c' (fun t => datL zs t (roW l (D : Int))) ((j : Int) * R) ∧ N.done ≤ 32 * j) (fun i _ => (kk - intOf i).toNat)
  case atStart => exact ⟨0, N, H, Nat.zero_le _, rfl, K2.out, HI0.out⟩
  case round =>
    obtain ⟨j, N, H, hj, rfl, hk, hI, hdn⟩ := hrel
    have HK := Lib.hid hk
    clear g1 g2 g3 g4 g5 g6
    clear hk K2 HI0
    by_cases hlt : j < kk
    · have i0 : (0 : Int) ≤ (j : Int) := by omega
      have i1 : (j : Int) < (kk : Int) := by omega
      have hrd := hI.read HQ.out hDD (by omega) (by omega) HRd.out
      obtain ⟨N2, hst, hI2, hd2⟩ := hI.step HQ.out (by omega) (by omega) HRd.out
      rw [HNb.out, show ((nb : Nat) : Int).toNat = nb from Int.toNat_natCast _] at hrd hst
      obtain ⟨fr, hfr⟩ : ∃ fr : Nat, (j : Int) * (nb : Int) = (fr : Int) := ⟨j * nb, by rw [Int.natCast_mul]⟩
      have hfb : fr ≤ 16 * 28 := by
        have h1 : j * nb ≤ 16 * 28 := Nat.mul_le_mul (by omega) (by omega)
        have h2 : ((j * nb : Nat) : Int) = (fr : Int) := by rw [Int.natCast_mul]; exact hfr
        omega
      rw [hfr] at hrd hst
      have hwl := wlist_len (gCap l (D : Int) c) (valOf l (D : Int) c (fun t => datL zs t (roW l (D : Int)))) (fr : Int) nb
      have CR := fun (V : World) (H : BH) (h : KS w V b H N [(gl, Obj.cells ((liveL 0 D').map Value.bool).toArray 4 (0, 0)), (w1.heap.size, Obj.cells #[.int .i64 l, .int .i64 (D : Int), .int .i64 c] 25 (0, 0)), (w1.heap.size + 1, Obj.cells #[.int .i64 l', .int .i64 (D' : Int), .int .i64 c'] 25 (0, 0))] [] []) => HP.out.rd w V b H N _ _ _ h (liveL 0 D') (some ⟨gl, 0, none⟩) D' D' hl0.symm (h.lv (g := gl) (lv := (liveL 0 D')) (t := 4) (f := (0, 0)) (by simp) rfl (by omega)) l (D : Int) c l' (D' : Int) c' (j : Int) (by omega) (by omega) (by omega) (by omega) (by omega) (by omega) (by omega)
      rw [hrd] at CR
      have CW := fun (V : World) (A2 : Option Addr) (c2 : Nat) (H : BH) (h : KS w V b H N [(gl, Obj.cells ((liveL 0 D').map Value.bool).toArray 4 (0, 0)), (w1.heap.size, Obj.cells #[.int .i64 l, .int .i64 (D : Int), .int .i64 c] 25 (0, 0)), (w1.heap.size + 1, Obj.cells #[.int .i64 l', .int .i64 (D' : Int), .int .i64 c'] 25 (0, 0))] [(A2, (wlist (gCap l (D : Int) c) (valOf l (D : Int) c (fun t => datL zs t (roW l (D : Int)))) (fr : Int) nb))] []) => HP.out.wr w V b H N _ _ _ h (liveL 0 D') (some ⟨gl, 0, none⟩) D' D' hl0.symm (h.lv (g := gl) (lv := (liveL 0 D')) (t := 4) (f := (0, 0)) (by simp) rfl (by omega)) l (D : Int) c l' (D' : Int) c' (j : Int) (by omega) (by omega) (by omega) (by omega) (by omega) (by omega) (by omega) A2 (wlist (gCap l (D : Int) c) (valOf l (D : Int) c (fun t => datL zs t (roW l (D : Int)))) (fr : Int) nb) nb c2 hwl (by omega) (h.rx _ (List.mem_cons_self ..)) hI.ps (by omega)
      simp only [hst] at CW
      have CR := Lib.hid CR
      have CW := Lib.hid CW
      have HI2 := Lib.hid hI2
      have HD2 := Lib.hid (show N2.done ≤ N.done + 32 from hd2)
      clear hI2 hd2 hrd hst hI hfr
      obtain ⟨g1, g2, g3⟩ := HK.out.gat (g := w1.heap.size) (l := l) (d := (D : Int)) (c := c) (t := 25) (f := (0, 0)) (by simp)
      obtain ⟨g4, g5, g6⟩ := HK.out.gat (g := w1.heap.size + 1) (l := l') (d := (D' : Int)) (c := c') (t := 25) (f := (0, 0)) (by simp)
      go_wp2_with fail
      (with_reducible refine (CR.out _ _ HK.out).mono ?_); rintro e w5 ⟨A5, c5, rfl, k5⟩
      dsimp only at k5 ⊢
      rw [hwl]
      have CW5 := Lib.hid (CW.out _ _ c5 _ k5)
      clear g1 g2 g3 g4 g5 g6
      obtain ⟨g1, g2, g3⟩ := k5.gat (g := w1.heap.size) (l := l) (d := (D : Int)) (c := c) (t := 25) (f := (0, 0)) (by simp)
      obtain ⟨g4, g5, g6⟩ := k5.gat (g := w1.heap.size + 1) (l := l') (d := (D' : Int)) (c := c') (t := 25) (f := (0, 0)) (by simp)
      clear k5 CR CW HK hwl
      go_wp2_with fail
      (with_reducible refine CW5.out.mono ?_); rintro e w6 ⟨rfl, H6, k6⟩
      dsimp only at k6 ⊢
      have K6 := Lib.hid (k6.less (K' := [(gl, Obj.cells ((liveL 0 D').map Value.bool).toArray 4 (0, 0)), (w1.heap.size, Obj.cells #[.int .i64 l, .int .i64 (D : Int), .int .i64 c] 25 (0, 0)), (w1.heap.size + 1, Obj.cells #[.int .i64 l', .int .i64 (D' : Int), .int .i64 c'] 25 (0, 0))]) (R' := []) (S' := []) (fun p hp => hp) (fun p hp => by cases hp) (fun p hp => hp))
      clear g1 g2 g3 g4 g5 g6
      clear k6 CW5
      go_wp2_with fail
      go_roundw
      case rel => exact ⟨j + 1, N2, H6, by omega, by go_num, K6.out, by rw [Int.natCast_add]; exact HI2.out, by have := HD2.out; omega⟩
      case measure => simp [intOf]; omega
    · have i1 : ¬ (j : Int) < (kk : Int) := by omega
      have hjk : j = kk := by omega
      have hI : WcI N D' l D c l' c' (fun t => datL zs t (roW l (D : Int))) ((kk : Int) * R) := by rw [← hjk]; exact hI
      have hdn : N.done ≤ 32 * kk := by rw [← hjk]; exact hdn
      have bl1 := withinI_bd limit 40 (by omega)
      have CLm := Lib.hid (fun V => within_any limit 40 V hli (by omega))
      generalize withinI limit 40 = lim at bl1 CLm
      have hrd := hI.read HQ.out hDD (by omega) (by omega) HRd.out
      obtain ⟨f, M, hcut, hE, hMn, hMp, hMd, hMq, N3, hst, hI3, hd3⟩ := hI.cut HQ.out bl1.1 (by omega) (by omega) HRd.out ks
      rw [HNb.out, show ((nb : Nat) : Int).toNat = nb from Int.toNat_natCast _] at hrd hst hcut
      obtain ⟨fr, hfr⟩ : ∃ fr : Nat, (kk : Int) * (nb : Int) = (fr : Int) := ⟨kk * nb, by rw [Int.natCast_mul]⟩
      have hfb : fr ≤ 16 * 28 := by
        have h1 : kk * nb ≤ 16 * 28 := Nat.mul_le_mul (by omega) (by omega)
        have h2 : ((kk * nb : Nat) : Int) = (fr : Int) := by rw [Int.natCast_mul]; exact hfr
        omega
      rw [hfr] at hrd hst hcut
      obtain ⟨ql1, ql2, ql3, ql4, ql5⟩ := limit_all (N := N) hI.mv.wg.dn bl1.1
      have hwl := wlist_len (gCap l (D : Int) c) (valOf l (D : Int) c (fun t => datL zs t (roW l (D : Int)))) (fr : Int) nb
      have CR := fun (V : World) (H : BH) (h : KS w V b H N [(gl, Obj.cells ((liveL 0 D').map Value.bool).toArray 4 (0, 0)), (w1.heap.size, Obj.cells #[.int .i64 l, .int .i64 (D : Int), .int .i64 c] 25 (0, 0)), (w1.heap.size + 1, Obj.cells #[.int .i64 l', .int .i64 (D' : Int), .int .i64 c'] 25 (0, 0))] [] []) => HP.out.rd w V b H N _ _ _ h (liveL 0 D') (some ⟨gl, 0, none⟩) D' D' hl0.symm (h.lv (g := gl) (lv := (liveL 0 D')) (t := 4) (f := (0, 0)) (by simp) rfl (by omega)) l (D : Int) c l' (D' : Int) c' (kk : Int) (by omega) (by omega) (by omega) (by omega) (by omega) (by omega) (by omega)
      rw [hrd] at CR
      have CW1 := fun (V : World) (A2 : Option Addr) (c2 : Nat) (H : BH) (h : KS w V b H (N.limit lim) [(gl, Obj.cells ((liveL 0 D').map Value.bool).toArray 4 (0, 0)), (w1.heap.size, Obj.cells #[.int .i64 l, .int .i64 (D : Int), .int .i64 c] 25 (0, 0)), (w1.heap.size + 1, Obj.cells #[.int .i64 l', .int .i64 (D' : Int), .int .i64 c'] 25 (0, 0))] [(A2, (wlist (gCap l (D : Int) c) (valOf l (D : Int) c (fun t => datL zs t (roW l (D : Int)))) (fr : Int) nb))] []) => HP.out.wr w V b H (N.limit lim) _ _ _ h (liveL 0 D') (some ⟨gl, 0, none⟩) D' D' hl0.symm (h.lv (g := gl) (lv := (liveL 0 D')) (t := 4) (f := (0, 0)) (by simp) rfl (by omega)) l (D : Int) c l' (D' : Int) c' (kk : Int) (by omega) (by omega) (by omega) (by omega) (by omega) (by omega) (by omega) A2 (wlist (gCap l (D : Int) c) (valOf l (D : Int) c (fun t => datL zs t (roW l (D : Int)))) (fr : Int) nb) nb c2 hwl (by omega) (h.rx _ (List.mem_cons_self ..)) (by intro i hi; rw [ql3]; exact hI.ps i (by rw [← ql1]; exact hi)) (by rw [ql4]; omega)
      simp only [hcut] at CW1
      have CW2 := fun (V : World) (A2 : Option Addr) (c2 : Nat) (H : BH) (h : KS w V b H (M.crash ks) [(gl, Obj.cells ((liveL 0 D').map Value.bool).toArray 4 (0, 0)), (w1.heap.size, Obj.cells #[.int .i64 l, .int .i64 (D : Int), .int .i64 c] 25 (0, 0)), (w1.heap.size + 1, Obj.cells #[.int .i64 l', .int .i64 (D' : Int), .int .i64 c'] 25 (0, 0))] [(A2, (wlist (gCap l (D : Int) c) (valOf l (D : Int) c (fun t => datL zs t (roW l (D : Int)))) (fr : Int) nb))] []) => HP.out.wr w V b H (M.crash ks) _ _ _ h (liveL 0 D') (some ⟨gl, 0, none⟩) D' D' hl0.symm (h.lv (g := gl) (lv := (liveL 0 D')) (t := 4) (f := (0, 0)) (by simp) rfl (by omega)) l (D : Int) c l' (D' : Int) c' (kk : Int) (by omega) (by omega) (by omega) (by omega) (by omega) (by omega) (by omega) A2 (wlist (gCap l (D : Int) c) (valOf l (D : Int) c (fun t => datL zs t (roW l (D : Int)))) (fr : Int) nb) nb c2 hwl (by omega) (h.rx _ (List.mem_cons_self ..)) hMq (by rw [(crash_up M ks).2.2]; omega)
      simp only [hst] at CW2
      have CR := Lib.hid CR
      have CW1 := Lib.hid CW1
      have CW2 := Lib.hid CW2
      have HE := Lib.hid hE
      have HMp := Lib.hid hMp
      have HI3 := Lib.hid (show WcI N3 D' l D c l' c' (fun t => datL zs t (roW l (D : Int))) (((kk + 1 : Nat) : Int) * R) ∧ N3.done ≤ 32 * (kk + 1) + 32 from ⟨by rw [Int.natCast_add]; exact hI3, by omega⟩)
      obtain ⟨g1, g2, g3⟩ := HK.out.gat (g := w1.heap.size) (l := l) (d := (D : Int)) (c := c) (t := 25) (f := (0, 0)) (by simp)
      obtain ⟨g4, g5, g6⟩ := HK.out.gat (g := w1.heap.size + 1) (l := l') (d := (D' : Int)) (c := c') (t := 25) (f := (0, 0)) (by simp)
      clear hrd hst hcut hI hI3 hd3 hdn hE hMp hMd hMq ql1 ql2 ql3 ql4 ql5 hfr hjk hj
      go_wp2_with fail
      (with_reducible refine (CR.out _ _ HK.out).mono ?_); rintro e w7 ⟨A5, c5, rfl, k7⟩
      dsimp only at k7 ⊢
      rw [hwl]
      have K7 := Lib.hid k7
      clear g1 g2 g3 g4 g5 g6
      clear k7 CR HK
      have CLi := Lib.hid (ks_limit (K7.out.below (Below.refl _ w7).drew) lim ⟨by omega, by omega⟩)
      go_wp2_with fail
      refine wp_region_noPanic (region_ord 6 [] (fun V => Below w.heap.size w V) (by kernel_rfl) (by kernel_rfl) (fun _ _ _ _ _ h => h) fun R => ?_)
      change anyI _ _ _ _ _ _ 6 _ _ w7.drew
      have HS0 := Lib.hid (show (fun V => Below w.heap.size w V) w7.drew from (K7.out.bp.bel.trans ((Below.refl _ w7).drew.mono K7.out.bp.bel.size)))
      obtain ⟨V0, hV0⟩ : ∃ V, w7.drew = V := ⟨_, rfl⟩
      rw [hV0] at HS0 CLi ⊢
      clear hV0
      refine' anyI_take R 0 rfl (v := ?_) (by kernel_rfl) (by rfl) (fun V hV => ?hy) HS0.out ?_
      case hy => ((try dsimp only at hV);  go_simp; try with_reducible rfl)
      try simp only [Act.put, List.getElem_toArray, List.getElem_cons_succ, List.getElem_cons_zero, List.setIfInBounds_toArray, List.set_cons_zero, List.set_cons_succ]
      refine' anyI_take R 1 rfl (v := ?_) (by kernel_rfl) (by rfl) (fun V hV => ?hy) HS0.out ?_
      case hy => ((try dsimp only at hV);  go_simp; try with_reducible rfl)
      try simp only [Act.put, List.getElem_toArray, List.getElem_cons_succ, List.getElem_cons_zero, List.setIfInBounds_toArray, List.set_cons_zero, List.set_cons_succ]
      refine' anyI_take R 2 rfl (v := ?_) (by kernel_rfl) (by rfl) (fun V hV => ?hy) HS0.out ?_
      case hy => ((try dsimp only at hV);  go_simp; try with_reducible rfl)
      try simp only [Act.put, List.getElem_toArray, List.getElem_cons_succ, List.getElem_cons_zero, List.setIfInBounds_toArray, List.set_cons_zero, List.set_cons_succ]
      refine' anyI_take R 3 rfl (v := ?_) (by kernel_rfl) (by rfl) (fun V hV => ?hy) HS0.out ?_
      case hy => ((try dsimp only at hV);  go_simp; try with_reducible rfl)
      try simp only [Act.put, List.getElem_toArray, List.getElem_cons_succ, List.getElem_cons_zero, List.setIfInBounds_toArray, List.set_cons_zero, List.set_cons_succ]
      refine anyI_one 4 (by kernel_rfl) rfl ?_
      try simp only [List.getElem_toArray, List.getElem_cons_succ, List.getElem_cons_zero]
      refine opE_step ?_
      rw [if_pos (by rfl)]
      go_simp
      go_at_call 8
      (with_reducible refine (CLm.out _).mono ?_)
      rintro e wn ⟨rfl, hwn⟩
      rw [hwn]
      clear hwn
      try dsimp only
      refine ⟨HS0.out, ?_⟩
      try simp only [Act.put, List.getElem_toArray, List.getElem_cons_succ, List.getElem_cons_zero, List.setIfInBounds_toArray, List.set_cons_zero, List.set_cons_succ]
      refine anyI_one 5 (by kernel_rfl) rfl ?_
      try simp only [List.getElem_toArray, List.getElem_cons_succ, List.getElem_cons_zero]
      refine opE_step ?_
      rw [if_pos (by rfl)]
      go_simp
      go_at_call 12
      (with_reducible refine CLi.out.mono ?_)
      rintro e w8 ⟨rfl, H8, k8⟩
      have K8 := Lib.hid k8
      replace HS0 := Lib.hid (show Below w.heap.size w w8 from K8.out.bp.bel)
      clear k8
      try dsimp only
      refine ⟨HS0.out, ?_⟩
      try simp only [Act.put, List.getElem_toArray, List.getElem_cons_succ, List.getElem_cons_zero, List.setIfInBounds_toArray, List.set_cons_zero, List.set_cons_succ]
      refine anyI_tail (by kernel_rfl) ?_
      try simp only [List.drop_succ_cons, List.drop_zero]
      clear R
      go_wp2_with fail
      refine NoPanic.normal ?_
      clear HS0 CLi CLm K7
      have CW3 := Lib.hid (CW1.out _ _ c5 _ K8.out)
      obtain ⟨g1, g2, g3⟩ := K8.out.gat (g := w1.heap.size) (l := l) (d := (D : Int)) (c := c) (t := 25) (f := (0, 0)) (by simp)
      obtain ⟨g4, g5, g6⟩ := K8.out.gat (g := w1.heap.size + 1) (l := l') (d := (D' : Int)) (c := c') (t := 25) (f := (0, 0)) (by simp)
      clear CW1 K8 bl1
      go_wp2_with fail
      (with_reducible refine CW3.out.mono ?_); rintro e w9 ⟨rfl, H9, k9⟩
      dsimp only at k9 ⊢
      have K9 := Lib.hid k9
      clear g1 g2 g3 g4 g5 g6
      clear k9 CW3
      go_upto_region 18 with fail
      refine wcP _ _ _ _ _ _ _ _ _ _ _ _ _ _ _ _ _ _ _ _ _ _ _ _ _ _ _ _ _ _ _ _ _ _ _ _ _ _ _ _ _ _ _ _ _ _ _ _ _ _ _ _ _ _ _ _ _ _ _ _ _ _ _ _ _ _ _ _ _ _ _ _ _ _ _ _ _ _ _ _ _ _ _ _ _ _ _ _ _ _ _ _ _ _ _ _ _ _ _ _ _ _ _ _ _ _ _ _ _ _ _ _ _ _ _ _ _ _ _ _ _ _ _ _ _ _ _ _ _ _ _ _ _ _ _ _ _ _ _ _ _ _ _ _ _ _ _ _ _ _ _ _ _ _ _ _ _ _ _ _ _ _ _ _ _ _ _ _ _ _ _ _ _ _ _ _ _ _ _ _ _ _ _ _ _ _ _ _ _ _ _ _ _ _ _ _ _ _ _ _ _ _ _ _ _ _ _ _ _ _ _ _ _ _ _ _ _ _ _ _ _ _ K9.out.bp HE.out (fun v106 v107 v108 v109 v110 v111 v112 v113 v114 v115 v116 v117 v118 v119 => ?_)
      refine ‹∀ (a : Act) (w : World), Code.wp Tryz.prog _ _ a w → _› _ _ ?_
      have CCr := Lib.hid (ks_crash K9.out ks B ks.length ck rfl hck Hks.out HMp.out)
      clear HE K9 HMp
      go_wp2_with fail
      (with_reducible refine CCr.out.mono ?_); rintro e w10 ⟨rfl, H10, k10⟩
      have CW4 := Lib.hid (CW2.out _ _ c5 _ k10)
      obtain ⟨g1, g2, g3⟩ := k10.gat (g := w1.heap.size) (l := l) (d := (D : Int)) (c := c) (t := 25) (f := (0, 0)) (by simp)
      obtain ⟨g4, g5, g6⟩ := k10.gat (g := w1.heap.size + 1) (l := l') (d := (D' : Int)) (c := c') (t := 25) (f := (0, 0)) (by simp)
      clear k10 CCr CW2
      go_wp2_with fail
      (with_reducible refine CW4.out.mono ?_); rintro e w11 ⟨rfl, H11, k11⟩
      dsimp only at k11 ⊢
      have K11 := Lib.hid (k11.less (K' := [(gl, Obj.cells ((liveL 0 D').map Value.bool).toArray 4 (0, 0)), (w1.heap.size, Obj.cells #[.int .i64 l, .int .i64 (D : Int), .int .i64 c] 25 (0, 0)), (w1.heap.size + 1, Obj.cells #[.int .i64 l', .int .i64 (D' : Int), .int .i64 c'] 25 (0, 0))]) (R' := []) (S' := []) (fun p hp => hp) (fun p hp => by cases hp) (fun p hp => hp))
      clear g1 g2 g3 g4 g5 g6
      clear k11 CW4 hwl
      go_wp2_with fail
      go_loopw [23] (fun i V => ∃ (j : Nat) (N : Bch) (H : BH), (j : Int) ≤ Wn ∧ i = .int .i64 j ∧ KS w V b H N [(gl, Obj.cells ((liveL 0 D').map Value.bool).toArray 4 (0, 0)), (w1.heap.size, Obj.cells #[.int .i64 l, .int .i64 (D : Int), .int .i64 c] 25 (0, 0)), (w1.heap.size + 1, Obj.cells #[.int .i64 l', .int .i64 (D' : Int), .int .i64 c'] 25 (0, 0))] [] [] ∧ WcI N D' l D c l' c' (fun t => datL zs t (roW l (D : Int))) ((j : Int) * R) ∧ N.done ≤ 32 * j + 32) (fun i _ => (Wn - intOf i).toNat)
      case atStart => exact ⟨kk + 1, N3, H11, by omega, by go_num, K11.out, HI3.out⟩
      case round =>
        obtain ⟨j, N, H, hj, rfl, hk, hI, hdn⟩ := hrel
        have HK := Lib.hid hk
        clear hk K11 HI3
        obtain ⟨g1, g2, g3⟩ := HK.out.gat (g := w1.heap.size) (l := l) (d := (D : Int)) (c := c) (t := 25) (f := (0, 0)) (by simp)
        obtain ⟨g4, g5, g6⟩ := HK.out.gat (g := w1.heap.size + 1) (l := l') (d := (D' : Int)) (c := c') (t := 25) (f := (0, 0)) (by simp)
        go_wp2_with fail
        (with_reducible refine (CWn.out _).mono ?_); rintro e w4 ⟨rfl, hb4⟩
        have K5 := Lib.hid (HK.out.below hb4)
        clear g1 g2 g3 g4 g5 g6
        clear hb4 HK
        by_cases hlt : (j : Int) < Wn
        · have i0 : (0 : Int) ≤ (j : Int) := by omega
          have CSp := Lib.hid (fun V => refSpan_any l (D : Int) c l' (D' : Int) c' (j : Int) V (by omega) (by omega) (by omega) (by omega) (by omega) (by omega) (by omega))
          have hT0 : pnT l (D : Int) c l' (D' : Int) c' (j : Int) = (j : Int) * (R * wb) + R * wb := by unfold pnT; rw [if_pos (HQ.out.sok (by omega) (by omega)), HQ.out.n, Int.add_mul, Int.one_mul]
          rw [HQ.out.frm (by omega) (by omega), hT0, HNb.out] at CSp
          clear hT0
          have hrd := hI.read HQ.out hDD (by omega) (by omega) HRd.out
          obtain ⟨N2, hst, hI2, hd2⟩ := hI.step HQ.out (by omega) (by omega) HRd.out
          rw [HNb.out, show ((nb : Nat) : Int).toNat = nb from Int.toNat_natCast _] at hrd hst
          obtain ⟨fr, hfr⟩ : ∃ fr : Nat, (j : Int) * (nb : Int) = (fr : Int) := ⟨j * nb, by rw [Int.natCast_mul]⟩
          have hfb : fr ≤ 16 * 28 := by
            have h1 : j * nb ≤ 16 * 28 := Nat.mul_le_mul (by omega) (by omega)
            have h2 : ((j * nb : Nat) : Int) = (fr : Int) := by rw [Int.natCast_mul]; exact hfr
            omega
          rw [hfr] at hrd hst CSp
          obtain ⟨en, hen⟩ : ∃ en : Int, (fr : Int) + (nb : Int) = en := ⟨_, rfl⟩
          rw [hen] at CSp
          have hwn : IntKind.i64.wrap (en - (fr : Int)) = (nb : Int) := by rw [show en - (fr : Int) = (nb : Int) by omega]; exact IntWalk.i64_in _ (by omega)
          have henb : en - (fr : Int) = (nb : Int) := by omega
          have hwl := wlist_len (gCap l (D : Int) c) (valOf l (D : Int) c (fun t => datL zs t (roW l (D : Int)))) (fr : Int) nb
          have CR := fun (V : World) (H : BH) (h : KS w V b H N [(gl, Obj.cells ((liveL 0 D').map Value.bool).toArray 4 (0, 0)), (w1.heap.size, Obj.cells #[.int .i64 l, .int .i64 (D : Int), .int .i64 c] 25 (0, 0)), (w1.heap.size + 1, Obj.cells #[.int .i64 l', .int .i64 (D' : Int), .int .i64 c'] 25 (0, 0))] [] []) => HP.out.rd w V b H N _ _ _ h (liveL 0 D') (some ⟨gl, 0, none⟩) D' D' hl0.symm (h.lv (g := gl) (lv := (liveL 0 D')) (t := 4) (f := (0, 0)) (by simp) rfl (by omega)) l (D : Int) c l' (D' : Int) c' (j : Int) (by omega) (by omega) (by omega) (by omega) (by omega) (by omega) (by omega)
          rw [hrd] at CR
          have CW := fun (V : World) (A2 : Option Addr) (c2 : Nat) (H : BH) (h : KS w V b H N [(gl, Obj.cells ((liveL 0 D').map Value.bool).toArray 4 (0, 0)), (w1.heap.size, Obj.cells #[.int .i64 l, .int .i64 (D : Int), .int .i64 c] 25 (0, 0)), (w1.heap.size + 1, Obj.cells #[.int .i64 l', .int .i64 (D' : Int), .int .i64 c'] 25 (0, 0))] [(A2, (wlist (gCap l (D : Int) c) (valOf l (D : Int) c (fun t => datL zs t (roW l (D : Int)))) (fr : Int) nb))] []) => HP.out.wr w V b H N _ _ _ h (liveL 0 D') (some ⟨gl, 0, none⟩) D' D' hl0.symm (h.lv (g := gl) (lv := (liveL 0 D')) (t := 4) (f := (0, 0)) (by simp) rfl (by omega)) l (D : Int) c l' (D' : Int) c' (j : Int) (by omega) (by omega) (by omega) (by omega) (by omega) (by omega) (by omega) A2 (wlist (gCap l (D : Int) c) (valOf l (D : Int) c (fun t => datL zs t (roW l (D : Int)))) (fr : Int) nb) nb c2 hwl (by omega) (h.rx _ (List.mem_cons_self ..)) hI.ps (by omega)
          simp only [hst] at CW
          have CR := Lib.hid CR
          have CW := Lib.hid CW
          have HI2 := Lib.hid hI2
          have HD2 := Lib.hid (show N2.done ≤ N.done + 32 from hd2)
          obtain ⟨g1, g2, g3⟩ := K5.out.gat (g := w1.heap.size) (l := l) (d := (D : Int)) (c := c) (t := 25) (f := (0, 0)) (by simp)
          obtain ⟨g4, g5, g6⟩ := K5.out.gat (g := w1.heap.size + 1) (l := l') (d := (D' : Int)) (c := c') (t := 25) (f := (0, 0)) (by simp)
          clear hI2 hd2 hrd hst hI hfr hen
          go_wp2_with fail
          (with_reducible refine (CR.out _ _ K5.out).mono ?_); rintro e w5 ⟨A5, c5, rfl, k6⟩
          dsimp only at k6 ⊢
          rw [hwl]
          have K6 := Lib.hid k6
          clear g1 g2 g3 g4 g5 g6
          clear k6 K5 CR
          obtain ⟨g1, g2, g3⟩ := K6.out.gat (g := w1.heap.size) (l := l) (d := (D : Int)) (c := c) (t := 25) (f := (0, 0)) (by simp)
          obtain ⟨g4, g5, g6⟩ := K6.out.gat (g := w1.heap.size + 1) (l := l') (d := (D' : Int)) (c := c') (t := 25) (f := (0, 0)) (by simp)
          go_wp2_with fail
          (with_reducible refine (CSp.out _).mono ?_); rintro e w6 ⟨rfl, hb6⟩
          have K7 := Lib.hid (K6.out.below hb6)
          clear g1 g2 g3 g4 g5 g6
          clear hb6 K6 CSp
          obtain ⟨g1, g2, g3⟩ := K7.out.gat (g := w1.heap.size) (l := l) (d := (D : Int)) (c := c) (t := 25) (f := (0, 0)) (by simp)
          obtain ⟨g4, g5, g6⟩ := K7.out.gat (g := w1.heap.size + 1) (l := l') (d := (D' : Int)) (c := c') (t := 25) (f := (0, 0)) (by simp)
          go_upto_block 4 with fail
          refine wp_block ?_
          refine wcI _ _ _ _ _ _ _ _ _ _ _ _ _ _ _ _ _ _ _ _ _ _ _ _ _ _ _ _ _ _ _ _ _ _ _ _ _ _ _ _ _ _ _ _ _ _ _ _ _ _ _ _ _ _ _ _ _ _ _ _ _ _ _ _ _ _ _ _ _ _ _ _ _ _ _ _ _ _ _ _ _ _ _ _ _ _ _ _ _ _ _ _ _ _ _ _ _ _ _ _ _ _ _ _ _ _ _ _ _ _ _ _ _ _ _ _ _ _ _ _ _ _ _ _ _ _ _ _ _ _ _ _ _ _ _ _ _ _ _ _ _ _ _ _ _ _ _ _ _ _ _ _ _ _ _ _ _ _ _ _ _ _ _ _ _ _ _ _ _ _ _ _ _ _ _ _ _ _ _ _ _ _ _ _ _ _ _ _ _ _ _ _ _ _ _ _ _ _ _ _ _ _ _ _ _ _ _ _ _ _ _ _ _ _ _ _ _ hg1 hcl HZ.out (by simp) (by omega) (by omega) (List.mem_cons_self ..) ⟨Nat.zero_le _, K7.out⟩ (fun v12 v28 v29 v30 v31 v32 v33 v34 v170 v171 v172 v173 v174 v175 v176 v177 v178 v179 v180 v181 v182 v183 v184 v185 v186 v187 v188 v189 v190 v191 v192 v193 v194 v195 v196 v197 v198 v199 v200 v201 v202 v203 v204 v205 v206 v207 v208 v209 v210 v211 v212 ix V8 hI8 hx8 => ?_)
          have CW8 := Lib.hid (CW.out _ _ c5 _ hI8.2)
          have K8 := Lib.hid hI8.2
          clear g1 g2 g3 g4 g5 g6
          clear hI8 hx8 K7 CW hwl
          obtain ⟨g1, g2, g3⟩ := K8.out.gat (g := w1.heap.size) (l := l) (d := (D : Int)) (c := c) (t := 25) (f := (0, 0)) (by simp)
          obtain ⟨g4, g5, g6⟩ := K8.out.gat (g := w1.heap.size + 1) (l := l') (d := (D' : Int)) (c := c') (t := 25) (f := (0, 0)) (by simp)
          go_wp2_with fail
          (with_reducible refine CW8.out.mono ?_); rintro e w9 ⟨rfl, H9, k9⟩
          dsimp only at k9 ⊢
          have K9 := Lib.hid (k9.less (K' := [(gl, Obj.cells ((liveL 0 D').map Value.bool).toArray 4 (0, 0)), (w1.heap.size, Obj.cells #[.int .i64 l, .int .i64 (D : Int), .int .i64 c] 25 (0, 0)), (w1.heap.size + 1, Obj.cells #[.int .i64 l', .int .i64 (D' : Int), .int .i64 c'] 25 (0, 0))]) (R' := []) (S' := []) (fun p hp => hp) (fun p hp => by cases hp) (fun p hp => hp))
          clear g1 g2 g3 g4 g5 g6
          clear k9 CW8 K8
          go_wp2_with fail
          go_roundw
          case rel => exact ⟨j + 1, N2, H9, by omega, by go_num, K9.out, by rw [Int.natCast_add]; exact HI2.out, by have := HD2.out; omega⟩
          case measure => simp [intOf]; omega
        · go_wp2_with fail
          (with_reducible refine (winWakes_any HP.out _).mono ?_); rintro e w10 ⟨rfl, h10⟩
          have K10 := K5.out.below h10
          go_wp2_with fail
          go_ret
          exact ⟨rfl, K10.bp.bel⟩
end Go.Proofs.YtldfoadildaljaaGreat
end
