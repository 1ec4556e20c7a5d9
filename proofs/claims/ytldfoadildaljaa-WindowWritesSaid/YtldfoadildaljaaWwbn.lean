/- Texts put together: WindowWritesLaw. -/
import Derived.Test.YtldfoadildaljaaWwbm
import Derived.Test.YtldfoadildaljaaWwao
import Derived.Test.YtldfoadildaljaaWwbj
import Derived.Test.YtldfoadildaljaaWwak
import Derived.Test.YtldfoadildaljaaWwbk
import Derived.Test.YtldfoadildaljaaWwah
import Derived.Test.YtldfoadildaljaaWwbl
import Derived.Test.YtldfoadildaljaaWwam
import Derived.Test.YtldfoadildaljaaWwbc
import Derived.Test.YtldfoadildaljaaWwas
section
set_option linter.unusedVariables false
set_option linter.unusedSimpArgs false
namespace Go.Proofs.Ytldfoadildaljaa
open Go.RowKit

set_option maxRecDepth 100000 in
set_option maxHeartbeats 8000000 in
theorem windowwrites (P : WinP) (m n kz : Int) (A : Option Addr) (zs : List Int) (cl : Nat) (lz : Int) (w : World) (hm : (-9223372036854775808 ≤ m ∧ m ≤ 9223372036854775807)) (hn : (-9223372036854775808 ≤ n ∧ n ≤ 9223372036854775807)) (hkz : (-9223372036854775808 ≤ kz ∧ kz ≤ 9223372036854775807)) (_ : zs.length ≤ cl) (hz : RdZ w w.heap.size A zs) (hlz : (-9223372036854775808 ≤ lz ∧ lz ≤ 9223372036854775807)) :
    Calls Try.prog 5 #[.int .i64 m, .int .i64 n, .int .i64 kz, .slice A zs.length cl, .int .i64 lz] w fun e w' => e = .returned (.bool true) ∧ Below w.heap.size w w' := by
  have hpn := ptr_eq
  have CP := Lib.hid (fun V => playPair_can m n V hm hn)
  have HP := Lib.hid P
  go_enter Try.func5, Try.ntmps5
  go_wp2_with fail
  (with_reducible refine (CP.out _).mono ?_); rintro e w1 ⟨l, dd, c, l', d', c', rfl, hc, hb⟩
  obtain ⟨hg1, hg2, _, hdd, hll, _⟩ := gCan_parts hc
  have hb1 := gOk_bd hg1
  have hb2 := gOk_bd hg2
  obtain ⟨D, rfl⟩ := Int.eq_ofNat_of_zero_le (show 0 ≤ dd by omega)
  obtain ⟨D', rfl⟩ := Int.eq_ofNat_of_zero_le (show 0 ≤ d' by omega)
  have hDD : D ≤ D' := by omega
  obtain ⟨R, Wn, wa, wb, Pq⟩ := pn_of hc
  have HQ := Lib.hid Pq
  have hrw := Pq.rows
  have hnb := Pq.n_bd
  have B2 := below2 w1 (.cells #[.int .i64 l, .int .i64 (D : Int), .int .i64 c] 23) (.cells #[.int .i64 l', .int .i64 (D' : Int), .int .i64 c'] 23)
  have CN := Lib.hid (bp_new D' _ _ (Below.refl _ ((w1.alloc (.cells #[.int .i64 l, .int .i64 (D : Int), .int .i64 c] 23)).alloc (.cells #[.int .i64 l', .int .i64 (D' : Int), .int .i64 c'] 23))) (by omega))
  have HB := Lib.hid (hb.trans (B2.mono hb.size))
  have O1 := Lib.hid (show ((w1.alloc (.cells #[.int .i64 l, .int .i64 (D : Int), .int .i64 c] 23)).alloc (.cells #[.int .i64 l', .int .i64 (D' : Int), .int .i64 c'] 23)).heap[w1.heap.size]? = some (Obj.cells #[.int .i64 l, .int .i64 (D : Int), .int .i64 c] 23 (0, 0)) from (hp_old _ _ _ (by simp)).trans (hp_new _ _ _ rfl))
  have O2 := Lib.hid (show ((w1.alloc (.cells #[.int .i64 l, .int .i64 (D : Int), .int .i64 c] 23)).alloc (.cells #[.int .i64 l', .int .i64 (D' : Int), .int .i64 c'] 23)).heap[w1.heap.size + 1]? = some (Obj.cells #[.int .i64 l', .int .i64 (D' : Int), .int .i64 c'] 23 (0, 0)) from hp_new _ _ _ (by simp))
  have hw1 := hb.size
  clear CP hc B2 hb Pq P
  go_wp2_with fail
  refine CN.out.mono ?_
  rintro e w2 ⟨b, H, rfl, hp, _, _⟩
  unfold ptr
  have k0 := (KX.ks ⟨hp, fun p hp => absurd hp (by simp)⟩ : KS _ w2 b H (Bch.new D') [] [] []).open2 HB.out O1.out O2.out hw1 (by omega)
  obtain ⟨g1, g2, g3⟩ := k0.gat (g := w1.heap.size) (l := l) (d := (D : Int)) (c := c) (t := 23) (f := (0, 0)) (by simp)
  obtain ⟨g4, g5, g6⟩ := k0.gat (g := w1.heap.size + 1) (l := l') (d := (D' : Int)) (c := c') (t := 23) (f := (0, 0)) (by simp)
  have CL := Lib.hid (ks_live k0 0 D' (by omega) (by omega))
  clear hp k0 O1 O2 CN HB
  go_wp2_with fail
  (with_reducible refine CL.out.mono ?_); rintro e w3 ⟨gl, rfl, k1⟩
  have K1 := Lib.hid k1
  clear g1 g2 g3 g4 g5 g6
  clear CL k1
  have hl0 : (liveL 0 D').length = D' := liveL_len _ _
  have bd1 := withinI_bd lz (2 * (D' : Int)) (by omega)
  have CD := Lib.hid (fun V => within_any lz (2 * (D' : Int)) V hlz (by omega))
  obtain ⟨d1, hd1⟩ := Int.eq_ofNat_of_zero_le bd1.1
  rw [hd1] at CD bd1
  clear hd1
  obtain ⟨g1, g2, g3⟩ := K1.out.gat (g := w1.heap.size) (l := l) (d := (D : Int)) (c := c) (t := 23) (f := (0, 0)) (by simp)
  obtain ⟨g4, g5, g6⟩ := K1.out.gat (g := w1.heap.size + 1) (l := l') (d := (D' : Int)) (c := c') (t := 23) (f := (0, 0)) (by simp)
  have hwm : IntKind.i64.wrap (2 * (D' : Int)) = 2 * (D' : Int) := IntWalk.i64_in _ (by omega)
  go_wp2_with fail
  (with_reducible refine (CD.out _).mono ?_); rintro e w4 ⟨rfl, h4⟩
  obtain rfl : w3 = w4 := h4.symm
  clear h4 CD
  have K1x := K1
  clear K1
  have K1 := Lib.hid K1x.out
  clear K1x
  have HNE := Lib.hid (show ∀ r ∈ [(w1.heap.size, Obj.cells #[.int .i64 l, .int .i64 (D : Int), .int .i64 c] 23 (0, 0)), (w1.heap.size + 1, Obj.cells #[.int .i64 l', .int .i64 (D' : Int), .int .i64 c'] 23 (0, 0))], r.1 ≠ gl from fun r hr e => by
    have hblk := (K1.out.kx.kp (gl, Obj.cells ((liveL 0 D').map Value.bool).toArray 4 (0, 0)) (by simp)).1
    have hr2 := (K1.out.kx.kp r (List.mem_cons_of_mem _ hr)).1
    dsimp only at hblk
    rw [e, hblk] at hr2
    simp only [List.mem_cons, List.not_mem_nil, or_false] at hr
    injection hr2 with hr2
    rcases hr with rfl | rfl <;> (injection hr2 with _ h2 _; exact absurd h2 (by decide)))
  go_upto_if 59 with fail
  go_cut [60, 61, 62] (fun _ _ _ V => ∃ lv : List Bool, lv.length = D' ∧ KS w V b H (Bch.new D') [(gl, Obj.cells (lv.map Value.bool).toArray 4 (0, 0)), (w1.heap.size, Obj.cells #[.int .i64 l, .int .i64 (D : Int), .int .i64 c] 23 (0, 0)), (w1.heap.size + 1, Obj.cells #[.int .i64 l', .int .i64 (D' : Int), .int .i64 c'] 23 (0, 0))] [] [])
  case first =>
    by_cases hd : d1 < D'
    · have i0 : (0 : Int) ≤ (d1 : Int) := by omega
      have i1 : (d1 : Int) < (D' : Int) := by omega
      have hblk := (K1.out.kx.kp (gl, Obj.cells ((liveL 0 D').map Value.bool).toArray 4 (0, 0)) (by simp)).1
      dsimp only at hblk
      obtain ⟨hc0, hf0, hb0, gg0⟩ := lv_setCell hblk (d := d1) (by rw [hl0]; omega) false
      have K2 := Lib.hid (K1.out.putB gg0 hb0 HNE.out)
      go_wp2_with fail
      go_meet
      exact ⟨_, by rw [List.length_set]; exact hl0, K2.out⟩
    · have i1 : ¬ (d1 : Int) < (D' : Int) := by omega
      go_wp2_with fail
      go_meet
      exact ⟨_, hl0, K1.out⟩
  case rest =>
    obtain ⟨lv, hlv, k2⟩ := hcut
    have K2 := Lib.hid k2
    clear K1 k2 HNE
    obtain ⟨nb, hnbq⟩ : ∃ nb : Nat, R * wb = (nb : Int) := ⟨(R * wb).toNat, by omega⟩
    have HNb := Lib.hid hnbq
    have CWn := Lib.hid (fun V => refWindows_any l (D : Int) c l' (D' : Int) c' V (by omega) (by omega) (by omega) (by omega) (by omega) (by omega))
    rw [HQ.out.eK] at CWn
    have bk1 := withinI_bd kz Wn (by omega)
    have CK := Lib.hid (fun V => within_any kz Wn V hkz (by omega))
    obtain ⟨kk, hkk⟩ := Int.eq_ofNat_of_zero_le bk1.1
    rw [hkk] at CK bk1
    clear hkk
    have CSp := Lib.hid (fun V => refSpan_any l (D : Int) c l' (D' : Int) c' (kk : Int) V (by omega) (by omega) (by omega) (by omega) (by omega) (by omega) (by omega))
    have hT0 : pnT l (D : Int) c l' (D' : Int) c' (kk : Int) = (kk : Int) * (R * wb) + R * wb := by unfold pnT; rw [if_pos (HQ.out.sok (by omega) (by omega)), HQ.out.n, Int.add_mul, Int.one_mul]
    rw [HQ.out.frm (by omega) (by omega), hT0, hnbq] at CSp
    obtain ⟨fr, hfr⟩ : ∃ fr : Nat, (kk : Int) * (nb : Int) = (fr : Int) := ⟨kk * nb, by rw [Int.natCast_mul]⟩
    have hfb : fr ≤ 16 * 28 := by
      have h1 : kk * nb ≤ 16 * 28 := Nat.mul_le_mul (by omega) (by omega)
      have h2 : ((kk * nb : Nat) : Int) = (fr : Int) := by rw [Int.natCast_mul]; exact hfr
      omega
    rw [hfr] at CSp
    obtain ⟨en, hen⟩ : ∃ en : Int, (fr : Int) + (nb : Int) = en := ⟨_, rfl⟩
    rw [hen] at CSp
    have HFr := Lib.hid hfr
    have hwn : IntKind.i64.wrap (en - (fr : Int)) = (nb : Int) := by rw [show en - (fr : Int) = (nb : Int) by omega]; exact IntWalk.i64_in _ (by omega)
    rw [hnbq] at hnb
    clear hT0 hnbq hfr
    obtain ⟨g1, g2, g3⟩ := K2.out.gat (g := w1.heap.size) (l := l) (d := (D : Int)) (c := c) (t := 23) (f := (0, 0)) (by simp)
    obtain ⟨g4, g5, g6⟩ := K2.out.gat (g := w1.heap.size + 1) (l := l') (d := (D' : Int)) (c := c') (t := 23) (f := (0, 0)) (by simp)
    go_wp2_with fail
    (with_reducible refine (CWn.out _).mono ?_); rintro e w4 ⟨rfl, hb4⟩
    have K3 := Lib.hid (K2.out.below hb4)
    clear g1 g2 g3 g4 g5 g6
    clear hb4 K2 CWn
    obtain ⟨g1, g2, g3⟩ := K3.out.gat (g := w1.heap.size) (l := l) (d := (D : Int)) (c := c) (t := 23) (f := (0, 0)) (by simp)
    obtain ⟨g4, g5, g6⟩ := K3.out.gat (g := w1.heap.size + 1) (l := l') (d := (D' : Int)) (c := c') (t := 23) (f := (0, 0)) (by simp)
    go_wp2_with fail
    (with_reducible refine (CK.out _).mono ?_); rintro e w5 ⟨rfl, h5⟩
    obtain rfl : w4 = w5 := h5.symm
    clear h5 CK
    go_wp2_with fail
    (with_reducible refine (CSp.out _).mono ?_); rintro e w5 ⟨rfl, hb5⟩
    have K4 := Lib.hid (K3.out.below hb5)
    have CS := Lib.hid (sectorsQ_any A zs zs.length cl nb w5 rfl (K4.out.rdz hz) (by omega))
    clear g1 g2 g3 g4 g5 g6
    clear hb5 K3 CSp
    go_wp2_with fail
    (with_reducible refine CS.out.mono ?_); rintro e w6 ⟨v, rfl, xs, ⟨hr1, hr2⟩, hq, hb6⟩
    obtain ⟨g, cap, rfl, rq, hx⟩ := secs_rq (sectorsB_len zs nb) hr1 hr2 hq (by omega)
    have HB6 := Lib.hid hb6
    have Hx := Lib.hid hx
    have RQ := Lib.hid rq
    have H32 := Lib.hid (sectorsB_mem (zs := zs) (n := nb))
    generalize sectorsB zs nb = ds0 at RQ H32
    clear hr1 hr2 hq hb6 rq hx CS hz
    go_wp2_with fail
    go_loopw [20, 82] (fun _ i wr => ∃ (j : Nat) (ds : List (List UInt8)), j ≤ nb ∧ i = .int .i64 j ∧ Below w5.heap.size w5 wr ∧ Rq w5.heap.size wr g cap nb xs ds ∧ (∀ y ∈ ds, y.length = 32) ∧ (∀ k, k < j → (ds.getD k []).getD 0 0 ≠ 0)) (fun _ i _ => nb - (intOf i).toNat)
    case atStart => exact ⟨0, ds0, by omega, rfl, HB6.out, RQ.out, H32.out, fun k hk => by omega⟩
    case round =>
      obtain ⟨j, ds, hj, rfl, hb, hq, h32, hodd⟩ := hrel
      clear RQ H32 HB6
      by_cases hlt : j < nb
      · have i0 : (0 : Int) ≤ (j : Int) := by omega
        have i1 : (j : Int) < (nb : Int) := by omega
        obtain ⟨q, hxj⟩ := Hx.out j hlt
        have hjl : j < ds.length := by rw [hq.nn]; exact hlt
        have hyl : (ds.getD j []).length = 32 := h32 _ (by rw [List.getD_eq_getElem?_getD, List.getElem?_eq_getElem hjl]; exact List.getElem_mem _)
        have hc1 : wr.cell? ⟨g, j, none⟩ = some (.slice (some ⟨q, 0, none⟩) 32 32) := by rw [hq.row.cellAt j (by omega)]; exact hxj
        obtain ⟨hc2, hf2⟩ := (hq.own j _ hxj).cell hyl 0 (by omega)
        have HQj := Lib.hid hq
        have HBj := Lib.hid hb
        have HO := Lib.hid hodd
        have HL := Lib.hid h32
        clear hq hb hodd h32
        generalize hx0 : (ds.getD j []).getD 0 0 = x0 at hc2
        go_wp2_with fail
        have hor : bits .or .u8 (x0.toNat : Int) 1 = (((x0 ||| 1).toNat : Nat) : Int) := or_u8W x0 1
        obtain ⟨rq', gr'⟩ := HQj.out.put j hlt hxj hyl 0 (x0 ||| 1)
        rw [← hor] at rq' gr'
        have hbb := HBj.out
        go_roundw
        case rel =>
          refine ⟨j + 1, ds.set j ((ds.getD j []).set 0 (x0 ||| 1)), by omega, by go_num, hbb.grown gr' hbb.size (fun p hp => by injection hp with hp; rw [← hp]; exact ((HQj.out.own j _ hxj).lt q rfl).1), rq', fun y hy => ?_, fun i hi => ?_⟩
          · rcases List.mem_or_eq_of_mem_set hy with hy | rfl
            · exact HL.out y hy
            · rw [List.length_set]; exact hyl
          · rw [rq_set_get hjl]
            by_cases e : j = i
            · rw [if_pos e, List.getD_eq_getElem?_getD, List.getElem?_set_self (by omega)]
              exact or_one_ne x0
            · rw [if_neg e]; exact HO.out i (by omega)
        case measure => simp [intOf]; omega
      · obtain rfl : j = nb := by omega
        have k5 := K4.out.owv hb (show OwV w5.heap.size wr (.slice (some ⟨g, 0, none⟩) j cap) ds from ⟨xs, by rw [hq.nn]; exact hq.row, hq.rowsY⟩) (by rw [hq.nn]; omega)
        obtain ⟨A0, c0, e0, k5⟩ := k5
        rw [hq.nn] at e0
        injection e0 with e1 _ e2
        subst e1 e2
        have hn := hq.nn
        obtain ⟨z1, z2⟩ := HQ.out.wwr (lv := lv) (Wg.new D') (k := (kk : Int)) (by omega) (by omega) (ds := ds) (by rw [hn, HNb.out]) h32
        have C17 := Lib.hid (HP.out.wr w wr b _ _ _ _ _ k5 lv (some ⟨gl, 0, none⟩) D' D' hlv.symm (k5.lv (g := gl) (lv := lv) (t := 4) (f := (0, 0)) (by simp) rfl (by omega)) l (D : Int) c l' (D' : Int) c' (kk : Int) (by omega) (by omega) (by omega) (by omega) (by omega) (by omega) (by omega) (some ⟨g, 0, none⟩) ds j cap hn (by omega) (k5.rx _ (List.mem_cons_self ..)) (fun i _ => Nat.zero_le _) (Nat.zero_le _))
        rw [z1] at C17
        generalize (wwrS (Bch.new D') lv l (D : Int) c l' (D' : Int) c' (kk : Int) ds).2 = M at C17 z2
        have Wz := Lib.hid z2
        have HH := Lib.hid h32
        have HO := Lib.hid hodd
        have Hn := Lib.hid hn
        obtain ⟨g1, g2, g3⟩ := k5.gat (g := w1.heap.size) (l := l) (d := (D : Int)) (c := c) (t := 23) (f := (0, 0)) (by simp)
        obtain ⟨g4, g5, g6⟩ := k5.gat (g := w1.heap.size + 1) (l := l') (d := (D' : Int)) (c := c') (t := 23) (f := (0, 0)) (by simp)
        clear k5 z1 z2 hq hb h32 hodd hn K4
        go_wp2_with fail
        (with_reducible refine C17.out.mono ?_); rintro e w7 ⟨rfl, H7, k7⟩
        have k8 := k7.less (R' := []) (S' := []) (fun p hp => hp) (fun p hp => by cases hp) (fun p hp => hp)
        have K8 := Lib.hid k8
        clear g1 g2 g3 g4 g5 g6
        have CP2 := Lib.hid (bp_pending_eq _ _ _ _ _ K8.out.bp (fun i hi => by rw [Wz.out.wg.ps i (by rw [Wz.out.wg.n] at hi; exact hi)]; exact Nat.zero_le _))
        rw [pend_zero (fun i hi => Wz.out.wg.ps i (by rw [Wz.out.wg.n] at hi; exact hi))] at CP2
        clear C17 k7 k8
        go_wp2_with fail
        (with_reducible refine CP2.out.mono ?_); rintro e w8 ⟨rfl, h8⟩
        obtain rfl : w7 = w8 := h8.symm
        clear h8 CP2
        have CRw := Lib.hid (fun V => refRows_any l (D : Int) c l' (D' : Int) c' V (by omega) (by omega) (by omega) (by omega) (by omega) (by omega))
        rw [HQ.out.eR] at CRw
        obtain ⟨g1, g2, g3⟩ := K8.out.gat (g := w1.heap.size) (l := l) (d := (D : Int)) (c := c) (t := 23) (f := (0, 0)) (by simp)
        obtain ⟨g4, g5, g6⟩ := K8.out.gat (g := w1.heap.size + 1) (l := l') (d := (D' : Int)) (c := c') (t := 23) (f := (0, 0)) (by simp)
        go_wp2_with fail
        (with_reducible refine (CRw.out _).mono ?_); rintro e w9 ⟨rfl, hb9⟩
        have K9 := Lib.hid (K8.out.below hb9)
        clear g1 g2 g3 g4 g5 g6
        clear hb9 K8 CRw
        obtain ⟨r0, hr0⟩ : ∃ r0 : Nat, (kk : Int) * R = (r0 : Int) := ⟨((kk : Int) * R).toNat, by have := Int.mul_nonneg (show (0 : Int) ≤ (kk : Int) by omega) (show (0 : Int) ≤ R by omega); omega⟩
        obtain ⟨Rn, rfl⟩ : ∃ Rn : Nat, R = (Rn : Int) := ⟨R.toNat, by omega⟩
        have hk1 : ((kk : Int) + 1) * (Rn : Int) = (r0 : Int) + (Rn : Int) := by rw [Int.add_mul, Int.one_mul, hr0]
        have hk16 : (r0 : Int) + (Rn : Int) ≤ 16 := by
          have h1 : ((kk : Int) + 1) * (Rn : Int) ≤ Wn * (Rn : Int) := Int.mul_le_mul_of_nonneg_right (by omega) (by omega)
          have h2 : Wn * (Rn : Int) = (Rn : Int) * Wn := Int.mul_comm _ _
          omega
        have Wy := Wz.out
        rw [show ((D' : Int)).toNat = D' by omega, hr0, show ((r0 : Int)).toNat = r0 by omega, show ((Rn : Int)).toNat = Rn by omega] at Wy
        have HWT := Lib.hid (show ∀ d, d < D' → WwT M lv l' D' c' r0 Rn d from fun d hd a ha => by
          obtain ⟨t0, t1, t2⟩ := Wy.told hd ha
          refine ⟨t0, fun h => ?_, fun h => ?_⟩
          · refine t2 fun ⟨q1, q2, q3⟩ => ?_
            unfold mineW at h
            rw [q3, decide_eq_true q1, decide_eq_true q2] at h
            cases h
          · unfold mineW at h
            rw [Bool.and_eq_true, Bool.and_eq_true] at h
            obtain ⟨⟨q3, q1⟩, q2⟩ := h
            have q1 := of_decide_eq_true q1
            have q2 := of_decide_eq_true q2
            have hxe := t1 ⟨q1, q2, q3⟩
            obtain ⟨t, rfl⟩ : ∃ t : Nat, a = 36 + t := ⟨a - 36, by omega⟩
            obtain ⟨m1, m2⟩ := HQ.out.mine (k := (kk : Int)) (ds := ds) (by rw [Hn.out, HNb.out]) HH.out (t := t) (i := d) (by omega) (by rw [hr0]; omega) (by rw [hk1]; omega) hd
            rw [show 36 + t - 36 = t by omega] at hxe
            rw [show ((36 + t : Nat) : Int) - 36 = (t : Int) by omega, hxe]
            refine ⟨m1, fun h0 => ?_⟩
            obtain ⟨j', hj', e⟩ := m2 h0
            have hj2 : j' < j := by rw [← Hn.out]; exact hj'
            rw [e]
            exact ⟨odd_ne (HO.out j' hj2), HH.out _ (by rw [List.getD_eq_getElem?_getD, List.getElem?_eq_getElem hj']; exact List.getElem_mem _)⟩)
        clear Wy Wz hk1
        go_wp2_with fail
        go_loopw [22] (fun s V => ∃ d : Nat, d ≤ D' ∧ s = .int .i64 d ∧ KS w V b H7 M [(gl, Obj.cells (lv.map Value.bool).toArray 4 (0, 0)), (w1.heap.size, Obj.cells #[.int .i64 l, .int .i64 (D : Int), .int .i64 c] 23 (0, 0)), (w1.heap.size + 1, Obj.cells #[.int .i64 l', .int .i64 (D' : Int), .int .i64 c'] 23 (0, 0))] [] []) (fun s _ => D' - (intOf s).toNat)
        case atStart => exact ⟨0, by omega, rfl, K9.out⟩
        case round =>
          obtain ⟨d, hdD, rfl, hk⟩ := hrel
          clear K9
          have KD := Lib.hid hk
          obtain ⟨g1, g2, g3⟩ := KD.out.gat (g := w1.heap.size) (l := l) (d := (D : Int)) (c := c) (t := 23) (f := (0, 0)) (by simp)
          obtain ⟨g4, g5, g6⟩ := KD.out.gat (g := w1.heap.size + 1) (l := l') (d := (D' : Int)) (c := c') (t := 23) (f := (0, 0)) (by simp)
          clear hk
          by_cases hd : d < D'
          · have i0 : (0 : Int) ≤ (d : Int) := by omega
            have i1 : (d : Int) < (D' : Int) := by omega
            go_upto_block 4 with fail
            clear g1 g2 g3 g4 g5 g6
            refine wp_block ?_
            refine wwA _ _ _ _ _ _ _ _ _ _ _ _ _ _ _ _ _ _ _ _ _ _ _ _ _ _ _ _ _ _ _ _ _ _ _ _ _ _ _ _ _ _ _ _ _ _ _ _ _ _ _ _ _ _ _ _ _ _ _ _ _ _ _ _ _ _ _ _ _ _ _ _ _ _ _ _ _ _ _ _ _ _ _ _ _ _ _ _ _ _ _ _ _ _ _ _ _ _ _ _ _ _ _ _ _ _ _ _ _ _ _ _ _ _ _ _ _ _ _ _ _ _ _ _ _ _ _ _ _ _ _ _ _ _ _ _ _ _ _ _ _ _ _ _ _ _ _ _ _ _ _ _ _ _ _ _ _ _ _ _ _ _ _ _ _ _ _ _ _ _ _ _ _ _ (KL := [(gl, Obj.cells (lv.map Value.bool).toArray 4 (0, 0)), (w1.heap.size, Obj.cells #[.int .i64 l, .int .i64 (D : Int), .int .i64 c] 23 (0, 0)), (w1.heap.size + 1, Obj.cells #[.int .i64 l', .int .i64 (D' : Int), .int .i64 c'] 23 (0, 0))]) (by simp) (by simp) hlv hd hr0 (by omega) (by omega) (by omega) ⟨by omega, by omega⟩ (HWT.out d hd) ⟨Nat.zero_le _, KD.out⟩ (fun v10 v24 v25 v26 v27 v28 v29 v116 v117 v118 v119 v120 v121 v122 v123 v124 v125 v126 v127 v128 v129 v130 v131 v132 v133 v134 v135 v136 v137 v138 v139 v140 v141 v142 v143 v144 v145 v146 v147 v148 v149 v150 v151 v152 v153 v154 v155 v156 v157 v158 v159 v160 v161 v162 v163 v164 v165 v166 v167 v168 v169 v170 v171 v172 v173 v174 v175 v176 v177 v178 ax V1 hI hx => ?_)
            have KE := Lib.hid hI.2
            clear hI hx KD
            go_wp2_with fail
            go_roundw
            case rel => exact ⟨d + 1, by omega, by go_num, KE.out⟩
            case measure => simp [intOf]; omega
          · have i1 : ¬ (d : Int) < (D' : Int) := by omega
            go_wp2_with fail
            (with_reducible refine (winWakes_any HP.out _).mono ?_); rintro e w10 ⟨rfl, h10⟩
            have K10 := KD.out.below h10
            go_wp2_with fail
            go_ret
            exact ⟨rfl, K10.bp.bel⟩
end Go.Proofs.Ytldfoadildaljaa
end
