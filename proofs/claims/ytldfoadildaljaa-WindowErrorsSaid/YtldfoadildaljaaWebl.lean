/- Texts put together: WinKit, WindowErrorsLaw. -/
import Derived.Test.YtldfoadildaljaaWebi
import Derived.Test.YtldfoadildaljaaWebf
import Derived.Test.YtldfoadildaljaaWebk
import Derived.Test.YtldfoadildaljaaWeak
import Derived.Test.YtldfoadildaljaaWebj
import Derived.Test.YtldfoadildaljaaWeah
section
set_option maxRecDepth 20000
set_option linter.unusedVariables false
set_option linter.unusedSimpArgs false
namespace Go.Proofs.Ytldfoadildaljaa
open Go.RowKit

theorem RdZ.nil0 (w : World) : RdZ w w.heap.size none [] := ⟨by simp, fun _ h => by simp at h, fun h => by simp at h⟩
section
variable {N : Bch} {lv : List Bool} {l d c l' d' c' k r r0 fr : Int} {rs ds : List (List UInt8)}
theorem swrS_done : (swrS N lv l d c r rs).2.done ≤ N.done + roD d := by
  unfold swrS; split
  · exact Nat.le_add_right _ _
  · exact swTo_done _
theorem wwrTo_done : ∀ j, (wwrTo N lv l' d' c' r0 fr ds j).2.done ≤ N.done + j * roD d'
  | 0 => by rw [Nat.zero_mul]; exact Nat.le_refl _
  | j + 1 => by
    have ih := wwrTo_done j
    have e : (j + 1) * roD d' = j * roD d' + roD d' := Nat.succ_mul _ _
    rw [wwrTo]
    split
    · omega
    · have := swrS_done (N := (wwrTo N lv l' d' c' r0 fr ds j).2) (lv := lv) (l := l') (d := d') (c := c') (r := r0 + (j : Int)) (rs := wrow l' d' c' (r0 + (j : Int)) fr ds); omega
theorem sflS_done : (sflS N lv).2.done = N.done := onTo_any (fun M => M.done = N.done) rfl (fun M i h => (show (M.flush _).done = M.done by unfold Bch.flush; split <;> rfl).trans h) _
theorem wwrS_done : (wwrS N lv l d c l' d' c' k ds).2.done ≤ N.done + (pnR l d c l' d' c').toNat * roD d' := by
  unfold wwrS
  split
  · exact Nat.le_add_right _ _
  · split
    · exact wwrTo_done _
    · rw [sflS_done]; exact wwrTo_done _
end
theorem Wg.new (m : Nat) : Wg (Bch.new m) m := ⟨rfl, rfl, rfl, fun _ _ => Dsk.new_ok, fun _ _ => rfl⟩
section
variable {W w : World} {b gl : Nat} {H : BH} {N : Bch} {K : List (Nat × Obj)} {R0 : List (Option Addr × List (List UInt8))} {lv : List Bool} {l d c l' d' c' k : Int}
/-- A window that is not one's own to be read. -/
theorem we_rd (P : WinP) (h : KS W w b H N K R0 []) (n : Nat) (hn : n = lv.length) (h8 : n ≤ 8) (hm : (gl, Obj.cells (lv.map Value.bool).toArray 4 (0, 0)) ∈ K) (h6 : ((-9223372036854775808 ≤ l ∧ l ≤ 9223372036854775807)) ∧ ((-9223372036854775808 ≤ d ∧ d ≤ 9223372036854775807)) ∧ ((-9223372036854775808 ≤ c ∧ c ≤ 9223372036854775807)) ∧ ((-9223372036854775808 ≤ l' ∧ l' ≤ 9223372036854775807)) ∧ ((-9223372036854775808 ≤ d' ∧ d' ≤ 9223372036854775807)) ∧ ((-9223372036854775808 ≤ c' ∧ c' ≤ 9223372036854775807)) ∧ ((-9223372036854775808 ≤ k ∧ k ≤ 9223372036854775807))) (hno : pnSok l d c l' d' c' k = false) :
    Calls Try.prog 12 #[.pointer (some ⟨b, 0, none⟩), .slice (some ⟨gl, 0, none⟩) n n, .agg #[.int .i64 l, .int .i64 d, .int .i64 c], .agg #[.int .i64 l', .int .i64 d', .int .i64 c'], .int .i64 k] w fun e w' => ∃ A' c0, e = .returned (.tuple #[.slice A' 0 c0, .int .i64 1]) ∧ KS W w' b H N K [] [] := by
  obtain ⟨a1, a2, a3, a4, a5, a6, a7⟩ := h6
  have := P.rd W w b H N K R0 [] h lv _ n n hn (h.lv hm rfl (by omega)) l d c l' d' c' k a1 a2 a3 a4 a5 a6 a7
  rw [wrdS_bad hno] at this
  refine this.mono ?_
  rintro e w' ⟨A', c0, rfl, k1⟩
  exact ⟨A', c0, rfl, k1.less (fun p hp => hp) (fun p hp => by cases hp) (fun p hp => hp)⟩
/-- What may not be written. -/
theorem we_no (P : WinP) (h : KS W w b H N K R0 []) (n : Nat) (hn : n = lv.length) (h8 : n ≤ 8) (hm : (gl, Obj.cells (lv.map Value.bool).toArray 4 (0, 0)) ∈ K) (h6 : ((-9223372036854775808 ≤ l ∧ l ≤ 9223372036854775807)) ∧ ((-9223372036854775808 ≤ d ∧ d ≤ 9223372036854775807)) ∧ ((-9223372036854775808 ≤ c ∧ c ≤ 9223372036854775807)) ∧ ((-9223372036854775808 ≤ l' ∧ l' ≤ 9223372036854775807)) ∧ ((-9223372036854775808 ≤ d' ∧ d' ≤ 9223372036854775807)) ∧ ((-9223372036854775808 ≤ c' ∧ c' ≤ 9223372036854775807)) ∧ ((-9223372036854775808 ≤ k ∧ k ≤ 9223372036854775807))) (A2 : Option Addr) (ds : List (List UInt8)) (n2 c2 : Nat) (hn2 : ds.length = n2) (h28 : n2 ≤ 1000) (hrd : RdRX (BF b H N.n) w A2 ds) (hps : ∀ i, i < N.n → (N.D i).ps.length ≤ 1999000) (hdn : N.done ≤ 1999000) (hno : wwrB l d c l' d' c' k ds = true) :
    Calls Try.prog 13 #[.pointer (some ⟨b, 0, none⟩), .slice (some ⟨gl, 0, none⟩) n n, .agg #[.int .i64 l, .int .i64 d, .int .i64 c], .agg #[.int .i64 l', .int .i64 d', .int .i64 c'], .int .i64 k, .slice A2 n2 c2] w fun e w' => e = .returned (.int .i64 1) ∧ ∃ H', KS W w' b H' N K [] [] := by
  obtain ⟨a1, a2, a3, a4, a5, a6, a7⟩ := h6
  have := P.wr W w b H N K R0 [] h lv _ n n hn (h.lv hm rfl (by omega)) l d c l' d' c' k a1 a2 a3 a4 a5 a6 a7 A2 ds n2 c2 hn2 h28 hrd hps hdn
  rw [wwrS_bad hno] at this
  refine this.mono ?_
  rintro e w' ⟨rfl, H', k1⟩
  exact ⟨rfl, H', k1.less (fun p hp => hp) (fun p hp => by cases hp) (fun p hp => hp)⟩
end
end Go.Proofs.Ytldfoadildaljaa
end
section
set_option linter.unusedVariables false
set_option linter.unusedSimpArgs false
namespace Go.Proofs.Ytldfoadildaljaa
open Go.RowKit

/-- A count of sectors written at window 0: just the right count is. -/
theorem we_out {l c l' c' R Wn wa wb : Int} {D D' : Nat} (Q : Pn l (D : Int) c l' (D' : Int) c' R Wn wa wb) {nb : Nat} (hnb : R * wb = (nb : Int)) (lv : List Bool) (ds : List (List UInt8)) (h32 : ∀ x ∈ ds, x.length = 32) :
    ∃ (e : Int) (N : Bch), wwrS (Bch.new D') lv l (D : Int) c l' (D' : Int) c' 0 ds = (e, N) ∧ ((e = 0 ∧ ds.length = nb) ∨ (e = 1 ∧ ds.length ≠ nb ∧ N.done = 0)) ∧ (∀ i, i < N.n → (N.D i).ps.length ≤ 1999000) ∧ N.done ≤ 1999000 := by
  have hrw := Q.rows
  by_cases he : ds.length = nb
  · obtain ⟨h1, h2⟩ := Q.wwr (lv := lv) (Wg.new D') (Int.le_refl 0) (by omega) (ds := ds) (by omega) h32
    have hd := wwrS_done (N := Bch.new D') (lv := lv) (l := l) (d := (D : Int)) (c := c) (l' := l') (d' := (D' : Int)) (c' := c') (k := 0) (ds := ds)
    rw [Q.eR, show (Bch.new D').done = 0 from rfl] at hd
    refine ⟨(wwrS (Bch.new D') lv l (D : Int) c l' (D' : Int) c' 0 ds).1, (wwrS (Bch.new D') lv l (D : Int) c l' (D' : Int) c' 0 ds).2, rfl, .inl ⟨h1, he⟩, fun i hi => ?_, ?_⟩
    · rw [h2.wg.n] at hi; rw [h2.wg.ps i hi]; exact Nat.zero_le _
    · have hb := gOk_bd Q.b
      have e1 : roD (D' : Int) ≤ 8 := by unfold roD; omega
      have e2 : R.toNat * roD (D' : Int) ≤ 4 * 8 := Nat.mul_le_mul (by omega) e1
      omega
  · have hw := wwrS_bad (N := Bch.new D') (lv := lv) (ds := ds) (Q.wno (k := 0) (ds := ds) (by omega))
    exact ⟨1, Bch.new D', hw, .inr ⟨rfl, he, rfl⟩, fun i _ => Nat.zero_le _, Nat.zero_le _⟩
set_option maxRecDepth 100000 in
set_option maxHeartbeats 8000000 in
theorem windowerrors (P : WinP) (m n kz cz : Int) (w : World) (hm : (-9223372036854775808 ≤ m ∧ m ≤ 9223372036854775807)) (hn : (-9223372036854775808 ≤ n ∧ n ≤ 9223372036854775807)) (hkz : (-9223372036854775808 ≤ kz ∧ kz ≤ 9223372036854775807)) (hcz : (-9223372036854775808 ≤ cz ∧ cz ≤ 9223372036854775807)) :
    Calls Try.prog 3 #[.int .i64 m, .int .i64 n, .int .i64 kz, .int .i64 cz] w fun e w' => e = .returned (.bool true) ∧ Below w.heap.size w w' := by
  have hpn := ptr_eq
  have CP := Lib.hid (fun V => playPair_can m n V hm hn)
  have HP := Lib.hid P
  have bk := withinI_bd kz 50 (by omega)
  have CK := Lib.hid (fun V => within_any kz 50 V hkz (by omega))
  generalize withinI kz 50 = kq at bk CK
  have bc := withinI_bd cz 33 (by omega)
  have CC := Lib.hid (fun V => within_any cz 33 V hcz (by omega))
  obtain ⟨cn, hcn⟩ := Int.eq_ofNat_of_zero_le bc.1
  rw [hcn] at CC bc
  clear hcn
  go_enter Try.func3, Try.ntmps3
  go_wp2_with fail
  (with_reducible refine (CP.out _).mono ?_); rintro e w1 ⟨l, dd, c, l', d', c', rfl, hc, hb⟩
  obtain ⟨hg1, hg2, _, hdd, hll, _⟩ := gCan_parts hc
  have hb1 := gOk_bd hg1
  have hb2 := gOk_bd hg2
  obtain ⟨D, rfl⟩ := Int.eq_ofNat_of_zero_le (show 0 ≤ dd by omega)
  obtain ⟨D', rfl⟩ := Int.eq_ofNat_of_zero_le (show 0 ≤ d' by omega)
  have hDD : D ≤ D' := by omega
  obtain ⟨R, Wn, wa, wb, Pq⟩ := pn_of hc
  have HQ := Lib.hid Pq
  have hrw := Pq.rows
  have hnb := Pq.n_bd
  have B2 := below2 w1 (.cells #[.int .i64 l, .int .i64 (D : Int), .int .i64 c] 23) (.cells #[.int .i64 l', .int .i64 (D' : Int), .int .i64 c'] 23)
  have CN := Lib.hid (bp_new D' _ _ (Below.refl _ ((w1.alloc (.cells #[.int .i64 l, .int .i64 (D : Int), .int .i64 c] 23)).alloc (.cells #[.int .i64 l', .int .i64 (D' : Int), .int .i64 c'] 23))) (by omega))
  have HB := Lib.hid (hb.trans (B2.mono hb.size))
  have O1 := Lib.hid (show ((w1.alloc (.cells #[.int .i64 l, .int .i64 (D : Int), .int .i64 c] 23)).alloc (.cells #[.int .i64 l', .int .i64 (D' : Int), .int .i64 c'] 23)).heap[w1.heap.size]? = some (Obj.cells #[.int .i64 l, .int .i64 (D : Int), .int .i64 c] 23 (0, 0)) from (hp_old _ _ _ (by simp)).trans (hp_new _ _ _ rfl))
  have O2 := Lib.hid (show ((w1.alloc (.cells #[.int .i64 l, .int .i64 (D : Int), .int .i64 c] 23)).alloc (.cells #[.int .i64 l', .int .i64 (D' : Int), .int .i64 c'] 23)).heap[w1.heap.size + 1]? = some (Obj.cells #[.int .i64 l', .int .i64 (D' : Int), .int .i64 c'] 23 (0, 0)) from hp_new _ _ _ (by simp))
  have hw1 := hb.size
  clear CP hc B2 hb Pq P
  go_wp2_with fail
  refine CN.out.mono ?_
  rintro e w2 ⟨b, H, rfl, hp, _, _⟩
  unfold ptr
  have k0 := (KX.ks ⟨hp, fun p hp => absurd hp (by simp)⟩ : KS _ w2 b H (Bch.new D') [] [] []).open2 HB.out O1.out O2.out hw1 (by omega)
  obtain ⟨g1, g2, g3⟩ := k0.gat (g := w1.heap.size) (l := l) (d := (D : Int)) (c := c) (t := 23) (f := (0, 0)) (by simp)
  obtain ⟨g4, g5, g6⟩ := k0.gat (g := w1.heap.size + 1) (l := l') (d := (D' : Int)) (c := c') (t := 23) (f := (0, 0)) (by simp)
  have CL := Lib.hid (ks_live k0 0 D' (by omega) (by omega))
  clear hp k0 O1 O2 CN HB
  go_wp2_with fail
  (with_reducible refine CL.out.mono ?_); rintro e w3 ⟨gl, rfl, k1⟩
  have K1 := Lib.hid k1
  clear g1 g2 g3 g4 g5 g6
  clear CL k1
  have hl0 : (liveL 0 D').length = D' := liveL_len _ _
  obtain ⟨g1, g2, g3⟩ := K1.out.gat (g := w1.heap.size) (l := l) (d := (D : Int)) (c := c) (t := 23) (f := (0, 0)) (by simp)
  obtain ⟨g4, g5, g6⟩ := K1.out.gat (g := w1.heap.size + 1) (l := l') (d := (D' : Int)) (c := c') (t := 23) (f := (0, 0)) (by simp)
  have CWn := Lib.hid (fun V => refWindows_any l (D : Int) c l' (D' : Int) c' V (by omega) (by omega) (by omega) (by omega) (by omega) (by omega))
  rw [HQ.out.eK] at CWn
  have CSp := Lib.hid (fun V => refSpan_any l (D : Int) c l' (D' : Int) c' 0 V (by omega) (by omega) (by omega) (by omega) (by omega) (by omega) (by omega))
  have hT0 : pnT l (D : Int) c l' (D' : Int) c' 0 = R * wb := by unfold pnT; rw [if_pos (HQ.out.sok (by omega) (by omega)), HQ.out.n]; omega
  rw [HQ.out.frm (by omega) (by omega), hT0, Int.zero_mul] at CSp
  obtain ⟨nb, hnbq⟩ : ∃ nb : Nat, R * wb = (nb : Int) := ⟨(R * wb).toNat, by omega⟩
  rw [hnbq] at CSp hnb
  have HNb := Lib.hid hnbq
  clear hT0 hnbq
  go_wp2_with fail
  (with_reducible refine (CWn.out _).mono ?_); rintro e w4 ⟨rfl, hb4⟩
  have K2 := Lib.hid (K1.out.below hb4)
  clear g1 g2 g3 g4 g5 g6
  clear hb4 K1 CWn
  obtain ⟨g1, g2, g3⟩ := K2.out.gat (g := w1.heap.size) (l := l) (d := (D : Int)) (c := c) (t := 23) (f := (0, 0)) (by simp)
  obtain ⟨g4, g5, g6⟩ := K2.out.gat (g := w1.heap.size + 1) (l := l') (d := (D' : Int)) (c := c') (t := 23) (f := (0, 0)) (by simp)
  go_wp2_with fail
  (with_reducible refine (CK.out _).mono ?_); rintro e w5 ⟨rfl, h5⟩
  obtain rfl : w4 = w5 := h5.symm
  clear h5 CK
  obtain ⟨k, hkd⟩ : ∃ k : Int, 1 + kq = k := ⟨_, rfl⟩
  have hk1 : 1 ≤ k ∧ k ≤ 50 := by omega
  go_wp2_with fail
  (with_reducible refine (CSp.out _).mono ?_); rintro e w5 ⟨rfl, hb5⟩
  have k3 := (K2.out.below hb5).add (.cells #[.int .i64 (-k), .int .i64 (Wn - 1 + k)] 3)
  obtain ⟨gt, hgt⟩ : ∃ gt, w5.heap.size = gt := ⟨_, rfl⟩
  rw [hgt] at k3
  have K3 := Lib.hid k3
  clear g1 g2 g3 g4 g5 g6
  clear hb5 K2 CSp k3 hkd bk
  go_wp2_with fail
  go_loopw [66] (fun i wr => ∃ (j : Nat) (H : BH), j ≤ 2 ∧ i = .int .i64 j ∧ KS w wr b H (Bch.new D') [(gt, Obj.cells #[.int .i64 (-k), .int .i64 (Wn - 1 + k)] 3 (0, 0)), (gl, Obj.cells ((liveL 0 D').map Value.bool).toArray 4 (0, 0)), (w1.heap.size, Obj.cells #[.int .i64 l, .int .i64 (D : Int), .int .i64 c] 23 (0, 0)), (w1.heap.size + 1, Obj.cells #[.int .i64 l', .int .i64 (D' : Int), .int .i64 c'] 23 (0, 0))] [] []) (fun i _ => 2 - (intOf i).toNat)
  case atStart => exact ⟨0, H, by omega, rfl, K3.out⟩
  case round =>
    obtain ⟨j, H, hj, rfl, hk⟩ := hrel
    have HK := Lib.hid hk
    by_cases hlt : j < 2
    · have i0 : (0 : Int) ≤ (j : Int) := by omega
      have i1 : (j : Int) < 2 := by omega
      obtain ⟨x, hx, hxb, hcell⟩ : ∃ x : Int, (x < 0 ∨ Wn ≤ x) ∧ (-1000 ≤ x ∧ x ≤ 1000) ∧ wr.cell? ⟨gt, j, none⟩ = some (.int .i64 x) := by
        have h1 := (hk.kx.kp (gt, Obj.cells #[.int .i64 (-k), .int .i64 (Wn - 1 + k)] 3 (0, 0)) (by simp)).1
        obtain rfl | rfl : j = 0 ∨ j = 1 := by omega
        · exact ⟨-k, by omega, by omega, cell_of_row wr gt 0 _ _ _ h1⟩
        · exact ⟨Wn - 1 + k, by omega, by omega, cell_of_row wr gt 1 _ _ _ h1⟩
      have hno := HQ.out.sno hx
      have C1 := Lib.hid (we_rd HP.out hk D' hl0.symm (by omega) (gl := gl) (lv := (liveL 0 D')) (by simp) ⟨by omega, by omega, by omega, by omega, by omega, by omega, by omega⟩ hno)
      obtain ⟨g1, g2, g3⟩ := HK.out.gat (g := w1.heap.size) (l := l) (d := (D : Int)) (c := c) (t := 23) (f := (0, 0)) (by simp)
      obtain ⟨g4, g5, g6⟩ := HK.out.gat (g := w1.heap.size + 1) (l := l') (d := (D' : Int)) (c := c') (t := 23) (f := (0, 0)) (by simp)
      clear hk K3
      go_wp2_with fail
      (with_reducible refine C1.out.mono ?_); rintro e w6 ⟨A6, c6, rfl, k6⟩
      have Q0 := Lib.hid (k6.below (Below.refl _ w6).drew)
      clear g1 g2 g3 g4 g5 g6
      clear k6 C1 hcell HK
      have hwn : IntKind.i64.wrap (nb : Int) = (nb : Int) := IntWalk.i64_in _ (by omega)
      go_upto_region 13 with fail
      refine wp_region_noPanic (region_ord 20 [] (fun V => GAt V w1.heap.size l (D : Int) c ∧ GAt V (w1.heap.size + 1) l' (D' : Int) c') (by kernel_rfl) (by kernel_rfl) (fun _ _ _ _ _ h => h) fun R => ?_)
      change anyI _ _ _ _ _ _ 20 _ _ w6.drew
      have HS0 := Lib.hid (show (fun V => GAt V w1.heap.size l (D : Int) c ∧ GAt V (w1.heap.size + 1) l' (D' : Int) c') w6.drew from ⟨Q0.out.gat (g := w1.heap.size) (l := l) (d := (D : Int)) (c := c) (t := 23) (f := (0, 0)) (by simp), Q0.out.gat (g := w1.heap.size + 1) (l := l') (d := (D' : Int)) (c := c') (t := 23) (f := (0, 0)) (by simp)⟩)
      refine' anyI_take R 0 rfl (v := ?_) (by kernel_rfl) (by rfl) (fun V hV => ?hy) HS0.out ?_
      case hy => ((try dsimp only at hV);  obtain ⟨⟨y0, y1, y2⟩, ⟨y3, y4, y5⟩⟩ := hV; go_simp; try with_reducible rfl)
      try simp only [Act.put, List.getElem_toArray, List.getElem_cons_succ, List.getElem_cons_zero, List.setIfInBounds_toArray, List.set_cons_zero, List.set_cons_succ]
      refine' anyI_take R 1 rfl (v := ?_) (by kernel_rfl) (by rfl) (fun V hV => ?hy) HS0.out ?_
      case hy => ((try dsimp only at hV);  obtain ⟨⟨y0, y1, y2⟩, ⟨y3, y4, y5⟩⟩ := hV; go_simp; try with_reducible rfl)
      try simp only [Act.put, List.getElem_toArray, List.getElem_cons_succ, List.getElem_cons_zero, List.setIfInBounds_toArray, List.set_cons_zero, List.set_cons_succ]
      refine' anyI_take R 2 rfl (v := ?_) (by kernel_rfl) (by rfl) (fun V hV => ?hy) HS0.out ?_
      case hy => ((try dsimp only at hV);  obtain ⟨⟨y0, y1, y2⟩, ⟨y3, y4, y5⟩⟩ := hV; go_simp; try with_reducible rfl)
      try simp only [Act.put, List.getElem_toArray, List.getElem_cons_succ, List.getElem_cons_zero, List.setIfInBounds_toArray, List.set_cons_zero, List.set_cons_succ]
      refine' anyI_take R 3 rfl (v := ?_) (by kernel_rfl) (by rfl) (fun V hV => ?hy) HS0.out ?_
      case hy => ((try dsimp only at hV);  obtain ⟨⟨y0, y1, y2⟩, ⟨y3, y4, y5⟩⟩ := hV; go_simp; try with_reducible rfl)
      try simp only [Act.put, List.getElem_toArray, List.getElem_cons_succ, List.getElem_cons_zero, List.setIfInBounds_toArray, List.set_cons_zero, List.set_cons_succ]
      refine' anyI_take R 4 rfl (v := ?_) (by kernel_rfl) (by rfl) (fun V hV => ?hy) HS0.out ?_
      case hy => ((try dsimp only at hV);  obtain ⟨⟨y0, y1, y2⟩, ⟨y3, y4, y5⟩⟩ := hV; go_simp; try with_reducible rfl)
      try simp only [Act.put, List.getElem_toArray, List.getElem_cons_succ, List.getElem_cons_zero, List.setIfInBounds_toArray, List.set_cons_zero, List.set_cons_succ]
      refine' anyI_take R 5 rfl (v := ?_) (by kernel_rfl) (by rfl) (fun V hV => ?hy) HS0.out ?_
      case hy => ((try dsimp only at hV);  obtain ⟨⟨y0, y1, y2⟩, ⟨y3, y4, y5⟩⟩ := hV; go_simp; try with_reducible rfl)
      try simp only [Act.put, List.getElem_toArray, List.getElem_cons_succ, List.getElem_cons_zero, List.setIfInBounds_toArray, List.set_cons_zero, List.set_cons_succ]
      refine' anyI_take R 6 rfl (v := ?_) (by kernel_rfl) (by rfl) (fun V hV => ?hy) HS0.out ?_
      case hy => ((try dsimp only at hV);  obtain ⟨⟨y0, y1, y2⟩, ⟨y3, y4, y5⟩⟩ := hV; go_simp; try with_reducible rfl)
      try simp only [Act.put, List.getElem_toArray, List.getElem_cons_succ, List.getElem_cons_zero, List.setIfInBounds_toArray, List.set_cons_zero, List.set_cons_succ]
      refine' anyI_take R 7 rfl (v := ?_) (by kernel_rfl) (by rfl) (fun V hV => ?hy) HS0.out ?_
      case hy => ((try dsimp only at hV);  obtain ⟨⟨y0, y1, y2⟩, ⟨y3, y4, y5⟩⟩ := hV; go_simp; try with_reducible rfl)
      try simp only [Act.put, List.getElem_toArray, List.getElem_cons_succ, List.getElem_cons_zero, List.setIfInBounds_toArray, List.set_cons_zero, List.set_cons_succ]
      refine' anyI_take R 8 rfl (v := ?_) (by kernel_rfl) (by rfl) (fun V hV => ?hy) HS0.out ?_
      case hy => ((try dsimp only at hV);  obtain ⟨⟨y0, y1, y2⟩, ⟨y3, y4, y5⟩⟩ := hV; go_simp; try with_reducible rfl)
      try simp only [Act.put, List.getElem_toArray, List.getElem_cons_succ, List.getElem_cons_zero, List.setIfInBounds_toArray, List.set_cons_zero, List.set_cons_succ]
      refine' anyI_take R 9 rfl (v := ?_) (by kernel_rfl) (by rfl) (fun V hV => ?hy) HS0.out ?_
      case hy => ((try dsimp only at hV);  obtain ⟨⟨y0, y1, y2⟩, ⟨y3, y4, y5⟩⟩ := hV; go_simp; try with_reducible rfl)
      try simp only [Act.put, List.getElem_toArray, List.getElem_cons_succ, List.getElem_cons_zero, List.setIfInBounds_toArray, List.set_cons_zero, List.set_cons_succ]
      refine' anyI_take R 10 rfl (v := ?_) (by kernel_rfl) (by rfl) (fun V hV => ?hy) HS0.out ?_
      case hy => ((try dsimp only at hV);  obtain ⟨⟨y0, y1, y2⟩, ⟨y3, y4, y5⟩⟩ := hV; go_simp; try with_reducible rfl)
      try simp only [Act.put, List.getElem_toArray, List.getElem_cons_succ, List.getElem_cons_zero, List.setIfInBounds_toArray, List.set_cons_zero, List.set_cons_succ]
      refine' anyI_take R 11 rfl (v := ?_) (by kernel_rfl) (by rfl) (fun V hV => ?hy) HS0.out ?_
      case hy => ((try dsimp only at hV);  obtain ⟨⟨y0, y1, y2⟩, ⟨y3, y4, y5⟩⟩ := hV; go_simp; try with_reducible rfl)
      try simp only [Act.put, List.getElem_toArray, List.getElem_cons_succ, List.getElem_cons_zero, List.setIfInBounds_toArray, List.set_cons_zero, List.set_cons_succ]
      refine' anyI_take R 12 rfl (v := ?_) (by kernel_rfl) (by rfl) (fun V hV => ?hy) HS0.out ?_
      case hy => ((try dsimp only at hV);  obtain ⟨⟨y0, y1, y2⟩, ⟨y3, y4, y5⟩⟩ := hV; go_simp; try with_reducible rfl)
      try simp only [Act.put, List.getElem_toArray, List.getElem_cons_succ, List.getElem_cons_zero, List.setIfInBounds_toArray, List.set_cons_zero, List.set_cons_succ]
      refine' anyI_take R 13 rfl (v := ?_) (by kernel_rfl) (by rfl) (fun V hV => ?hy) HS0.out ?_
      case hy => ((try dsimp only at hV);  obtain ⟨⟨y0, y1, y2⟩, ⟨y3, y4, y5⟩⟩ := hV; go_simp; try with_reducible rfl)
      try simp only [Act.put, List.getElem_toArray, List.getElem_cons_succ, List.getElem_cons_zero, List.setIfInBounds_toArray, List.set_cons_zero, List.set_cons_succ]
      refine' anyI_take R 14 rfl (v := ?_) (by kernel_rfl) (by rfl) (fun V hV => ?hy) HS0.out ?_
      case hy => ((try dsimp only at hV);  obtain ⟨⟨y0, y1, y2⟩, ⟨y3, y4, y5⟩⟩ := hV; go_simp; try with_reducible rfl)
      try simp only [Act.put, List.getElem_toArray, List.getElem_cons_succ, List.getElem_cons_zero, List.setIfInBounds_toArray, List.set_cons_zero, List.set_cons_succ]
      refine' anyI_take R 15 rfl (v := ?_) (by kernel_rfl) (by rfl) (fun V hV => ?hy) HS0.out ?_
      case hy => ((try dsimp only at hV);  obtain ⟨⟨y0, y1, y2⟩, ⟨y3, y4, y5⟩⟩ := hV; go_simp; try with_reducible rfl)
      try simp only [Act.put, List.getElem_toArray, List.getElem_cons_succ, List.getElem_cons_zero, List.setIfInBounds_toArray, List.set_cons_zero, List.set_cons_succ]
      refine anyI_one 16 (by kernel_rfl) rfl ?_
      try simp only [List.getElem_toArray, List.getElem_cons_succ, List.getElem_cons_zero]
      refine opE_step ?_
      rw [if_pos (by rfl)]
      go_simp
      (with_reducible refine (ks_sectors Q0.out (A := none) (zs := []) 0 0 nb rfl (RdZ.nil0 _) (by omega)).mono ?_)
      rintro e v1 ⟨A1, c1, rfl, q1⟩
      have Q1 := Lib.hid q1
      replace HS0 := Lib.hid (show (fun V => GAt V w1.heap.size l (D : Int) c ∧ GAt V (w1.heap.size + 1) l' (D' : Int) c') v1 from ⟨Q1.out.gat (g := w1.heap.size) (l := l) (d := (D : Int)) (c := c) (t := 23) (f := (0, 0)) (by simp), Q1.out.gat (g := w1.heap.size + 1) (l := l') (d := (D' : Int)) (c := c') (t := 23) (f := (0, 0)) (by simp)⟩)
      clear q1 Q0
      try dsimp only
      refine ⟨HS0.out, ?_⟩
      try simp only [Act.put, List.getElem_toArray, List.getElem_cons_succ, List.getElem_cons_zero, List.setIfInBounds_toArray, List.set_cons_zero, List.set_cons_succ]
      refine anyI_one 17 (by kernel_rfl) rfl ?_
      try simp only [List.getElem_toArray, List.getElem_cons_succ, List.getElem_cons_zero]
      refine opE_step ?_
      rw [if_pos (by rfl)]
      go_simp
      (with_reducible refine (we_no HP.out Q1.out D' hl0.symm (by omega) (gl := gl) (lv := (liveL 0 D')) (by simp) ⟨by omega, by omega, by omega, by omega, by omega, by omega, by omega⟩ A1 _ nb c1 (sectorsB_len _ _) (by omega) (Q1.out.rx _ (List.mem_cons_self ..)) (fun i _ => Nat.zero_le _) (Nat.zero_le _) (wwrB_sok hno)).mono ?_)
      rintro e v2 ⟨rfl, H2, q2⟩
      have Q2 := Lib.hid q2
      replace HS0 := Lib.hid (show (fun V => GAt V w1.heap.size l (D : Int) c ∧ GAt V (w1.heap.size + 1) l' (D' : Int) c') v2 from ⟨Q2.out.gat (g := w1.heap.size) (l := l) (d := (D : Int)) (c := c) (t := 23) (f := (0, 0)) (by simp), Q2.out.gat (g := w1.heap.size + 1) (l := l') (d := (D' : Int)) (c := c') (t := 23) (f := (0, 0)) (by simp)⟩)
      clear q2 Q1
      try dsimp only
      refine ⟨HS0.out, ?_⟩
      try simp only [Act.put, List.getElem_toArray, List.getElem_cons_succ, List.getElem_cons_zero, List.setIfInBounds_toArray, List.set_cons_zero, List.set_cons_succ]
      refine' anyI_take R 18 rfl (v := ?_) (by kernel_rfl) (by rfl) (fun V hV => ?hy) HS0.out ?_
      case hy => ((try dsimp only at hV);  obtain ⟨⟨y0, y1, y2⟩, ⟨y3, y4, y5⟩⟩ := hV; go_simp; try with_reducible rfl)
      try simp only [Act.put, List.getElem_toArray, List.getElem_cons_succ, List.getElem_cons_zero, List.setIfInBounds_toArray, List.set_cons_zero, List.set_cons_succ]
      refine' anyI_take R 19 rfl (v := ?_) (by kernel_rfl) (by rfl) (fun V hV => ?hy) HS0.out ?_
      case hy => ((try dsimp only at hV);  obtain ⟨⟨y0, y1, y2⟩, ⟨y3, y4, y5⟩⟩ := hV; go_simp; try with_reducible rfl)
      try simp only [Act.put, List.getElem_toArray, List.getElem_cons_succ, List.getElem_cons_zero, List.setIfInBounds_toArray, List.set_cons_zero, List.set_cons_succ]
      refine anyI_tail (by kernel_rfl) ?_
      try simp only [List.drop_succ_cons, List.drop_zero]
      clear R
      go_wp2_with fail
      refine NoPanic.normal ?_
      go_wp2_with fail
      go_roundw
      case rel => exact ⟨j + 1, H2, by omega, by go_num, Q2.out.below (Below.refl _ _)⟩
      case measure => simp [intOf]; omega
    · obtain rfl : j = 2 := by omega
      have hwn : IntKind.i64.wrap (nb : Int) = (nb : Int) := IntWalk.i64_in _ (by omega)
      clear K3 hk
      go_wp2_with fail
      (with_reducible refine (CC.out _).mono ?_); rintro e w6 ⟨rfl, h6⟩
      obtain rfl : wr = w6 := h6.symm
      clear h6 CC
      have Q0 := Lib.hid (HK.out.below (Below.refl _ wr).drew)
      clear HK
      obtain ⟨e17, N17, hw17, hc17, hp17, hd17⟩ := we_out HQ.out HNb.out (liveL 0 D') (sectorsB [] cn) (fun x hx => sectorsB_mem x hx)
      rw [sectorsB_len] at hc17
      have HC17 := Lib.hid hc17
      have HW17 := Lib.hid hw17
      have HP17 := Lib.hid hp17
      clear hc17 hw17 hp17
      go_upto_region 17 with fail
      refine wp_region_noPanic (region_ord 8 [] (fun V => GAt V w1.heap.size l (D : Int) c ∧ GAt V (w1.heap.size + 1) l' (D' : Int) c') (by kernel_rfl) (by kernel_rfl) (fun _ _ _ _ _ h => h) fun R => ?_)
      change anyI _ _ _ _ _ _ 8 _ _ wr.drew
      have HS0 := Lib.hid (show (fun V => GAt V w1.heap.size l (D : Int) c ∧ GAt V (w1.heap.size + 1) l' (D' : Int) c') wr.drew from ⟨Q0.out.gat (g := w1.heap.size) (l := l) (d := (D : Int)) (c := c) (t := 23) (f := (0, 0)) (by simp), Q0.out.gat (g := w1.heap.size + 1) (l := l') (d := (D' : Int)) (c := c') (t := 23) (f := (0, 0)) (by simp)⟩)
      refine' anyI_take R 0 rfl (v := ?_) (by kernel_rfl) (by rfl) (fun V hV => ?hy) HS0.out ?_
      case hy => ((try dsimp only at hV);  obtain ⟨⟨y0, y1, y2⟩, ⟨y3, y4, y5⟩⟩ := hV; go_simp; try with_reducible rfl)
      try simp only [Act.put, List.getElem_toArray, List.getElem_cons_succ, List.getElem_cons_zero, List.setIfInBounds_toArray, List.set_cons_zero, List.set_cons_succ]
      refine' anyI_take R 1 rfl (v := ?_) (by kernel_rfl) (by rfl) (fun V hV => ?hy) HS0.out ?_
      case hy => ((try dsimp only at hV);  obtain ⟨⟨y0, y1, y2⟩, ⟨y3, y4, y5⟩⟩ := hV; go_simp; try with_reducible rfl)
      try simp only [Act.put, List.getElem_toArray, List.getElem_cons_succ, List.getElem_cons_zero, List.setIfInBounds_toArray, List.set_cons_zero, List.set_cons_succ]
      refine' anyI_take R 2 rfl (v := ?_) (by kernel_rfl) (by rfl) (fun V hV => ?hy) HS0.out ?_
      case hy => ((try dsimp only at hV);  obtain ⟨⟨y0, y1, y2⟩, ⟨y3, y4, y5⟩⟩ := hV; go_simp; try with_reducible rfl)
      try simp only [Act.put, List.getElem_toArray, List.getElem_cons_succ, List.getElem_cons_zero, List.setIfInBounds_toArray, List.set_cons_zero, List.set_cons_succ]
      refine' anyI_take R 3 rfl (v := ?_) (by kernel_rfl) (by rfl) (fun V hV => ?hy) HS0.out ?_
      case hy => ((try dsimp only at hV);  obtain ⟨⟨y0, y1, y2⟩, ⟨y3, y4, y5⟩⟩ := hV; go_simp; try with_reducible rfl)
      try simp only [Act.put, List.getElem_toArray, List.getElem_cons_succ, List.getElem_cons_zero, List.setIfInBounds_toArray, List.set_cons_zero, List.set_cons_succ]
      refine' anyI_take R 4 rfl (v := ?_) (by kernel_rfl) (by rfl) (fun V hV => ?hy) HS0.out ?_
      case hy => ((try dsimp only at hV);  obtain ⟨⟨y0, y1, y2⟩, ⟨y3, y4, y5⟩⟩ := hV; go_simp; try with_reducible rfl)
      try simp only [Act.put, List.getElem_toArray, List.getElem_cons_succ, List.getElem_cons_zero, List.setIfInBounds_toArray, List.set_cons_zero, List.set_cons_succ]
      refine anyI_one 5 (by kernel_rfl) rfl ?_
      try simp only [List.getElem_toArray, List.getElem_cons_succ, List.getElem_cons_zero]
      refine opE_step ?_
      rw [if_pos (by rfl)]
      go_simp
      (with_reducible refine (ks_sectors Q0.out (A := none) (zs := []) 0 0 cn rfl (RdZ.nil0 _) (by omega)).mono ?_)
      rintro e v1 ⟨A1, c1, rfl, q1⟩
      have Q1 := Lib.hid q1
      replace HS0 := Lib.hid (show (fun V => GAt V w1.heap.size l (D : Int) c ∧ GAt V (w1.heap.size + 1) l' (D' : Int) c') v1 from ⟨Q1.out.gat (g := w1.heap.size) (l := l) (d := (D : Int)) (c := c) (t := 23) (f := (0, 0)) (by simp), Q1.out.gat (g := w1.heap.size + 1) (l := l') (d := (D' : Int)) (c := c') (t := 23) (f := (0, 0)) (by simp)⟩)
      clear q1 Q0
      try dsimp only
      refine ⟨HS0.out, ?_⟩
      try simp only [Act.put, List.getElem_toArray, List.getElem_cons_succ, List.getElem_cons_zero, List.setIfInBounds_toArray, List.set_cons_zero, List.set_cons_succ]
      refine anyI_one 6 (by kernel_rfl) rfl ?_
      try simp only [List.getElem_toArray, List.getElem_cons_succ, List.getElem_cons_zero]
      refine opE_step ?_
      rw [if_pos (by rfl)]
      go_simp
      have CW17 := HP.out.wr w v1 b _ _ _ _ _ Q1.out (liveL 0 D') (some ⟨gl, 0, none⟩) D' D' hl0.symm (Q1.out.lv (g := gl) (lv := (liveL 0 D')) (t := 4) (f := (0, 0)) (by simp) rfl (by omega)) l (D : Int) c l' (D' : Int) c' 0 (by omega) (by omega) (by omega) (by omega) (by omega) (by omega) (by omega) A1 (sectorsB [] cn) cn c1 (sectorsB_len _ _) (by omega) (Q1.out.rx _ (List.mem_cons_self ..)) (fun i _ => Nat.zero_le _) (Nat.zero_le _)
      rw [HW17.out] at CW17
      (with_reducible refine CW17.mono ?_)
      rintro e v2 ⟨rfl, H2, q2⟩
      have Q2 := Lib.hid (q2.less (R' := []) (S' := []) (fun p hp => hp) (fun p hp => by cases hp) (fun p hp => hp))
      replace HS0 := Lib.hid (show (fun V => GAt V w1.heap.size l (D : Int) c ∧ GAt V (w1.heap.size + 1) l' (D' : Int) c') v2 from ⟨Q2.out.gat (g := w1.heap.size) (l := l) (d := (D : Int)) (c := c) (t := 23) (f := (0, 0)) (by simp), Q2.out.gat (g := w1.heap.size + 1) (l := l') (d := (D' : Int)) (c := c') (t := 23) (f := (0, 0)) (by simp)⟩)
      clear q2 Q1 CW17
      try dsimp only
      refine ⟨HS0.out, ?_⟩
      try simp only [Act.put, List.getElem_toArray, List.getElem_cons_succ, List.getElem_cons_zero, List.setIfInBounds_toArray, List.set_cons_zero, List.set_cons_succ]
      refine' anyI_take R 7 rfl (v := ?_) (by kernel_rfl) (by rfl) (fun V hV => ?hy) HS0.out ?_
      case hy => ((try dsimp only at hV);  obtain ⟨⟨y0, y1, y2⟩, ⟨y3, y4, y5⟩⟩ := hV; go_simp; try with_reducible rfl)
      try simp only [Act.put, List.getElem_toArray, List.getElem_cons_succ, List.getElem_cons_zero, List.setIfInBounds_toArray, List.set_cons_zero, List.set_cons_succ]
      refine anyI_tail (by kernel_rfl) ?_
      try simp only [List.drop_succ_cons, List.drop_zero]
      clear R
      go_wp2_with fail
      refine NoPanic.normal ?_
      have C18 := Lib.hid (we_rd HP.out Q2.out D' hl0.symm (by omega) (gl := gl) (lv := (liveL 0 D')) (by simp) ⟨by omega, by omega, by omega, by omega, by omega, by omega, by omega⟩ (self_no (l := l) (d := (D : Int)) (c := c) 0))
      obtain ⟨g1, g2, g3⟩ := Q2.out.gat (g := w1.heap.size) (l := l) (d := (D : Int)) (c := c) (t := 23) (f := (0, 0)) (by simp)
      obtain ⟨g4, g5, g6⟩ := Q2.out.gat (g := w1.heap.size + 1) (l := l') (d := (D' : Int)) (c := c') (t := 23) (f := (0, 0)) (by simp)
      go_wp2_with fail
      (with_reducible refine C18.out.mono ?_); rintro e w18 ⟨A18, c18, rfl, k18⟩
      have Q3 := Lib.hid k18
      clear g1 g2 g3 g4 g5 g6
      clear k18 C18 Q2
      have C19 := Lib.hid (we_no HP.out Q3.out D' hl0.symm (by omega) (gl := gl) (lv := (liveL 0 D')) (by simp) ⟨by omega, by omega, by omega, by omega, by omega, by omega, by omega⟩ none [] 0 0 rfl (by omega) ⟨by simp, fun h => by simp at h⟩ HP17.out hd17 (back_none (l := l) (d := (D : Int)) (c := c) (l' := l') (d' := (D' : Int)) (c' := c') 0))
      obtain ⟨g1, g2, g3⟩ := Q3.out.gat (g := w1.heap.size) (l := l) (d := (D : Int)) (c := c) (t := 23) (f := (0, 0)) (by simp)
      obtain ⟨g4, g5, g6⟩ := Q3.out.gat (g := w1.heap.size + 1) (l := l') (d := (D' : Int)) (c := c') (t := 23) (f := (0, 0)) (by simp)
      go_wp2_with fail
      (with_reducible refine C19.out.mono ?_); rintro e w19 ⟨rfl, H19, k19⟩
      have Q0 := Lib.hid k19
      clear g1 g2 g3 g4 g5 g6
      clear k19 C19 Q3 HP17 hd17
      have CX := Lib.hid (fun V => refCan_any l' (D' : Int) c' l (D : Int) c V (by omega) (by omega) (by omega) (by omega) (by omega) (by omega))
      obtain ⟨x, hx⟩ : ∃ x, gCan l' (D' : Int) c' l (D : Int) c = x := ⟨_, rfl⟩
      rw [hx] at CX
      clear hx
      go_upto_region 20 with fail
      obtain ⟨g1, g2, g3⟩ := Q0.out.gat (g := w1.heap.size) (l := l) (d := (D : Int)) (c := c) (t := 23) (f := (0, 0)) (by simp)
      obtain ⟨g4, g5, g6⟩ := Q0.out.gat (g := w1.heap.size + 1) (l := l') (d := (D' : Int)) (c := c') (t := 23) (f := (0, 0)) (by simp)
      rcases HC17.out with ⟨rfl, hcn⟩ | ⟨rfl, hcn, hdn⟩
      · obtain rfl : cn = nb := hcn
        go_wp2_with fail
        (with_reducible refine (CX.out _).mono ?_); rintro e u2 ⟨rfl, h2⟩
        have Q5 := Lib.hid (Q0.out.below h2)
        clear h2
        cases x
        · go_wp2_with fail
          (with_reducible refine (winWakes_any HP.out _).mono ?_); rintro e u3 ⟨rfl, h3⟩
          have Q6 := Lib.hid (Q5.out.below h3)
          go_wp2_with fail
          go_ret
          exact ⟨rfl, Q6.out.bp.bel⟩
        · go_wp2_with fail
          (with_reducible refine (winWakes_any HP.out _).mono ?_); rintro e u3 ⟨rfl, h3⟩
          have Q6 := Lib.hid (Q5.out.below h3)
          go_wp2_with fail
          go_ret
          exact ⟨rfl, Q6.out.bp.bel⟩
      · have hbf : ((cn : Int) == (nb : Int)) = false := by rw [beq_eq_false_iff_ne]; omega
        go_wp2_with fail
        (with_reducible refine (bp_writes _ _ _ _ _ Q0.out.bp).mono ?_); rintro e u1 ⟨rfl, h1⟩
        rw [hdn]
        obtain rfl : w19 = u1 := h1.symm
        go_wp2_with fail
        (with_reducible refine (CX.out _).mono ?_); rintro e u2 ⟨rfl, h2⟩
        have Q5 := Lib.hid (Q0.out.below h2)
        clear h2
        cases x
        · go_wp2_with fail
          (with_reducible refine (winWakes_any HP.out _).mono ?_); rintro e u3 ⟨rfl, h3⟩
          have Q6 := Lib.hid (Q5.out.below h3)
          go_wp2_with fail
          go_ret
          exact ⟨rfl, Q6.out.bp.bel⟩
        · go_wp2_with fail
          (with_reducible refine (winWakes_any HP.out _).mono ?_); rintro e u3 ⟨rfl, h3⟩
          have Q6 := Lib.hid (Q5.out.below h3)
          go_wp2_with fail
          go_ret
          exact ⟨rfl, Q6.out.bp.bel⟩
end Go.Proofs.Ytldfoadildaljaa
end
