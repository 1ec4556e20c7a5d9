/- Texts put together: RbdCut, ScrubErrorsLaw. -/
import Derived.Test.YtadmofpipfdedaaSebg
import Derived.Test.YtadmofpipfdedaaSeav
import Derived.Test.YtadmofpipfdedaaSebd
import Derived.Test.YtadmofpipfdedaaSeag
section
set_option maxRecDepth 20000
set_option linter.unusedVariables false
set_option linter.unusedSimpArgs false
namespace Go.Proofs.Ytadmofpipfdedaa
open Go.RowKit

section
variable {W w : World} {b : Nat} {H : BH} {N : Bch} {K : List (Nat × Obj)} {R : List (Option Addr × List (List UInt8))} {S : List (Option Addr × List UInt8)}
end
theorem limit_all {N : Bch} {v : Int} (hd : N.down = false) (hv : 0 ≤ v) : (N.limit v).n = N.n ∧ (N.limit v).down = false ∧ (N.limit v).D = N.D ∧ (N.limit v).done = N.done ∧ (N.limit v).left = v := by
  have e : N.limit v = { N with left := max v (-1) } := if_neg (by rw [hd]; simp)
  rw [e]
  exact ⟨rfl, hd, rfl, rfl, by show max v (-1) = v; omega⟩
section
variable {N M : Bch} {m k : Nat} {G : RG} {zs : List Int} {lv : List Bool}
end
end Go.Proofs.Ytadmofpipfdedaa
end
section
set_option maxRecDepth 100000
set_option linter.unusedVariables false
set_option linter.unusedSimpArgs false
namespace Go.Proofs.Ytadmofpipfdedaa
open Go.RowKit

/-- A write that finds no power. -/
theorem write_dead {M : Bch} {d a : Nat} {x : List UInt8} (hd : d < M.n) (ha : a < 52) (hx : x.length = 32) (hf : (M.D d).f = false) (hdn : M.down = false) (h0 : M.left = 0) : (M.write (d : Int) (a : Int) x).n = M.n ∧ (M.write (d : Int) (a : Int) x).down = true := by
  rcases write_or hd ha hx hf hdn with ⟨h, _⟩ | ⟨_, h1, _, h2, _⟩
  · have hp : M.powE (d : Int) = 0 := Bch.powE_ok (Bch.pickE_ok (by omega) (by omega)) hdn
    have ht : takeE (M.at_ (d : Int)).f (a : Int) x.length = 0 := by
      rw [hx, show (M.at_ (d : Int)).f = false from hf]; exact takeE_ok (by omega) (by omega)
    unfold Bch.writeE Bch.countE at h
    rw [if_neg (show ¬ M.powE (d : Int) ≠ 0 by simp [hp]), if_neg (fun e => e ht), if_pos h0] at h
    omega
  · exact ⟨h1, h2⟩
/-- The table: four pairs that may not be. -/
def seT (l d c l' d' c' k : Int) (j : Nat) : RG := [(⟨0, 0, 0, l', d', c', 4⟩ : RG), ⟨l, d, c, 0, 0, 0, 4⟩, ⟨l, d, c, l', d', c', -k⟩, ⟨l, d, c, l', d', c', 16 + k⟩].getD j ⟨0, 0, 0, 0, 0, 0, 0⟩
def seV (t : RG) : List Value := [.int .i64 t.l, .int .i64 t.d, .int .i64 t.c, .int .i64 t.l', .int .i64 t.d', .int .i64 t.c', .int .i64 t.s]
theorem seT_no {l d c l' d' c' k : Int} (hk : 1 ≤ k) {j : Nat} (hj : j < 4) : (seT l d c l' d' c' k j).ok = false := by
  match j, hj with
  | 0, _ => rfl
  | 1, _ => show (gOk l d c && _) = false; cases gOk l d c <;> rfl
  | 2, _ =>
    show (gOk l d c && (decide (0 ≤ -k) && _)) = false
    rw [decide_eq_false (by omega)]; simp
  | 3, _ =>
    show (gOk l d c && (decide (0 ≤ 16 + k) && (decide (16 + k ≤ 16) && _))) = false
    rw [decide_eq_false (show ¬ 16 + k ≤ 16 by omega)]; simp
theorem seT_64 {l d c l' d' c' k : Int} (h : ((-9223372036854775808 ≤ l ∧ l ≤ 9223372036854775807) ∧ (-9223372036854775808 ≤ d ∧ d ≤ 9223372036854775807) ∧ (-9223372036854775808 ≤ c ∧ c ≤ 9223372036854775807)) ∧ ((-9223372036854775808 ≤ l' ∧ l' ≤ 9223372036854775807) ∧ (-9223372036854775808 ≤ d' ∧ d' ≤ 9223372036854775807) ∧ (-9223372036854775808 ≤ c' ∧ c' ≤ 9223372036854775807))) (hk : 1 ≤ k ∧ k ≤ 1000) {j : Nat} (hj : j < 4) : RG64 (seT l d c l' d' c' k j) := by
  match j, hj with
  | 0, _ => exact ⟨(show (-9223372036854775808 : Int) ≤ 0 ∧ (0 : Int) ≤ 9223372036854775807 by decide), (show (-9223372036854775808 : Int) ≤ 0 ∧ (0 : Int) ≤ 9223372036854775807 by decide), (show (-9223372036854775808 : Int) ≤ 0 ∧ (0 : Int) ≤ 9223372036854775807 by decide), h.2.1, h.2.2.1, h.2.2.2, (show (-9223372036854775808 : Int) ≤ 4 ∧ (4 : Int) ≤ 9223372036854775807 by decide)⟩
  | 1, _ => exact ⟨h.1.1, h.1.2.1, h.1.2.2, (show (-9223372036854775808 : Int) ≤ 0 ∧ (0 : Int) ≤ 9223372036854775807 by decide), (show (-9223372036854775808 : Int) ≤ 0 ∧ (0 : Int) ≤ 9223372036854775807 by decide), (show (-9223372036854775808 : Int) ≤ 0 ∧ (0 : Int) ≤ 9223372036854775807 by decide), (show (-9223372036854775808 : Int) ≤ 4 ∧ (4 : Int) ≤ 9223372036854775807 by decide)⟩
  | 2, _ => exact ⟨h.1.1, h.1.2.1, h.1.2.2, h.2.1, h.2.2.1, h.2.2.2, by show _ ≤ -k ∧ -k ≤ _; omega⟩
  | 3, _ => exact ⟨h.1.1, h.1.2.1, h.1.2.2, h.2.1, h.2.2.1, h.2.2.2, by show _ ≤ 16 + k ∧ 16 + k ≤ _; omega⟩
theorem seT_cells {w : World} {g : Nat} {l d c l' d' c' k : Int} {t : TypeId} {f : Nat × Nat} (h : w.heap[g]? = some (.cells #[.int .i64 0, .int .i64 0, .int .i64 0, .int .i64 l', .int .i64 d', .int .i64 c', .int .i64 4, .int .i64 l, .int .i64 d, .int .i64 c, .int .i64 0, .int .i64 0, .int .i64 0, .int .i64 4, .int .i64 l, .int .i64 d, .int .i64 c, .int .i64 l', .int .i64 d', .int .i64 c', .int .i64 (-k), .int .i64 l, .int .i64 d, .int .i64 c, .int .i64 l', .int .i64 d', .int .i64 c', .int .i64 (16 + k)] t f)) {j : Nat} (hj : j < 4) :
    w.cell? ⟨g, j * 7, none⟩ = some (.int .i64 (seT l d c l' d' c' k j).l) ∧ w.cell? ⟨g, j * 7 + 1, none⟩ = some (.int .i64 (seT l d c l' d' c' k j).d) ∧ w.cell? ⟨g, j * 7 + 2, none⟩ = some (.int .i64 (seT l d c l' d' c' k j).c) ∧ w.cell? ⟨g, j * 7 + 3, none⟩ = some (.int .i64 (seT l d c l' d' c' k j).l') ∧ w.cell? ⟨g, j * 7 + 4, none⟩ = some (.int .i64 (seT l d c l' d' c' k j).d') ∧ w.cell? ⟨g, j * 7 + 5, none⟩ = some (.int .i64 (seT l d c l' d' c' k j).c') ∧ w.cell? ⟨g, j * 7 + 6, none⟩ = some (.int .i64 (seT l d c l' d' c' k j).s) := by
  have c4 := fun i => cell_of_row w g i _ _ _ h
  match j, hj with
  | 0, _ => exact ⟨c4 0, c4 1, c4 2, c4 3, c4 4, c4 5, c4 6⟩
  | 1, _ => exact ⟨c4 7, c4 8, c4 9, c4 10, c4 11, c4 12, c4 13⟩
  | 2, _ => exact ⟨c4 14, c4 15, c4 16, c4 17, c4 18, c4 19, c4 20⟩
  | 3, _ => exact ⟨c4 21, c4 22, c4 23, c4 24, c4 25, c4 26, c4 27⟩
set_option maxHeartbeats 3200000 in
theorem scruberrors (m n kz : Int) (A : Option Addr) (zl : List Int) (cl : Nat) (w : World) (hm : (-9223372036854775808 ≤ m ∧ m ≤ 9223372036854775807)) (hn : (-9223372036854775808 ≤ n ∧ n ≤ 9223372036854775807)) (hkz : (-9223372036854775808 ≤ kz ∧ kz ≤ 9223372036854775807)) (hcl : zl.length ≤ cl) (hzl : RdZ w w.heap.size A zl) :
    Calls Try.prog 7 #[.int .i64 m, .int .i64 n, .int .i64 kz, .slice A zl.length cl] w fun e w' => e = .returned (.bool true) ∧ Below w.heap.size w w' := by
  have hpn := ptr_eq
  have CP := Lib.hid (fun V => playPair_can m n V hm hn)
  have bk := withinI_bd kz 100 (by omega)
  have CK := Lib.hid (fun V => within_any kz 100 V hkz (by omega))
  generalize withinI kz 100 = kq at bk CK
  have Hz := Lib.hid hzl
  clear hzl
  go_enter Try.func7, Try.ntmps7
  go_wp2_with fail
  (with_reducible refine (CP.out _).mono ?_); rintro e w1 ⟨l, dd, c, l', d', c', rfl, hc, hb⟩
  obtain ⟨hg1, hg2, _, hdd, hll, _⟩ := gCan_parts hc
  have hb1 := gOk_bd hg1
  have hb2 := gOk_bd hg2
  obtain ⟨D, rfl⟩ := Int.eq_ofNat_of_zero_le (show 0 ≤ dd by omega)
  obtain ⟨D', rfl⟩ := Int.eq_ofNat_of_zero_le (show 0 ≤ d' by omega)
  have hDD : D ≤ D' := by omega
  have B2 := below2 w1 (.cells #[.int .i64 l, .int .i64 (D : Int), .int .i64 c] 25) (.cells #[.int .i64 l', .int .i64 (D' : Int), .int .i64 c'] 25)
  have hB12 := hb.trans (B2.mono hb.size)
  have HB := Lib.hid hB12
  have O1 := Lib.hid (show ((w1.alloc (.cells #[.int .i64 l, .int .i64 (D : Int), .int .i64 c] 25)).alloc (.cells #[.int .i64 l', .int .i64 (D' : Int), .int .i64 c'] 25)).heap[w1.heap.size]? = some (Obj.cells #[.int .i64 l, .int .i64 (D : Int), .int .i64 c] 25 (0, 0)) from (hp_old _ _ _ (by simp)).trans (hp_new _ _ _ rfl))
  have O2 := Lib.hid (show ((w1.alloc (.cells #[.int .i64 l, .int .i64 (D : Int), .int .i64 c] 25)).alloc (.cells #[.int .i64 l', .int .i64 (D' : Int), .int .i64 c'] 25)).heap[w1.heap.size + 1]? = some (Obj.cells #[.int .i64 l', .int .i64 (D' : Int), .int .i64 c'] 25 (0, 0)) from hp_new _ _ _ (by simp))
  have hw1 := hb.size
  obtain ⟨G, hGd⟩ : ∃ G : RG, G = ⟨l, (D : Int), c, l', (D' : Int), c', 4⟩ := ⟨_, rfl⟩
  have hG : G.ok = true := by rw [hGd]; exact RG.ok_mk hg1 (show (0 : Int) ≤ 4 by decide) (show (4 : Int) ≤ 16 by decide) (.inr hg2)
  have h64 : RG64 G := by rw [hGd]; exact rg64_3 ⟨⟨by omega, by omega, by omega⟩, ⟨by omega, by omega, by omega⟩, (show (-9223372036854775808 : Int) ≤ 4 ∧ (4 : Int) ≤ 9223372036854775807 by decide)⟩
  have hle : ∀ t, t < 16 → G.D t ≤ (D' : Int) := fun t _ => by
    rw [hGd]; unfold RG.D rg; dsimp only; split <;> omega
  have CB := both_any G hG h64 D' hle (by omega) (by omega) A zl zl.length cl ((w1.alloc (.cells #[.int .i64 l, .int .i64 (D : Int), .int .i64 c] 25)).alloc (.cells #[.int .i64 l', .int .i64 (D' : Int), .int .i64 c'] 25)) rfl hcl ((Hz.out.below HB.out (Nat.le_refl _)).keep HB.out.size fun _ _ => rfl)
  have HGe := Lib.hid (show (((G.l = l ∧ G.d = (D : Int)) ∧ G.c = c) ∧ (G.l' = l' ∧ G.d' = (D' : Int)) ∧ G.c' = c') ∧ G.s = 4 from by rw [hGd]; exact ⟨⟨⟨⟨rfl, rfl⟩, rfl⟩, ⟨rfl, rfl⟩, rfl⟩, rfl⟩)
  rw [HGe.out.1.1.1.1, HGe.out.1.1.1.2, HGe.out.1.1.2, HGe.out.1.2.1.1, HGe.out.1.2.1.2, HGe.out.1.2.2, HGe.out.2] at CB
  have CB := Lib.hid CB
  have HG := Lib.hid hG
  have H64 := Lib.hid h64
  have Hle := Lib.hid hle
  clear CP hc B2 hb hB12 hGd hG h64 hle
  go_wp2_with fail
  (with_reducible refine CB.out.mono ?_); rintro e w2 ⟨b, H, N, rfl, kb, fb⟩
  have k0 := kb.open2 HB.out O1.out O2.out hw1 (by omega)
  have K0 := Lib.hid k0
  have Fb0 := Lib.hid fb
  have hNn := fb.gd.n
  obtain ⟨g1, g2, g3⟩ := k0.gat (g := w1.heap.size) (l := l) (d := (D : Int)) (c := c) (t := 25) (f := (0, 0)) (by simp)
  obtain ⟨g4, g5, g6⟩ := k0.gat (g := w1.heap.size + 1) (l := l') (d := (D' : Int)) (c := c') (t := 25) (f := (0, 0)) (by simp)
  clear kb fb k0 CB HB O1 O2 hw1
  have CL := Lib.hid (ks_live K0.out 0 D' (by omega) (by omega))
  clear K0
  go_wp2_with fail
  (with_reducible refine CL.out.mono ?_); rintro e w3 ⟨gl, rfl, k1⟩
  have K1 := Lib.hid k1
  clear g1 g2 g3 g4 g5 g6
  clear CL
  obtain ⟨g1, g2, g3⟩ := k1.gat (g := w1.heap.size) (l := l) (d := (D : Int)) (c := c) (t := 25) (f := (0, 0)) (by simp)
  obtain ⟨g4, g5, g6⟩ := k1.gat (g := w1.heap.size + 1) (l := l') (d := (D' : Int)) (c := c') (t := 25) (f := (0, 0)) (by simp)
  clear k1
  go_wp2_with fail
  (with_reducible refine (CK.out _).mono ?_); rintro e w4 ⟨rfl, h4⟩
  have hw4 := h4.symm
  subst hw4
  clear h4 CK
  obtain ⟨k, hkd⟩ : ∃ k : Int, 1 + kq = k := ⟨_, rfl⟩
  have hk1 : 1 ≤ k ∧ k ≤ 1000 := by omega
  have k2 := K1.out.add (.cells #[.int .i64 0, .int .i64 0, .int .i64 0, .int .i64 l', .int .i64 (D' : Int), .int .i64 c', .int .i64 4, .int .i64 l, .int .i64 (D : Int), .int .i64 c, .int .i64 0, .int .i64 0, .int .i64 0, .int .i64 4, .int .i64 l, .int .i64 (D : Int), .int .i64 c, .int .i64 l', .int .i64 (D' : Int), .int .i64 c', .int .i64 (-k), .int .i64 l, .int .i64 (D : Int), .int .i64 c, .int .i64 l', .int .i64 (D' : Int), .int .i64 c', .int .i64 (16 + k)] 58)
  have K2 := Lib.hid k2
  clear k2 K1
  have Hno := Lib.hid (fun (j : Nat) (hj : j < 4) => seT_no (l := l) (d := (D : Int)) (c := c) (l' := l') (d' := (D' : Int)) (c' := c') hk1.1 hj)
  have H6n := Lib.hid (fun (j : Nat) (hj : j < 4) => seT_64 (l := l) (d := (D : Int)) (c := c) (l' := l') (d' := (D' : Int)) (c' := c') ⟨⟨by omega, by omega, by omega⟩, ⟨by omega, by omega, by omega⟩⟩ hk1 hj)
  have hl0 : (liveL 0 D').length = D' := liveL_len _ _
  go_wp2_with fail
  clear g1 g2 g3 g4 g5 g6
  clear hkd
  go_loopw [59] (fun i wr => ∃ j : Nat, j ≤ 4 ∧ i = .int .i64 j ∧ KS w wr b H N ((w3.heap.size, .cells #[.int .i64 0, .int .i64 0, .int .i64 0, .int .i64 l', .int .i64 (D' : Int), .int .i64 c', .int .i64 4, .int .i64 l, .int .i64 (D : Int), .int .i64 c, .int .i64 0, .int .i64 0, .int .i64 0, .int .i64 4, .int .i64 l, .int .i64 (D : Int), .int .i64 c, .int .i64 l', .int .i64 (D' : Int), .int .i64 c', .int .i64 (-k), .int .i64 l, .int .i64 (D : Int), .int .i64 c, .int .i64 l', .int .i64 (D' : Int), .int .i64 c', .int .i64 (16 + k)] 58) :: [(gl, Obj.cells ((liveL 0 D').map Value.bool).toArray 4 (0, 0)), (w1.heap.size, Obj.cells #[.int .i64 l, .int .i64 (D : Int), .int .i64 c] 25 (0, 0)), (w1.heap.size + 1, Obj.cells #[.int .i64 l', .int .i64 (D' : Int), .int .i64 c'] 25 (0, 0))]) [] []) (fun i _ => 4 - (intOf i).toNat)
  case atStart => exact ⟨0, by omega, rfl, K2.out⟩
  case round =>
    obtain ⟨j, hj, rfl, kr⟩ := hrel
    have KR := Lib.hid kr
    clear K2
    by_cases hlt : j < 4
    · have i0 : (0 : Int) ≤ (j : Int) := by omega
      have i1 : (j : Int) < 4 := by omega
      have hT := (kr.kx.kp _ (List.mem_cons_self ..)).1
      dsimp only at hT
      obtain ⟨h1, h2, h3, h4, h5, h6, h7⟩ := seT_cells hT hlt
      have htl := (Array.getElem?_eq_some_iff.1 hT).1
      have hok := Hno.out j hlt
      have h64 := H6n.out j hlt
      generalize seT l D c l' D' c' k j = t at h1 h2 h3 h4 h5 h6 h7 hok h64
      have kr2 := kr.below (below1 wr (.cells (seV t).toArray 58))
      have CR := Lib.hid (ks_scrub_no kr2 (liveL 0 D') (some ⟨gl, 0, none⟩) D' D' hl0.symm (kr2.lv (g := gl) (lv := liveL 0 D') (t := 4) (f := (0, 0)) (by simp) rfl (by omega)) t h64 (scE_bad hok) (by decide))
      unfold seV at CR
      clear kr hT hok h64 kr2
      go_wp2_with fail
      (with_reducible refine CR.out.mono ?_); rintro e w6 ⟨A6, c6, rfl, k6, _⟩
      have K6 := Lib.hid k6
      clear k6 CR KR
      go_wp2_with fail
      go_roundw
      case rel => exact ⟨j + 1, by omega, by go_num, K6.out⟩
      case measure => simp [intOf]; omega
    · obtain rfl : j = 4 := by omega
      obtain ⟨g1, g2, g3⟩ := kr.gat (g := w1.heap.size) (l := l) (d := (D : Int)) (c := c) (t := 25) (f := (0, 0)) (by simp)
      obtain ⟨g4, g5, g6⟩ := kr.gat (g := w1.heap.size + 1) (l := l') (d := (D' : Int)) (c := c') (t := 25) (f := (0, 0)) (by simp)
      have gd := Fb0.out.gd
      have CR := ks_scrub_is kr (liveL 0 D') (some ⟨gl, 0, none⟩) D' D' hl0.symm (kr.lv (g := gl) (lv := liveL 0 D') (t := 4) (f := (0, 0)) (by simp) rfl (by omega)) G H64.out HG.out gd.dn (P := fun _ => false) (fun r hr => (Spo.good (rs := rsZ G zl) HG.out (rows_dat G zl) hr fun i hi => Fb0.out.st Hle.out HG.out hr (by omega)).told HG.out (rows_dat G zl) hr fun i hi => srvD_mk (by rw [gd.n]; have := Hle.out r hr; omega) (live0 (by have := Hle.out r hr; omega)) (gd.f i (by have := Hle.out r hr; omega)))
      rw [show fltN (fun _ => false) 16 = [] from rfl, show ([] : List Nat).length = 0 from rfl, HGe.out.1.1.1.1, HGe.out.1.1.1.2, HGe.out.1.1.2, HGe.out.1.2.1.1, HGe.out.1.2.1.2, HGe.out.1.2.2, HGe.out.2] at CR
      replace CR := Lib.hid CR
      have Gd := Lib.hid gd
      clear kr gd KR Hno H6n
      go_wp2_with fail
      (with_reducible refine CR.out.mono ?_); rintro e w6 ⟨A6, c6, rfl, _, k6, _⟩
      have K6 := Lib.hid k6
      have CWr := bp_writes w w6 b H N k6.bp
      rw [Gd.out.done] at CWr
      replace CWr := Lib.hid CWr
      have CPd := bp_pending_eq w w6 b H N k6.bp (fun i hi => by rw [Gd.out.ps i (by rw [← Gd.out.n]; exact hi)]; exact Nat.zero_le _)
      rw [pend_zero fun i hi => Gd.out.ps i (by rw [← Gd.out.n]; exact hi)] at CPd
      replace CPd := Lib.hid CPd
      clear g1 g2 g3 g4 g5 g6
      clear k6 CR
      go_wp2_with fail
      (with_reducible refine CWr.out.mono ?_); rintro e w7 ⟨rfl, h7⟩
      have hw7 := h7.symm
      subst hw7
      clear h7
      go_wp2_with fail
      (with_reducible refine CPd.out.mono ?_); rintro e w7 ⟨rfl, h7⟩
      have hw7 := h7.symm
      subst hw7
      clear h7 CWr CPd
      have CLm := Lib.hid (ks_limit K6.out 0 ⟨by omega, by omega⟩)
      go_wp2_with fail
      (with_reducible refine CLm.out.mono ?_); rintro e w7 ⟨rfl, H7, k7⟩
      have HL := Lib.hid (limit_all (v := 0) Gd.out.dn (by omega))
      generalize N.limit 0 = N7 at k7 HL
      have K7 := Lib.hid k7
      clear k7 CLm K6
      have CSc := Lib.hid (sector_any k w7 (by omega))
      go_wp2_with fail
      (with_reducible refine CSc.out.mono ?_); rintro e w8 ⟨g8, rfl, ho8, hb8⟩
      have k8 := K7.out.below hb8
      obtain ⟨_, _, e3, _, hr8⟩ := ho8.rd
      injection e3 with e4 e5 e6
      subst e4 e6
      have CWt := bp_write w w8 b H7 N7 k8.bp 0 0 (sectorB k) _ 32 32 (sectorB_len k).symm ⟨by omega, by omega⟩ ⟨by omega, by omega⟩ hr8 (fun i hi => by rw [HL.out.2.2.1, Gd.out.ps i (by rw [HL.out.1, Gd.out.n] at hi; exact hi)]; exact Nat.zero_le _) (by rw [HL.out.2.2.2.1, Gd.out.done]; omega)
      have CWt := Lib.hid CWt
      have hdw := write_dead (M := N7) (d := 0) (a := 0) (x := sectorB k) (by rw [HL.out.1, hNn]; omega) (by omega) (sectorB_len k) (by rw [HL.out.2.2.1]; exact Gd.out.f 0 (by omega)) HL.out.2.1 HL.out.2.2.2.2
      have hdn : (N7.write 0 0 (sectorB k)).n = D' ∧ (N7.write 0 0 (sectorB k)).down = true := ⟨hdw.1.trans (HL.out.1.trans hNn), hdw.2⟩
      have K8 := Lib.hid k8
      clear k8 ho8 hr8 hb8 CSc K7 e5 hdw
      go_wp2_with fail
      (with_reducible refine CWt.out.mono ?_); rintro e w9 ⟨rfl, ht⟩
      obtain ⟨H9, k9⟩ := K8.out.bc ht (by rw [hdn.1, HL.out.1, hNn])
      have hdD := hdn.2
      generalize N7.write 0 0 (sectorB k) = N9 at k9 hdD
      have K9 := Lib.hid k9
      have CR := ks_scrub_no k9 (liveL 0 D') (some ⟨gl, 0, none⟩) D' D' hl0.symm (k9.lv (g := gl) (lv := liveL 0 D') (t := 4) (f := (0, 0)) (by simp) rfl (by omega)) G H64.out (scE_down HG.out hdD) (by decide)
      rw [HGe.out.1.1.1.1, HGe.out.1.1.1.2, HGe.out.1.1.2, HGe.out.1.2.1.1, HGe.out.1.2.1.2, HGe.out.1.2.2, HGe.out.2] at CR
      replace CR := Lib.hid CR
      obtain ⟨g1, g2, g3⟩ := k9.gat (g := w1.heap.size) (l := l) (d := (D : Int)) (c := c) (t := 25) (f := (0, 0)) (by simp)
      obtain ⟨g4, g5, g6⟩ := k9.gat (g := w1.heap.size + 1) (l := l') (d := (D' : Int)) (c := c') (t := 25) (f := (0, 0)) (by simp)
      clear ht K8 CWt hdn k9 hdD
      go_wp2_with fail
      (with_reducible refine CR.out.mono ?_); rintro e w10 ⟨A10, c10, rfl, k10, _⟩
      have HF := Lib.hid k10.bp.bel
      clear g1 g2 g3 g4 g5 g6
      clear k10 CR
      have CW := Lib.hid (scrWakes_any w10)
      go_wp2_with fail
      (with_reducible refine CW.out.mono ?_); rintro e w12 ⟨rfl, hb12⟩
      have F12 := HF.out.trans (hb12.mono HF.out.size)
      clear hb12
      go_wp2_with fail
      go_ret
      exact ⟨rfl, F12⟩
end Go.Proofs.Ytadmofpipfdedaa
end
