/- RowTurns walked. -/
import Derived.Test.YtbojmofkhkegmaaRaai
import Derived.StillTailTactics
set_option linter.unusedVariables false
set_option linter.unusedSimpArgs false
namespace Go.Proofs.Ytbojmofkhkegmaa
open Go.RowKit

theorem xor_self_ne {x c : UInt8} (hc : c ≠ 0) : x ^^^ c ≠ x := fun h => hc (by
  have h2 : x ^^^ (x ^^^ c) = x ^^^ x := by rw [h]
  rwa [← UInt8.xor_assoc, UInt8.xor_self, UInt8.zero_xor] at h2)
theorem turn_right {n l c r : Int} {D F W : Nat} (h : Gr n l c r D F W) {rs : List (List UInt8)} (hl : rs.length = W) (ha : ∀ x ∈ rs, x.length = 32) {i k : Nat} (hi : i < D) (hk : k < 32) (y : UInt8) :
    roRight l (D : Int) c r ((fillL D F rs).set i (((fillL D F rs).getD i []).set k (((fillL D F rs).getD i []).getD k 0 ^^^ y))) = decide (y = 0) := by
  have hb := h.fills hl ha hi
  have hok := h.fok hl ha
  by_cases hy : y = 0
  · subst hy
    rw [decide_eq_true rfl, UInt8.xor_zero]
    have e : ((fillL D F rs).getD i []).set k (((fillL D F rs).getD i []).getD k 0) = (fillL D F rs).getD i [] := by
      generalize (fillL D F rs).getD i [] = b at hb
      apply List.ext_getElem (by simp)
      intro j h1 h2
      rw [List.getElem_set]
      split
      · subst_vars; simp [List.getD_eq_getElem?_getD, h2]
      · rfl
    rw [e, set_self (by rw [fillL_len]; exact hi)]
    have := row_right hok
    rwa [h.eD, h.eF] at this
  · rw [decide_eq_false hy]
    have := row_turned hok (i := i) (by rw [h.eD]; exact hi) (y := ((fillL D F rs).getD i []).set k (((fillL D F rs).getD i []).getD k 0 ^^^ y)) (by rw [List.length_set]; exact hb) (fun e => by
      rw [h.eD, h.eF] at e
      have e2 := congrArg (fun t : List UInt8 => t.getD k 0) e
      generalize (fillL D F rs).getD i [] = b at hb e2
      have e3 : (b.set k (b.getD k 0 ^^^ y)).getD k 0 = b.getD k 0 ^^^ y := by simp [List.getD_eq_getElem?_getD, hb, hk]
      exact xor_self_ne hy (e3.symm.trans e2))
    rwa [h.eD, h.eF] at this
set_option maxRecDepth 100000 in
set_option maxHeartbeats 3200000 in
theorem rowturns (n r0 : Int) (A : Option Addr) (zs : List Int) (cz : Nat) (d0 a0 : Int) (y : UInt8) (w : World) (hn : -9223372036854775808 ≤ n ∧ n ≤ 9223372036854775807) (hr0 : -9223372036854775808 ≤ r0 ∧ r0 ≤ 9223372036854775807) (hcz : zs.length ≤ cz) (hz : RdZ w w.heap.size A zs)
    (hd0 : -9223372036854775808 ≤ d0 ∧ d0 ≤ 9223372036854775807) (ha0 : -9223372036854775808 ≤ a0 ∧ a0 ≤ 9223372036854775807) :
    Calls Try.prog 4 #[.int .i64 n, .int .i64 r0, .slice A zs.length cz, .int .i64 d0, .int .i64 a0, .int .u8 (y.toNat : Int)] w fun e w' => e = .returned (.bool true) ∧ Below w.heap.size w w' := by
  have HP := Lib.hid (fun W => playGood_any n W hn)
  have CW1 := Lib.hid (fun W => within_any r0 16 W hr0 (by omega))
  have hrb := withinI_bd r0 16 (by omega)
  generalize withinI r0 16 = r at CW1 hrb
  obtain ⟨D, F, W, hD, gr⟩ := gr_of n hrb.1 hrb.2
  rw [hD] at HP
  clear hD
  have hd8 := gr.d8; have hd3 := gr.d3; have hw7 := gr.w7
  have CW2 := Lib.hid (fun V => within_any d0 (D : Int) V hd0 (by omega))
  have hib := withinI_bd d0 (D : Int) (by omega)
  obtain ⟨i, hi⟩ := Int.eq_ofNat_of_zero_le hib.1
  rw [hi] at CW2 hib
  have hiD : i < D := by omega
  have CW3 := Lib.hid (fun V => within_any a0 32 V ha0 (by omega))
  have hkb := withinI_bd a0 32 (by omega)
  obtain ⟨k, hk⟩ := Int.eq_ofNat_of_zero_le hkb.1
  rw [hk] at CW3 hkb
  have hk32 : k < 32 := by omega
  have HR := Lib.hid (fun V => refWidth_any (goL n) (D : Int) (goC n) V gr.l64 gr.d64 gr.c64)
  rw [gr.wd] at HR
  have hsl := sectorsB_len zs W
  have hsm := @sectorsB_mem zs W
  have CF := Lib.hid (fun (A' : Option Addr) cp V (h : RdR V V.heap.size A' (sectorsB zs W)) => gr.fill (cp := cp) h hsl hsm)
  have HT := Lib.hid (turn_right gr hsl hsm hiD hk32 y)
  have hbl := gr.fills hsl hsm hiD
  have hfl := fillL_len D F (sectorsB zs W)
  have CR := Lib.hid (fun (g : Nat) (xs : List (List UInt8)) V (hx : xs.length = D) (h : RdR V V.heap.size (some ⟨g, 0, none⟩) xs) => gr.right (cp := D) h hx)
  have hWk := Lib.hid (fun V => wakesRow_any V)
  generalize goL n = l at *
  generalize goC n = c at *
  have hW8 : W ≤ 8 := by omega
  generalize fillL D F (sectorsB zs W) = fl at CF HT hbl hfl
  have Hz := Lib.hid hz
  clear gr hi hk hn hr0 hd0 ha0 hz
  go_enter Try.func4, Try.ntmps4
  go_wp2_with fail
  (with_reducible refine (HP.out _).mono ?_); rintro e w1 ⟨rfl, hb1⟩
  have G := gat_new w1 l D c 23 (0, 0)
  go_wp2_with fail
  (with_reducible refine (CW1.out _).mono ?_); rintro e w2 ⟨rfl, rfl⟩
  have S0 : GS w w.heap.size w1.heap.size l D c (w1.alloc (.cells #[.int .i64 l, .int .i64 (D : Int), .int .i64 c] 23 (0, 0))) := ⟨G.1, G.2.1, G.2.2, hb1.alloc hb1.size _⟩
  clear G hb1
  go_wp2_with fail
  go_region_held3 (GS w w.heap.size w1.heap.size l D c)
    (first | assumption | exact GS.drew ‹_›)
    (first
      | (go_at_call 18; (with_reducible refine (HR.out _).mono ?_); rintro e w3 ⟨rfl, hb3⟩; have S3 := (GS.drew S0).later hb3; dsimp only)
      | (go_at_call 17; (with_reducible refine (sectors_rd rfl ((Hz.out.below S3.2.2.2 (Nat.le_refl _)).keep S3.2.2.2.size (fun _ _ => rfl)) hW8).mono ?_); rintro e w4 ⟨A4, c4, rfl, _, hrd4, hb4⟩; have S4 := S3.later hb4; dsimp only)
      | (go_at_call 10; (with_reducible refine (CF.out _ _ _ hrd4).mono ?_); rintro e w5 ⟨g, xs, rfl, hq, hb5⟩; have S5 := S4.later hb5; dsimp only))
  obtain ⟨g1, g2, g3, F5⟩ := S5
  have hs4 : w.heap.size ≤ w4.heap.size := S4.2.2.2.size
  have e1 : ((D : Int) != (D : Int)) = false := bne_self_eq_false _
  obtain ⟨A6, c6, hx6, z6, ho6⟩ := hq.at i hiD
  rw [hbl] at hx6 z6 ho6
  obtain ⟨q, c7, hv, _, _, _, _, _⟩ := ho6.pos (by omega)
  rw [hbl] at hv
  injection hv with hv1 _ hv2
  subst hv1 hv2
  have hgl : w1.heap.size < g := by
    have h1 := hq.glt.1
    have h2 := S4.1
    have h3 := World.block_lt_of_cell? _ _ h2
    have h4 : w1.heap.size < w4.heap.size := h3
    omega
  have hbq : w1.heap.size < q := by
    have h1 := (ho6.lt q rfl).1
    have h3 : w1.heap.size < w4.heap.size := World.block_lt_of_cell? _ _ S4.1
    omega
  have i0 : (0 : Int) ≤ (i : Int) := by omega
  have i1 : (i : Int) < (D : Int) := by omega
  have k0 : (0 : Int) ≤ (k : Int) := by omega
  have k1 : (k : Int) < 32 := by omega
  have hq5 := hq.below (Below.refl _ w5).drew
  have z6' : w5.drew.cell? ⟨g, i, none⟩ = some (.slice (some ⟨q, 0, none⟩) 32 c6) := z6
  obtain ⟨z7, f7⟩ := (hq5.own i _ hx6).cell hbl k hk32
  have ex := xor_u8 ((fl.getD i []).getD k 0) y
  obtain ⟨hput, hgr⟩ := hq5.put i hiD hx6 hbl k ((fl.getD i []).getD k 0 ^^^ y)
  have Gd : GAt w5.drew w1.heap.size l D c := ⟨g1, g2, g3⟩
  have hs5 : w1.heap.size < w5.heap.size := World.block_lt_of_cell? _ _ g1
  have Gp := Gd.grown hgr hs5 (by intro e; injection e with e; omega)
  have F6 := F5.drew.setCell (p := ⟨q, k, none⟩) (by show w.heap.size ≤ q; have := (ho6.lt q rfl).1; omega) (.int .u8 (((fl.getD i []).getD k 0 ^^^ y).toNat : Int))
  have hfl2 : (fl.set i ((fl.getD i []).set k ((fl.getD i []).getD k 0 ^^^ y))).length = D := by rw [List.length_set]; exact hfl
  have hput2 := hput.rdr (by omega)
  have CR1 := Lib.hid (CR.out g _ _ hfl2 hput2)
  rw [HT.out] at CR1
  have Hfin := Lib.hid (And.intro Gp F6)
  clear hput2 hfl2 Gp Gd F6 hput hgr hq5 hq ho6 S3 S4 S0 HR CF CR HT hrd4 hx6 hgl hbq hsl hsm HP CW1 hs4 F5
  generalize (fl.getD i []).getD k 0 = x at z7 ex CR1 Hfin
  generalize x ^^^ y = xy at ex CR1 Hfin
  go_wp2_with fail
  (with_reducible refine (CW2.out _).mono ?_); rintro e w6 ⟨rfl, rfl⟩
  go_wp2_with fail
  refine wp_region_still_tail 11 (by kernel_rfl) (by kernel_rfl) ?_
  simp only [List.take_succ_cons, List.take_zero, List.drop_succ_cons, List.drop_zero]
  change wpStill _ _ w6.drew _ _ _
  generalize hwd : w6.drew = wd at z6' z7 f7 CR1 Hfin ⊢
  have Hwd := Lib.hid hwd
  clear hwd
  repeat (first | still_step | (still_call (CW3.out _)))
  refine wpStill_nil ?_
  change wpList _ _ _ _ _ w6.drew
  rw [Hwd.out]
  have Hgo : Hid (∃ v : Bool, decide (y = 0) = v ∧ ((y.toNat : Int) == 0) = v) := Lib.hid (by
    by_cases hy : y = 0
    · subst hy; exact ⟨true, decide_eq_true rfl, rfl⟩
    · refine ⟨false, decide_eq_false hy, ?_⟩
      rw [beq_eq_false_iff_ne]
      intro e
      exact hy (UInt8.toNat_inj.1 (by simpa using e)))
  obtain ⟨v, hv1, hv2⟩ := Hgo.out
  rw [hv1] at CR1
  clear Hgo hv1
  obtain ⟨⟨p1, p2, p3⟩, F7⟩ := Hfin.out
  clear Hfin
  cases v
  · go_wp2_with fail
    (with_reducible refine CR1.out.mono ?_); rintro e w7 ⟨rfl, hb7⟩
    have F8 := F7.trans (hb7.mono F7.size)
    clear hb7 F7
    go_wp2_with fail
    (with_reducible refine (hWk.out _).mono ?_); rintro e w8 ⟨rfl, hb8⟩
    go_wp2
    go_ret
    exact ⟨rfl, F8.trans (hb8.mono F8.size)⟩
  · go_wp2_with fail
    (with_reducible refine CR1.out.mono ?_); rintro e w7 ⟨rfl, hb7⟩
    have F8 := F7.trans (hb7.mono F7.size)
    clear hb7 F7
    go_wp2_with fail
    (with_reducible refine (hWk.out _).mono ?_); rintro e w8 ⟨rfl, hb8⟩
    go_wp2
    go_ret
    exact ⟨rfl, F8.trans (hb8.mono F8.size)⟩
end Go.Proofs.Ytbojmofkhkegmaa
