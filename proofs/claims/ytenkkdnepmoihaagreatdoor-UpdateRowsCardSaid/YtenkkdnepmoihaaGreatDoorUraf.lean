/- Texts put together: PlaceDisk, GfInv, Erase, Solve, RowFill, RowTake, Str. -/
import Derived.Test.YtenkkdnepmoihaaGreatDoorUrae
import Derived.Test.YtenkkdnepmoihaaGreatDoorUrac
import Derived.Test.YtenkkdnepmoihaaGreatDoorUrad
import Derived.Test.YtenkkdnepmoihaaGreatDoorUrab
import Derived.Laws.BytesArg
import Derived.Laws.BytesString
import Derived.Lib.ConvBytes
section
set_option linter.unusedVariables false
set_option linter.unusedSimpArgs false
namespace Go.Proofs.YtenkkdnepmoihaaGreatDoor
open Go.RowKit

theorem first_any (l d c r : Int) (w : World) (HT : Hid (plOk l d c r = true)) (hl : (-9223372036854775808 ≤ l ∧ l ≤ 9223372036854775807)) (hd : (-9223372036854775808 ≤ d ∧ d ≤ 9223372036854775807)) (hc : (-9223372036854775808 ≤ c ∧ c ≤ 9223372036854775807)) (hr : (-9223372036854775808 ≤ r ∧ r ≤ 9223372036854775807)) :
    Calls Tryz.prog 114 #[.agg #[.int .i64 l, .int .i64 d, .int .i64 c], .int .i64 r] w fun e w' => e = .returned (.int .i64 (plF l d c r)) ∧ Below w.heap.size w w' := by
  have G := gat_new w l d c 24 (0, 0)
  obtain ⟨hg, h0, h1⟩ := plOk_yes HT.out
  have hb6 := gOk_bd hg
  have n1 : ¬ d = 0 := by omega
  have n2 : ¬ c = 0 := by omega
  have hq := quo_bd 16 h0 h1 (show 1 ≤ c by omega)
  have hm := rem_bd (r / c) (show 1 ≤ d by omega)
  have HC := Lib.hid (fun W => parity_any l d c r W hl hd hc hr)
  have HB := Lib.hid (fun W => budget_any l d c W hl hd hc)
  have HF : Hid (plF l d c r = (plP l d c r + gBud l d c) % d) := by rw [plP_yes HT.out, gBud_yes hg]; rfl
  have hp : 0 ≤ plP l d c r ∧ plP l d c r < d := by rw [plP_yes HT.out]; omega
  have hbd := gBud_bd l d c
  generalize plP l d c r = p at HC HF hp
  generalize plQ l d c r = q at HC
  generalize gBud l d c = bd at HB HF hbd
  have z1 : IntKind.i64.wrap (p + bd) = p + bd := IntWalk.i64_in _ (by omega)
  clear hg hq hm h0 h1
  go_enter Tryz.func114, Tryz.ntmps114
  go_wp2_with fail
  (with_reducible refine (HC.out _).mono ?_); rintro e w1 ⟨rfl, hb⟩
  have S1 := GS.later (w0 := w) (B := w.heap.size) ⟨G.1, G.2.1, G.2.2, below1 w _⟩ hb
  clear hb G
  obtain ⟨g1, g2, g3, F⟩ := S1
  go_wp2_with fail
  have S0 : GS w w.heap.size w.heap.size l d c w1 := ⟨g1, g2, g3, F⟩
  clear g1 g2 g3 F
  go_region_held3 (GS w w.heap.size w.heap.size l d c)
    (first | assumption | exact GS.drew ‹_›)
    ((go_at_call 113; (with_reducible refine (HB.out _).mono ?_); rintro e w2 ⟨rfl, hb⟩; have S2 := (GS.drew S0).later hb))
  go_wp2
  go_ret
  exact ⟨by rw [HF.out, ← Int.tmod_eq_emod_of_nonneg (show 0 ≤ p + bd by omega)]; rfl, S2.2.2.2⟩
theorem number_any (l d c r k : Int) (w : World) (HT : Hid (plOk l d c r = true)) (hk : 0 ≤ k ∧ k < 8) (hl : (-9223372036854775808 ≤ l ∧ l ≤ 9223372036854775807)) (hd : (-9223372036854775808 ≤ d ∧ d ≤ 9223372036854775807)) (hc : (-9223372036854775808 ≤ c ∧ c ≤ 9223372036854775807)) (hr : (-9223372036854775808 ≤ r ∧ r ≤ 9223372036854775807)) :
    Calls Tryz.prog 84 #[.agg #[.int .i64 l, .int .i64 d, .int .i64 c], .int .i64 r, .int .i64 k] w fun e w' => e = .returned (.int .i64 (plN l d c r k)) ∧ Below w.heap.size w w' := by
  have G := gat_new w l d c 24 (0, 0)
  obtain ⟨hg, h0, h1⟩ := plOk_yes HT.out
  have hb6 := gOk_bd hg
  have n1 : ¬ d = 0 := by omega
  have n2 : ¬ c = 0 := by omega
  have hq := quo_bd 16 h0 h1 (show 1 ≤ c by omega)
  have hm := rem_bd r (show 1 ≤ c by omega)
  have HW := Lib.hid (fun W => width_any l d c W hl hd hc)
  have HN : Hid (plN l d c r k = (r / c * gWid l d c + k) * c + r % c) := by rw [gWid_yes hg]; rfl
  have hw := gWid_bd l d c
  generalize gWid l d c = wd at HW HN hw
  have hx : 0 ≤ r / c * wd ∧ r / c * wd ≤ 112 := ⟨Int.mul_nonneg hq.1 hw.1, by
    have := Int.mul_le_mul (show r / c ≤ 16 by omega) hw.2 hw.1 (by omega)
    omega⟩
  have hy : 0 ≤ (r / c * wd + k) * c ∧ (r / c * wd + k) * c ≤ 120 * 4 := ⟨Int.mul_nonneg (by omega) (by omega), Int.mul_le_mul (by omega) (by omega) (by omega) (by omega)⟩
  have z1 : IntKind.i64.wrap (r / c * wd) = r / c * wd := IntWalk.i64_in _ (by omega)
  have z2 : IntKind.i64.wrap (r / c * wd + k) = r / c * wd + k := IntWalk.i64_in _ (by omega)
  have z3 : r.tdiv c = r / c := Int.tdiv_eq_ediv_of_nonneg h0
  clear hg
  go_enter Tryz.func84, Tryz.ntmps84
  go_wp2_with fail
  have S0 : GS w w.heap.size w.heap.size l d c (w.alloc (.cells #[.int .i64 l, .int .i64 d, .int .i64 c] 24 (0, 0))) := ⟨G.1, G.2.1, G.2.2, below1 w _⟩
  clear G
  go_region_held3 (GS w w.heap.size w.heap.size l d c)
    (first | assumption | exact GS.drew ‹_›)
    ((go_at_call 80; (with_reducible refine (HW.out _).mono ?_); rintro e w2 ⟨rfl, hb⟩; have S2 := (GS.drew S0).later hb))
  obtain ⟨g1, g2, g3, F⟩ := S2
  go_wp2_with fail
  go_quiet (fail)
  go_wp2
  go_ret
  exact ⟨by rw [HN.out]; rfl, F.trans (belowN _ _ _)⟩
theorem disk_any (l d c r k : Int) (w : World) (hl : (-9223372036854775808 ≤ l ∧ l ≤ 9223372036854775807)) (hd : (-9223372036854775808 ≤ d ∧ d ≤ 9223372036854775807)) (hc : (-9223372036854775808 ≤ c ∧ c ≤ 9223372036854775807)) (hr : (-9223372036854775808 ≤ r ∧ r ≤ 9223372036854775807)) (hk : (-9223372036854775808 ≤ k ∧ k ≤ 9223372036854775807)) :
    Calls Tryz.prog 81 #[.agg #[.int .i64 l, .int .i64 d, .int .i64 c], .int .i64 r, .int .i64 k] w fun e w' => e = .returned (.int .i64 (plD l d c r k)) ∧ Below w.heap.size w w' := by
  have G := gat_new w l d c 24 (0, 0)
  have HD : Hid (∀ b, plDok l d c r k = b → plD l d c r k = if b = true then (plF l d c r + k) % d else -1) := Lib.hid (fun b h => by subst h; rfl)
  have HW := Lib.hid (fun W => width_any l d c W hl hd hc)
  have HK : Hid (plDok l d c r k = (plOk l d c r && decide (0 ≤ k ∧ k < gWid l d c))) := rfl
  cases hT : plOk l d c r
  · have H := Lib.hid (HD.out false (by rw [HK.out, hT]; rfl))
    have HT := Lib.hid hT
    clear hT
    go_enter Tryz.func81, Tryz.ntmps81
    go_wp2_with fail
    (with_reducible refine (there_no l d c r _ HT hl hd hc hr).mono ?_); rintro e w1 ⟨rfl, hb⟩
    have F := (below1 w _).trans (hb.mono (by simp))
    clear hb
    go_wp2_with fail
    go_ret
    exact ⟨by rw [H.out]; rfl, F⟩
  · have HT := Lib.hid hT
    by_cases h0 : k < 0
    · have H := Lib.hid (HD.out false (by rw [HK.out, hT, decide_eq_false (by omega)]; rfl))
      have e0 : decide (k < 0) = true := decide_eq_true h0
      clear hT
      go_enter Tryz.func81, Tryz.ntmps81
      go_wp2_with fail
      (with_reducible refine (there_yes l d c r _ HT hl hd hc hr).mono ?_); rintro e w1 ⟨rfl, hb⟩
      have F := (below1 w _).trans (hb.mono (by simp))
      clear hb
      go_wp2_with fail
      go_ret
      exact ⟨by rw [H.out]; rfl, F⟩
    · have e0 : decide (k < 0) = false := decide_eq_false h0
      obtain ⟨hg, h00, h11⟩ := plOk_yes HT.out
      have hb6 := gOk_bd hg
      have n1 : ¬ d = 0 := by omega
      have hw := gWid_bd l d c
      have hf := plF_bd l c r (show 1 ≤ d by omega)
      have HF := Lib.hid (fun W => first_any l d c r W HT hl hd hc hr)
      by_cases h1 : gWid l d c ≤ k
      · have H := Lib.hid (HD.out false (by rw [HK.out, hT, decide_eq_false (by omega)]; rfl))
        generalize gWid l d c = wd at HW hw h1
        have e1 : decide (wd ≤ k) = true := decide_eq_true h1
        clear hT hg h00 h11 HK HD
        go_enter Tryz.func81, Tryz.ntmps81
        go_wp2_with fail
        (with_reducible refine (there_yes l d c r _ HT hl hd hc hr).mono ?_); rintro e w1 ⟨rfl, hb⟩
        have S1 := GS.later (w0 := w) (B := w.heap.size) ⟨G.1, G.2.1, G.2.2, below1 w _⟩ hb
        clear hb G
        obtain ⟨g1, g2, g3, F⟩ := S1
        go_wp2_with fail
        (with_reducible refine (HW.out _).mono ?_); rintro e w2 ⟨rfl, hb⟩
        have S2 := GS.later (w0 := w) (B := w.heap.size) ⟨g1, g2, g3, F⟩ hb
        clear hb g1 g2 g3 F
        go_wp2_with fail
        go_ret
        exact ⟨by rw [H.out]; rfl, S2.2.2.2⟩
      · have H := Lib.hid ((HD.out true (by rw [HK.out, hT, decide_eq_true (by omega)]; rfl)).trans (if_pos rfl))
        generalize gWid l d c = wd at HW hw h1
        generalize plF l d c r = f at HF hf H
        have e1 : decide (wd ≤ k) = false := decide_eq_false h1
        have z1 : IntKind.i64.wrap (f + k) = f + k := IntWalk.i64_in _ (by omega)
        clear hT hg h00 h11 HK HD
        go_enter Tryz.func81, Tryz.ntmps81
        go_wp2_with fail
        (with_reducible refine (there_yes l d c r _ HT hl hd hc hr).mono ?_); rintro e w1 ⟨rfl, hb⟩
        have S1 := GS.later (w0 := w) (B := w.heap.size) ⟨G.1, G.2.1, G.2.2, below1 w _⟩ hb
        clear hb G
        obtain ⟨g1, g2, g3, F⟩ := S1
        go_wp2_with fail
        (with_reducible refine (HW.out _).mono ?_); rintro e w2 ⟨rfl, hb⟩
        have S2 := GS.later (w0 := w) (B := w.heap.size) ⟨g1, g2, g3, F⟩ hb
        clear hb g1 g2 g3 F
        obtain ⟨g1, g2, g3, F⟩ := S2
        go_wp2_with fail
        have S0 : GS w w.heap.size w.heap.size l d c w2 := ⟨g1, g2, g3, F⟩
        clear g1 g2 g3 F
        go_region_held3 (GS w w.heap.size w.heap.size l d c)
          (first | assumption | exact GS.drew ‹_›)
          ((go_at_call 114; (with_reducible refine (HF.out _).mono ?_); rintro e w3 ⟨rfl, hb⟩; have S3 := (GS.drew S0).later hb))
        go_wp2
        go_ret
        exact ⟨by rw [H.out, ← Int.tmod_eq_emod_of_nonneg (show 0 ≤ f + k by omega)]; rfl, S3.2.2.2⟩
end Go.Proofs.YtenkkdnepmoihaaGreatDoor
end
section
namespace Go.Proofs.YtenkkdnepmoihaaGreatDoor
open Go.RowKit

theorem inv_any (a : Nat) (ha : a < 256) (w : World) : Calls Tryz.prog 144 #[.int .u8 (a : Int)] w fun e w' => e = .returned (.int .u8 ((ginv a : Nat) : Int)) ∧ w' = w := by
  have H := Lib.hid (gpw_inv ha)
  go_enter Tryz.func144, Tryz.ntmps144
  go_wp2_with (go_at_call 138; refine (power_any a 254 ha (by decide) _).mono ?_; rintro e w' ⟨rfl, rfl⟩)
  go_ret
  exact ⟨ret_int (congrArg Nat.cast H.out), rfl⟩
end Go.Proofs.YtenkkdnepmoihaaGreatDoor
end
section
namespace Go.Proofs.YtenkkdnepmoihaaGreatDoor
open Go.RowKit

theorem byP_any (A A' : Option Addr) (p : List UInt8) (all : List (List UInt8)) (n c n' c' : Nat) (w : World) (hn : n = p.length) (hn' : all.length = n') (hp : RdB w w.heap.size A p) (hr : RdR w w.heap.size A' all) :
    Calls Tryz.prog 134 #[.slice A n c, .slice A' n' c'] w fun e w' => ∃ v, e = .returned v ∧ OwB 5 w' w.heap.size v (byPB p all) ∧ Below w.heap.size w w' := by
  subst hn
  have H : Hid (byPB p all = pB [p, pB all]) := rfl
  go_enter Tryz.func134, Tryz.ntmps134
  go_wp2_with fail
  refine (p_any A' all n' c' w hn' hr).mono ?_
  rintro e w1 ⟨v1, rfl, ho1, hb1⟩
  obtain ⟨A1, c1, rfl, _, hr1⟩ := ho1.rd
  have hs1 := hb1.size
  go_wp2_with fail
  refine (add_any A A1 p (pB all) p.length _ c c1 w1.heap.size w1 rfl rfl ((hp.below hb1 (Nat.le_refl _)).more hs1) hr1 (Nat.le_refl _)).mono ?_
  rintro e w2 ⟨v2, rfl, ho2, hb2⟩
  rw [← H.out] at ho2
  go_wp2
  go_ret
  exact ⟨v2, rfl, ho2.le hs1, hb1.trans (hb2.mono hs1)⟩
theorem byQ_any (A A' : Option Addr) (q : List UInt8) (all : List (List UInt8)) (n c n' c' k : Nat) (w : World) (hn : n = q.length) (hn' : all.length = n') (hk : k ≤ 1000000) (hp : RdB w w.heap.size A q) (hr : RdR w w.heap.size A' all) :
    Calls Tryz.prog 135 #[.slice A n c, .slice A' n' c', .int .i64 (k : Int)] w fun e w' => ∃ v, e = .returned v ∧ OwB 5 w' w.heap.size v (byQB q all k) ∧ Below w.heap.size w w' := by
  subst hn
  have H : Hid (byQB q all k = scaleL (pB [q, qB all]) (gpow (-(k : Int)))) := rfl
  have CP := Lib.hid (fun W => pow_any (-(k : Int)) (by omega) W)
  have hf := gpow_lt (-(k : Int))
  generalize gpow (-(k : Int)) = f at H CP hf
  go_enter Tryz.func135, Tryz.ntmps135
  go_wp2_with fail
  refine (q_any A' all n' c' w hn' hr).mono ?_
  rintro e w1 ⟨v1, rfl, ho1, hb1⟩
  obtain ⟨A1, c1, rfl, _, hr1⟩ := ho1.rd
  have hs1 := hb1.size
  go_wp2_with fail
  refine (add_any A A1 q (qB all) q.length _ c c1 w1.heap.size w1 rfl rfl ((hp.below hb1 (Nat.le_refl _)).more hs1) hr1 (Nat.le_refl _)).mono ?_
  rintro e w2 ⟨v2, rfl, ho2, hb2⟩
  obtain ⟨A2, c2, rfl, _, hr2⟩ := ho2.rd
  have hs2 := hb2.size
  go_wp2_with fail
  refine (CP.out _).mono ?_
  rintro e w3 ⟨rfl, rfl⟩
  go_wp2_with fail
  refine (scale_any A2 _ _ c2 f w3 rfl hf hr2).mono ?_
  rintro e w4 ⟨v4, rfl, ho4, hb4⟩
  rw [← H.out] at ho4
  go_wp2
  go_ret
  exact ⟨v4, rfl, ho4.le (by omega), (hb1.trans (hb2.mono hs1)).trans (hb4.mono (by omega))⟩
theorem xor_gf {f g : Nat} (hf : f < 256) (hg : g < 256) : bits .xor .u8 (f : Int) (g : Int) = ((f ^^^ g : Nat) : Int) := u8_xor_nat _ _ hf hg
set_option maxHeartbeats 800000 in
theorem byBoth_any (A A' A'' : Option Addr) (p q : List UInt8) (all : List (List UInt8)) (n c n' c' m d i j : Nat) (w : World) (hn : n = p.length) (hn' : n' = q.length) (hm : all.length = m) (hi : i ≤ 1000000) (hj : j ≤ 1000000) (hp : RdB w w.heap.size A p) (hq : RdB w w.heap.size A' q) (hr : RdR w w.heap.size A'' all) :
    Calls Tryz.prog 133 #[.slice A n c, .slice A' n' c', .slice A'' m d, .int .i64 (i : Int), .int .i64 (j : Int)] w fun e w' => ∃ v u, e = .returned (.tuple #[v, u]) ∧ OwB 5 w' w.heap.size v (bothA p q all i j) ∧ OwB 5 w' w.heap.size u (bothB p q all i j) ∧ Below w.heap.size w w' := by
  subst hn hn'
  have HA : Hid (bothA p q all i j = pB [pB [p, pB all], bothB p q all i j]) := rfl
  have HB : Hid (bothB p q all i j = scaleL (pB [pB [q, qB all], scaleL (pB [p, pB all]) (gpow i)]) (ginv (gpow i ^^^ gpow j))) := rfl
  have CI := Lib.hid (fun W => pow_any (i : Int) (by omega) W)
  have CJ := Lib.hid (fun W => pow_any (j : Int) (by omega) W)
  have hf := gpow_lt (i : Int)
  have hg := gpow_lt (j : Int)
  generalize gpow (i : Int) = f at HB CI hf
  generalize gpow (j : Int) = g at HB CJ hg
  have ex := xor_gf hf hg
  have CV := Lib.hid (fun W => inv_any (f ^^^ g) (xor_lt8 hf hg) W)
  have hv := ginv_lt (f ^^^ g)
  generalize ginv (f ^^^ g) = iv at HB CV hv
  go_enter Tryz.func133, Tryz.ntmps133
  go_wp2_with fail
  refine (CI.out _).mono ?_
  rintro e w1 ⟨rfl, rfl⟩
  go_wp2_with fail
  refine (CJ.out _).mono ?_
  rintro e w2 ⟨rfl, rfl⟩
  go_wp2_with fail
  refine (p_any A'' all m d w2 hm hr).mono ?_
  rintro e w3 ⟨v3, rfl, ho3, hb3⟩
  obtain ⟨A3, c3, rfl, _, hr3⟩ := ho3.rd
  have hs3 := hb3.size
  go_wp2_with fail
  refine (add_any A A3 p (pB all) p.length _ c c3 w3.heap.size w3 rfl rfl ((hp.below hb3 (Nat.le_refl _)).more hs3) hr3 (Nat.le_refl _)).mono ?_
  rintro e w4 ⟨v4, rfl, ho4, hb4⟩
  have B4 := hb3.trans (hb4.mono hs3)
  have hs4 := B4.size
  obtain ⟨A4, c4, rfl, _, _⟩ := ho4.rd
  go_wp2_with fail
  refine (q_any A'' all m d w4 hm ((hr.below B4 (Nat.le_refl _)).more hs4)).mono ?_
  rintro e w5 ⟨v5, rfl, ho5, hb5⟩
  have B5 := B4.trans (hb5.mono hs4)
  have hs5 := B5.size
  obtain ⟨A5, c5, rfl, _, hr5⟩ := ho5.rd
  go_wp2_with fail
  refine (add_any A' A5 q (qB all) q.length _ c' c5 w5.heap.size w5 rfl rfl ((hq.below B5 (Nat.le_refl _)).more hs5) hr5 (Nat.le_refl _)).mono ?_
  rintro e w6 ⟨v6, rfl, ho6, hb6⟩
  have B6 := B5.trans (hb6.mono hs5)
  have hs6 := B6.size
  obtain ⟨A6, c6, rfl, _, hr6⟩ := ho6.rd
  have hoP := (ho4.below hb5).below hb6
  go_wp2_with fail
  refine (scale_any A4 _ _ c4 f w6 rfl hf hoP.rdS.1).mono ?_
  rintro e w7 ⟨v7, rfl, ho7, hb7⟩
  have B7 := B6.trans (hb7.mono hs6)
  have hs7 := B7.size
  obtain ⟨A7, c7, rfl, _, hr7⟩ := ho7.rd
  go_wp2_with fail
  refine (add_any A6 A7 _ _ _ _ c6 c7 w7.heap.size w7 rfl rfl ((hr6.below hb7 (Nat.le_refl _)).more hb7.size) hr7 (Nat.le_refl _)).mono ?_
  rintro e w8 ⟨v8, rfl, ho8, hb8⟩
  have B8 := B7.trans (hb8.mono hs7)
  have hs8 := B8.size
  obtain ⟨A8, c8, rfl, _, hr8⟩ := ho8.rd
  go_wp2_with fail
  refine (CV.out _).mono ?_
  rintro e w9 ⟨rfl, rfl⟩
  go_wp2_with fail
  refine (scale_any A8 _ _ c8 iv w9 rfl hv hr8).mono ?_
  rintro e w10 ⟨v10, rfl, ho10, hb10⟩
  have B10 := B8.trans (hb10.mono hs8)
  have hs10 := B10.size
  rw [← HB.out] at ho10
  have hoP2 := ((hoP.below hb7).below hb8).below hb10
  obtain ⟨A10, c10, rfl, _, hr10⟩ := ho10.rd
  go_wp2_with fail
  refine (add_any A4 A10 _ _ _ _ c4 c10 w10.heap.size w10 rfl rfl hoP2.rdS.1 hr10 (Nat.le_refl _)).mono ?_
  rintro e w11 ⟨v11, rfl, ho11, hb11⟩
  rw [← HA.out] at ho11
  have B11 := B10.trans (hb11.mono hs10)
  go_wp2
  go_ret2
  exact ⟨_, _, rfl, ho11.le (by omega), (ho10.le (by omega)).below hb11, B11⟩
end Go.Proofs.YtenkkdnepmoihaaGreatDoor
end
section
namespace Go.Proofs.YtenkkdnepmoihaaGreatDoor
open Go.RowKit

/-- Solve's answer: nothing; or rows of its own. -/
def SolveNo (w : World) (e : Ending) (w' : World) : Prop := e = .returned (.tuple #[.slice none 0 0, .bool false]) ∧ Below w.heap.size w w'
def SolveYes (w : World) (l : List (List UInt8)) (e : Ending) (w' : World) : Prop := ∃ g c, e = .returned (.tuple #[.slice (some ⟨g, 0, none⟩) l.length c, .bool true]) ∧ OwR w' w.heap.size g l.length c l ∧ Below w.heap.size w w'
def SolveR (w : World) (o : Option (List (List UInt8))) (e : Ending) (w' : World) : Prop :=
  match o with
  | none => SolveNo w e w'
  | some l => SolveYes w l e w'
theorem OwR.le {w : World} {base base' g n cap : Nat} {rs : List (List UInt8)} (h : OwR w base g n cap rs) (hB : base' ≤ base) : OwR w base' g n cap rs := by
  obtain ⟨h0, hc, hg, xs, h1, h2⟩ := h
  refine ⟨h0, hc, by omega, xs, ⟨h1.1, ?_⟩, h2.1, fun k hk => ?_⟩
  · rcases h1.2 with h3 | ⟨g', cap', cur, h3, h4, r⟩
    · exact .inl h3
    · exact .inr ⟨g', cap', cur, h3, by omega, r⟩
  · obtain ⟨A, c, h3, h4, h5⟩ := h2.2 k hk
    refine ⟨A, c, h3, ⟨h4.1, fun h0 => ?_⟩, h5⟩
    obtain ⟨b, off, e, hb, hl, hcc⟩ := h4.2 h0
    exact ⟨b, off, e, hb, by omega, hcc⟩
theorem toldB_p {p q : List UInt8} {all : List (List UInt8)} {i : Nat} (h : p.length ≠ 0) : toldB p q all [i] = all.set i (byPB p all) := by
  show all.set i (if p.length ≠ 0 then byPB p all else byQB q all i) = _
  rw [if_pos h]
theorem toldB_q {p q : List UInt8} {all : List (List UInt8)} {i : Nat} (h : p.length = 0) : toldB p q all [i] = all.set i (byQB q all i) := by
  show all.set i (if p.length ≠ 0 then byPB p all else byQB q all i) = _
  rw [if_neg (fun e => e h)]
theorem set_other {W : World} {g j : Nat} {v : Value} {p : Addr} (h : p.block ≠ g) : (W.setCell ⟨g, j, none⟩ v).cell? p = W.cell? p :=
  World.cell?_of_block (w := W) (Below.heap_setCell _ _ _ _ h)
theorem RdBF.le {lo lo' : Nat} {w : World} {A : Option Addr} {bs : List UInt8} (h : RdBF lo w A bs) (hl : lo' ≤ lo) : RdBF lo' w A bs :=
  ⟨h.1, fun h0 => by
    obtain ⟨b, off, e, hb, hl2, hc⟩ := h.2 h0
    exact ⟨b, off, e, hb, by omega, hc⟩⟩
theorem missB_two_le (p q : List UInt8) : (missB [p, q]).length ≤ 2 := missTo_len [p, q] 2
theorem rdr_pair {w : World} {A A' : Option Addr} {p q : List UInt8} {c c' : Nat} (h : RdB w w.heap.size A p) (h' : RdB w w.heap.size A' q) :
    RdR (w.alloc (.cells #[.slice A p.length c, .slice A' q.length c'] 35)) (w.alloc (.cells #[.slice A p.length c, .slice A' q.length c'] 35)).heap.size (some ⟨w.heap.size, 0, none⟩) [p, q] :=
  rdr_block2 (hp_new _ _ _ rfl) rfl rfl ((h.below (below1 w _) (Nat.le_refl _)).more (by simp)) ((h'.below (below1 w _) (Nat.le_refl _)).more (by simp)) (Nat.le_refl _)
/-- Where it can be told, a size is a length. -/
theorem size_of_can {N : Nat} {p q : List UInt8} {rs : List (List UInt8)} {M : Nat} (ha : askB N p q rs = true) (hc : canB p q rs = true) (hp : p.length ≤ M) (hq : q.length ≤ M) (hr : ∀ k, k < rs.length → (rs.getD k []).length ≤ M) : N ≤ M := by
  unfold askB at ha
  unfold canB at hc
  simp only [Bool.and_eq_true, decide_eq_true_eq] at ha hc
  obtain ⟨hN, h1, h2⟩ := ha
  obtain ⟨h3, h4, h5⟩ := hc
  rcases Nat.eq_zero_or_pos (missB rs).length with h0 | h0
  · have hm : ¬ (rs.getD 0 []).length = 0 := fun h => by
      have : 0 ∈ missB rs := missTo_mem.2 ⟨h4, h⟩
      rw [List.eq_nil_of_length_eq_zero h0] at this
      simp at this
    rcases sizedB_iff.1 h2 0 h4 with h | h
    · exact absurd h hm
    · rw [← h]; exact hr 0 h4
  · rcases sizedB_iff.1 h1 0 (by simp) with hp0 | hp0
    · rcases sizedB_iff.1 h1 1 (by simp) with hq0 | hq0
      · exfalso
        have e : missB [p, q] = [0, 1] := by
          show missTo [p, q] (0 + 1 + 1) = [0, 1]
          rw [missTo_succ, missTo_succ, if_pos hq0, if_pos hp0]
          rfl
        rw [e] at h3
        simp only [List.length_cons, List.length_nil] at h3
        omega
      · have : q.length = N := hq0
        omega
    · have : p.length = N := hp0
      omega
set_option maxRecDepth 100000 in
set_option maxHeartbeats 1600000 in
theorem solve_any (A A' A'' : Option Addr) (p q : List UInt8) (rs : List (List UInt8)) (np cp nq cq n c N : Nat) (w : World) (hnp : np = p.length) (hnq : nq = q.length) (hn : rs.length = n) (hn8 : n ≤ 1000000)
    (hp : RdB w w.heap.size A p) (hq : RdB w w.heap.size A' q) (hr : RdR w w.heap.size A'' rs) :
    Calls Tryz.prog 102 #[.int .i64 (N : Int), .slice A np cp, .slice A' nq cq, .slice A'' n c] w (SolveR w (solveB N p q rs)) := by
  subst hnp hnq hn
  have Hsz := Lib.hid (fun ha hc => @size_of_can N p q rs 140737488355328 ha hc hp.1 hq.1 (fun k hk => by
    obtain ⟨b, off, _, _, hcc⟩ := hr.2 (by omega)
    obtain ⟨_, _, _, h2⟩ := hcc k hk
    exact h2.1))
  have Hso : Hid (solveB N p q rs = if (askB N p q rs && canB p q rs) = true then some (toldB p q (filledB N rs) (missB rs)) else none) := rfl
  have Hask : Hid (askB N p q rs = (decide (1 ≤ N) && (sizedB N [p, q] && sizedB N rs))) := rfl
  have Hcan : Hid (canB p q rs = (decide ((missB rs).length ≤ 2 - (missB [p, q]).length) && (decide (0 < rs.length) && decide (rs.length ≤ 8)))) := rfl
  have hm2 := missB_two_le p q
  by_cases hN : N < 1
  · have Hs2 := Lib.hid (show solveB N p q rs = none by rw [Hso.out, Hask.out, show decide (1 ≤ N) = false by simpa using hN]; rfl)
    rw [Hs2.out]
    go_enter Tryz.func102, Tryz.ntmps102
    go_wp2
    go_ret2
    exact ⟨rfl, Below.refl _ _⟩
  · have hr0 := rdr_pair (c := cp) (c' := cq) hp hq
    by_cases hz1 : sizedB N [p, q] = true
    · by_cases hz2 : sizedB N rs = true
      · go_enter Tryz.func102, Tryz.ntmps102
        go_wp2_with fail
        refine (sized_any _ [p, q] 2 2 N _ rfl hr0).mono ?_
        rintro e w1 ⟨rfl, rfl⟩
        rw [hz1]
        go_wp2_with fail
        have B1 := below1 w (.cells #[.slice A p.length cp, .slice A' q.length cq] 35)
        have hs1 := B1.size
        refine (sized_any A'' rs _ c N _ rfl ((hr.below B1 (Nat.le_refl _)).more hs1)).mono ?_
        rintro e w2 ⟨rfl, rfl⟩
        rw [hz2]
        have Ha := Lib.hid (show askB N p q rs = true by rw [Hask.out, hz1, hz2, show decide (1 ≤ N) = true by simp; omega]; rfl)
        generalize w.alloc (.cells #[.slice A p.length cp, .slice A' q.length cq] 35) = w1 at B1 hs1 ⊢
        clear hr0 hz1 hz2 hN
        go_wp2_with fail
        refine (missing_any A'' rs _ c w1 rfl hn8 ((hr.below B1 (Nat.le_refl _)).more hs1)).mono ?_
        rintro e w2 ⟨v2, rfl, hog, hb2⟩
        have B2 := B1.trans (hb2.mono hs1)
        have hs2 := B2.size
        obtain ⟨A2, c2, rfl, _⟩ := hog.rd
        go_wp2_with fail
        refine (missing_any _ [p, q] 2 2 _ rfl (by decide) (rdr_pair (c := cp) (c' := cq) ((hp.below B2 (Nat.le_refl _)).more hs2) ((hq.below B2 (Nat.le_refl _)).more hs2))).mono ?_
        rintro e w3 ⟨v3, rfl, hos, hb3⟩
        obtain ⟨A3, c3, rfl, _⟩ := hos.rd
        have hog3 := (hog.below (below1 w2 (.cells #[.slice A p.length cp, .slice A' q.length cq] 35))).below hb3
        have B3 := (B2.alloc hs2 (.cells #[.slice A p.length cp, .slice A' q.length cq] 35)).trans (hb3.mono (by simp; omega))
        have hs3 := B3.size
        clear hog hos hb2 hb3 B1 B2
        have Hml : Hid (missB rs = missB rs) := rfl
        obtain ⟨ms, hms⟩ : ∃ ms, ms = missB rs := ⟨_, rfl⟩
        obtain ⟨sm, hsm⟩ : ∃ sm, sm = (missB [p, q]).length := ⟨_, rfl⟩
        have Hms := Lib.hid (show missB rs = ms from hms.symm)
        rw [← hms] at hog3 ⊢
        rw [← hsm] at hm2 ⊢
        have Hcan2 := Lib.hid (show canB p q rs = (decide (ms.length ≤ 2 - sm) && (decide (0 < rs.length) && decide (rs.length ≤ 8))) by rw [Hcan.out, hms, hsm])
        have Hlt := Lib.hid (show ∀ i ∈ ms, i < rs.length ∧ (rs.getD i []).length = 0 from fun i hi => missTo_lt i (by rw [hms] at hi; exact hi))
        have Hso2 := Lib.hid (missTo_sorted rs rs.length)
        rw [show missTo rs rs.length = ms from hms.symm] at Hso2
        clear hms hsm Hcan Hml
        obtain ⟨L, hL⟩ : ∃ L, L = ms.length := ⟨_, rfl⟩
        rw [← hL] at Hcan2 ⊢
        have HL := Lib.hid hL
        clear hL
        by_cases hc1 : L ≤ 2 - sm
        · by_cases hc2 : 0 < rs.length
          · by_cases hc3 : rs.length ≤ 8
            · have Hc := Lib.hid (show canB p q rs = true by rw [Hcan2.out, decide_eq_true hc1, decide_eq_true hc2, decide_eq_true hc3]; rfl)
              have e1 : ((rs.length : Int) == 0) = false := by rw [beq_eq_false_iff_ne]; omega
              have hNl := Hsz.out Ha.out Hc.out
              have Hs2 := Lib.hid (show solveB N p q rs = some (toldB p q (filledB N rs) ms) by rw [Hso.out, Ha.out, Hc.out, Hms.out]; rfl)
              go_wp2_with fail
              refine (filled_any A'' rs _ c N w3 rfl hn8 hNl ((hr.below B3 (Nat.le_refl _)).more hs3)).mono ?_
              rintro e w4 ⟨g, rfl, hall, hb4⟩
              have B4 := B3.trans (hb4.mono hs3)
              have hs4 := B4.size
              have hall4 := hall.le hs3
              have hgg := hall.2.2.1
              have hg4 := hall.lt
              have hfl := filledB_len N rs
              generalize filledB N rs = all at hall4 Hs2 hfl
              clear hall B3
              rcases ms with _ | ⟨i, _ | ⟨j, _ | ⟨k, ms⟩⟩⟩
              · obtain rfl : L = 0 := HL.out
                go_wp2
                go_ret2
                rw [Hs2.out, ← hfl]
                rw [← hfl] at hall4
                exact ⟨g, _, rfl, hall4, B4⟩
              · obtain rfl : L = 1 := HL.out
                obtain ⟨hi, _⟩ := Hlt.out i (by simp)
                obtain ⟨A5, c5, hv5, hr5⟩ := hog3.rd
                injection hv5 with hv5 _ hv6
                subst hv5 hv6
                obtain ⟨g2, rfl, _, hg3, hcell⟩ := hr5 (by simp)
                have h0 : w4.cell? ⟨g2, 0, none⟩ = some (.int .i64 (i : Int)) := (hb4.cell (p := ⟨g2, 0, none⟩) hg3).trans (hcell 0 (by simp))
                have hg2 : g2 < w4.heap.size := by omega
                have hne : (⟨g2, 0, none⟩ : Addr).block ≠ g := by show g2 ≠ g; omega
                have i0 : (0 : Int) ≤ (i : Int) := by omega
                have i1 : (i : Int) < (rs.length : Int) := by omega
                obtain ⟨Ao, co, h1, _, h2⟩ := hall4.cell i hi
                by_cases hp0 : p.length = 0
                · have e2 : ((p.length : Int) != 0) = false := by rw [hp0]; rfl
                  have Ht := Lib.hid (show toldB p q all [i] = all.set i (byQB q all i) from toldB_q hp0)
                  have CB : Hid (∀ W, Below w4.heap.size w4 W → Calls Tryz.prog 135 #[.slice A' q.length cq, .slice (some ⟨g, 0, none⟩) rs.length rs.length, .int .i64 (i : Int)] W fun e w' => ∃ v, e = .returned v ∧ OwB 5 w' W.heap.size v (byQB q all i) ∧ Below W.heap.size W w') :=
                    Lib.hid fun W hb => byQ_any A' _ q all _ cq _ _ i W rfl hfl (by omega) (((hq.below B4 (Nat.le_refl _)).more hs4).below hb (Nat.le_refl _) |>.more hb.size) (((hall4.rdr (by omega)).below hb (Nat.le_refl _)).more hb.size)
                  generalize byQB q all i = b at CB Ht
                  generalize (all.getD i []).length = Lo at h1
                  clear hcell hr5
                  go_wp2_with fail
                  go_region_held3 (fun W => W.cell? ⟨g2, 0, none⟩ = some (.int .i64 (i : Int))) (first | assumption | (rw [set_other hne]; assumption))
                    (first
                      | (go_at_call 135
                         (with_reducible refine (CB.out _ ?_).mono ?_)
                         exact (Below.refl _ _).drew
                         rintro e w5 ⟨v5, rfl, ho5, hb5⟩
                         obtain ⟨A6, c6, rfl, _, _⟩ := ho5.rd
                         have h0' := (hb5.cell (p := ⟨g2, 0, none⟩) hg2).trans h0
                         have h1' := (hb5.cell (p := ⟨g, i, none⟩) hg4).trans h1
                         have hb5' := ((Below.refl w4.heap.size w4).drew).trans (hb5.mono (Nat.le_refl _))
                         have hall5 := hall4.below hb5'
                         obtain ⟨_, _, _, _, h2'⟩ := hall5.cell i hi
                         have hset := hall5.set i (c := c6) (OwB.rdbf (ho5.le hs4)) (ho5.newer hg4)
                         dsimp only))
                  go_wp2
                  go_ret2
                  rw [Hs2.out, Ht.out]
                  refine ⟨g, rs.length, by rw [List.length_set, hfl]; rfl, by rw [List.length_set, hfl]; exact hset, (B4.trans (hb5'.mono hs4)).setCell (p := ⟨g, i, none⟩) (by show w.heap.size ≤ g; omega) _⟩
                · have e2 : ((p.length : Int) != 0) = true := by rw [bne_iff_ne]; omega
                  have Ht := Lib.hid (show toldB p q all [i] = all.set i (byPB p all) from toldB_p hp0)
                  have CB : Hid (∀ W, Below w4.heap.size w4 W → Calls Tryz.prog 134 #[.slice A p.length cp, .slice (some ⟨g, 0, none⟩) rs.length rs.length] W fun e w' => ∃ v, e = .returned v ∧ OwB 5 w' W.heap.size v (byPB p all) ∧ Below W.heap.size W w') :=
                    Lib.hid fun W hb => byP_any A _ p all _ cp _ _ W rfl hfl (((hp.below B4 (Nat.le_refl _)).more hs4).below hb (Nat.le_refl _) |>.more hb.size) (((hall4.rdr (by omega)).below hb (Nat.le_refl _)).more hb.size)
                  generalize byPB p all = b at CB Ht
                  generalize (all.getD i []).length = Lo at h1
                  clear hcell hr5
                  go_wp2_with fail
                  go_region_held3 (fun W => W.cell? ⟨g2, 0, none⟩ = some (.int .i64 (i : Int))) (first | assumption | (rw [set_other hne]; assumption))
                    (first
                      | (go_at_call 134
                         (with_reducible refine (CB.out _ ?_).mono ?_)
                         exact (Below.refl _ _).drew
                         rintro e w5 ⟨v5, rfl, ho5, hb5⟩
                         have h0' := (hb5.cell (p := ⟨g2, 0, none⟩) hg2).trans h0
                         have h1' := (hb5.cell (p := ⟨g, i, none⟩) hg4).trans h1
                         have hb5' := ((Below.refl w4.heap.size w4).drew).trans (hb5.mono (Nat.le_refl _))
                         have hall5 := hall4.below hb5'
                         obtain ⟨_, _, _, _, h2'⟩ := hall5.cell i hi
                         obtain ⟨A6, c6, rfl, _, _⟩ := ho5.rd
                         have hset := hall5.set i (c := c6) (OwB.rdbf (ho5.le hs4)) (ho5.newer hg4)
                         dsimp only))
                  go_wp2
                  go_ret2
                  rw [Hs2.out, Ht.out]
                  refine ⟨g, rs.length, by rw [List.length_set, hfl]; rfl, by rw [List.length_set, hfl]; exact hset, (B4.trans (hb5'.mono hs4)).setCell (p := ⟨g, i, none⟩) (by show w.heap.size ≤ g; omega) _⟩
              · obtain rfl : L = 2 := HL.out
                obtain ⟨hi, _⟩ := Hlt.out i (by simp)
                obtain ⟨hj, _⟩ := Hlt.out j (by simp)
                have hij : i < j := by
                  have := Hso2.out
                  simp at this
                  exact this
                obtain ⟨A5, c5, hv5, hr5⟩ := hog3.rd
                injection hv5 with hv5 _ hv6
                subst hv5 hv6
                obtain ⟨g2, rfl, _, hg3, hcell⟩ := hr5 (by simp)
                have h0 : w4.cell? ⟨g2, 0, none⟩ = some (.int .i64 (i : Int)) := (hb4.cell (p := ⟨g2, 0, none⟩) hg3).trans (hcell 0 (by simp))
                have h01 : w4.cell? ⟨g2, 1, none⟩ = some (.int .i64 (j : Int)) := (hb4.cell (p := ⟨g2, 1, none⟩) hg3).trans (hcell 1 (by simp))
                have i0 : (0 : Int) ≤ (i : Int) := by omega
                have i1 : (i : Int) < (rs.length : Int) := by omega
                have j0 : (0 : Int) ≤ (j : Int) := by omega
                have j1 : (j : Int) < (rs.length : Int) := by omega
                have CB : Hid (∀ W, Below w4.heap.size w4 W → Calls Tryz.prog 133 #[.slice A p.length cp, .slice A' q.length cq, .slice (some ⟨g, 0, none⟩) rs.length rs.length, .int .i64 (i : Int), .int .i64 (j : Int)] W fun e w' => ∃ v u, e = .returned (.tuple #[v, u]) ∧ OwB 5 w' W.heap.size v (bothA p q all i j) ∧ OwB 5 w' W.heap.size u (bothB p q all i j) ∧ Below W.heap.size W w') :=
                  Lib.hid fun W hb => byBoth_any A A' _ p q all _ cp _ cq _ _ i j W rfl rfl hfl (by omega) (by omega) (((hp.below B4 (Nat.le_refl _)).more hs4).below hb (Nat.le_refl _) |>.more hb.size) (((hq.below B4 (Nat.le_refl _)).more hs4).below hb (Nat.le_refl _) |>.more hb.size) (((hall4.rdr (by omega)).below hb (Nat.le_refl _)).more hb.size)
                have Ht : Hid (toldB p q all [i, j] = (all.set i (bothA p q all i j)).set j (bothB p q all i j)) := rfl
                generalize bothA p q all i j = a at CB Ht
                generalize bothB p q all i j = b at CB Ht
                clear hcell hr5
                go_wp2_with fail
                go_quiet (fail)
                go_wp2_with fail
                refine (CB.out _ (belowN _ _ _)).mono ?_
                rintro e w5 ⟨v5, u5, rfl, hov, hou, hb5⟩
                have hb5' := (belowN w4.heap.size w4 nq).trans (hb5.mono (Nat.le_refl _))
                have hall5 := hall4.below hb5'
                obtain ⟨A6, c6, rfl, _, _⟩ := hov.rd
                obtain ⟨A7, c7, rfl, _, _⟩ := hou.rd
                obtain ⟨Ao, co, h1, _, h2⟩ := hall5.cell i hi
                have hset1 := hall5.set i (c := c6) (OwB.rdbf (hov.le hs4)) (hov.newer hg4)
                obtain ⟨Ap, cq2, h3, _, h4⟩ := hset1.cell j hj
                have hb6 : RdBF w.heap.size (w5.setCell ⟨g, i, none⟩ (.slice A6 a.length c6)) A7 b := (hou.rdbf.keep (by simp) fun p hp _ => set_other (by have : w4.heap.size ≤ p.block := hp; omega)).le hs4
                have hset2 := hset1.set j (c := c7) hb6 (hou.newer hg4)
                go_wp2
                go_ret2
                rw [Hs2.out, Ht.out]
                refine ⟨g, rs.length, by rw [List.length_set, List.length_set, hfl]; rfl, by rw [List.length_set, List.length_set, hfl]; exact hset2, ((B4.trans (hb5'.mono hs4)).setCell (p := ⟨g, i, none⟩) (by show w.heap.size ≤ g; omega) _).setCell (p := ⟨g, j, none⟩) (by show w.heap.size ≤ g; omega) _⟩
              · exfalso
                have : L = ms.length + 1 + 1 + 1 := HL.out
                omega
            · have Hs2 := Lib.hid (show solveB N p q rs = none by rw [Hso.out, Ha.out, Hcan2.out, decide_eq_false hc3, Bool.and_false, Bool.and_false]; rfl)
              have e1 : ((rs.length : Int) == 0) = false := by rw [beq_eq_false_iff_ne]; omega
              go_wp2
              go_ret2
              rw [Hs2.out]
              exact ⟨rfl, B3⟩
          · have Hs2 := Lib.hid (show solveB N p q rs = none by rw [Hso.out, Ha.out, Hcan2.out, decide_eq_false hc2, Bool.false_and, Bool.and_false]; rfl)
            have e1 : ((rs.length : Int) == 0) = true := by rw [beq_iff_eq]; omega
            go_wp2
            go_ret2
            rw [Hs2.out]
            exact ⟨rfl, B3⟩
        · have Hs2 := Lib.hid (show solveB N p q rs = none by rw [Hso.out, Ha.out, Hcan2.out, decide_eq_false hc1]; rfl)
          go_wp2
          go_ret2
          rw [Hs2.out]
          exact ⟨rfl, B3⟩
      · have B1 := below1 w (.cells #[.slice A p.length cp, .slice A' q.length cq] 35)
        have hz2' : sizedB N rs = false := by simpa using hz2
        have Hs2 := Lib.hid (show solveB N p q rs = none by rw [Hso.out, Hask.out, hz2', Bool.and_false, Bool.and_false]; rfl)
        rw [Hs2.out]
        clear hz2
        go_enter Tryz.func102, Tryz.ntmps102
        go_wp2_with fail
        refine (sized_any _ [p, q] 2 2 N _ rfl hr0).mono ?_
        rintro e w1 ⟨rfl, rfl⟩
        rw [hz1]
        go_wp2_with fail
        refine (sized_any A'' rs _ c N _ rfl ((hr.below B1 (Nat.le_refl _)).more B1.size)).mono ?_
        rintro e w2 ⟨rfl, rfl⟩
        rw [hz2']
        go_wp2
        go_ret2
        exact ⟨rfl, B1⟩
    · have B1 := below1 w (.cells #[.slice A p.length cp, .slice A' q.length cq] 35)
      have hz1' : sizedB N [p, q] = false := by simpa using hz1
      have Hs2 := Lib.hid (show solveB N p q rs = none by rw [Hso.out, Hask.out, hz1', Bool.false_and, Bool.and_false]; rfl)
      rw [Hs2.out]
      clear hz1
      go_enter Tryz.func102, Tryz.ntmps102
      go_wp2_with fail
      refine (sized_any _ [p, q] 2 2 N _ rfl hr0).mono ?_
      rintro e w1 ⟨rfl, rfl⟩
      rw [hz1']
      go_wp2
      go_ret2
      exact ⟨rfl, B1⟩
end Go.Proofs.YtenkkdnepmoihaaGreatDoor
end
section
set_option maxRecDepth 8000
set_option linter.unusedVariables false
set_option linter.unusedSimpArgs false
namespace Go.Proofs.YtenkkdnepmoihaaGreatDoor
open Go.RowKit

theorem GAt.grown {w w' : World} {b : Nat} {l d c : Int} {row : Option Nat} (h : GAt w b l d c) (hg : w.grownBy w' row) (hb : b < w.heap.size) (hne : row ≠ some b) : GAt w' b l d c := by
  have e : ∀ o, w'.cell? ⟨b, o, none⟩ = w.cell? ⟨b, o, none⟩ := fun o => World.cell?_of_block (w := w) (hg.block b hb (fun q => hne q.symm))
  exact ⟨(e 0).trans h.1, (e 1).trans h.2.1, (e 2).trans h.2.2⟩
def wholeB (rs : List (List UInt8)) : Bool := rs.all fun x => x.length == 32
theorem wholeB_iff {rs : List (List UInt8)} : wholeB rs = true ↔ ∀ k, k < rs.length → (rs.getD k []).length = 32 := by
  unfold wholeB
  rw [List.all_eq_true]
  constructor
  · intro h k hk
    have := h (rs.getD k []) (by simp [hk])
    simpa using this
  · intro h r hr
    obtain ⟨k, hk, rfl⟩ := List.getElem_of_mem hr
    have := h k hk
    simpa [hk] using this
set_option maxHeartbeats 400000 in
theorem whole_any (A : Option Addr) (rs : List (List UInt8)) (n cp : Nat) (w : World) (hn : rs.length = n) (hr : RdR w w.heap.size A rs) :
    Calls Tryz.prog 85 #[.slice A n cp] w fun e w' => e = .returned (.bool (wholeB rs)) ∧ w' = w := by
  subst hn
  have Hz := Lib.hid (@wholeB_iff rs)
  have hm := hr.1
  go_enter Tryz.func85, Tryz.ntmps85
  go_wp2
  go_loopw [7] (fun i wr => ∃ k : Nat, k ≤ rs.length ∧ i = .int .i64 k ∧ (∀ j, j < k → (rs.getD j []).length = 32) ∧ wr = w) (fun i _ => rs.length - (intOf i).toNat)
  case atStart => exact ⟨0, Nat.zero_le _, rfl, fun j hj => absurd hj (Nat.not_lt_zero _), rfl⟩
  case round =>
    obtain ⟨k, hk, rfl, hj, rfl⟩ := hrel
    have Hj := Lib.hid hj
    clear hj
    by_cases hlt : k < rs.length
    · obtain ⟨b, off, rfl, hbb, hc⟩ := hr.2 (by omega)
      obtain ⟨A', c', h1, h2⟩ := hc k hlt
      have Hno := Lib.hid (show ¬ (rs.getD k []).length = 32 → wholeB rs = false from fun h => by
        cases e : wholeB rs with
        | false => rfl
        | true => exact absurd (Hz.out.1 e k hlt) h)
      have Hyes := Lib.hid (show (rs.getD k []).length = 32 → ∀ j, j < k + 1 → (rs.getD j []).length = 32 from fun h j hj => by
        by_cases e : j = k
        · rw [e]; exact h
        · exact Hj.out j (by omega))
      generalize (rs.getD k []).length = L at h1 Hno Hyes
      have i0 : (0 : Int) ≤ (k : Int) := by omega
      have i1 : (k : Int) < (rs.length : Int) := by omega
      clear hc h2
      by_cases he : L = 32
      · have Hn := Lib.hid (Hyes.out he)
        have e0 : ((L : Int) != 32) = false := by rw [he]; rfl
        clear he
        go_wp2
        go_roundw
        case rel => exact ⟨k + 1, by omega, by go_num, Hn.out, trivial⟩
        case measure => simp [intOf]; omega
      · have e0 : ((L : Int) != 32) = true := by rw [bne_iff_ne]; omega
        have Hn := Lib.hid (Hno.out he)
        clear he
        go_wp2
        go_ret
        exact ⟨by rw [Hn.out]; rfl, rfl⟩
    · obtain rfl : k = rs.length := by omega
      have Hn := Lib.hid (Hz.out.2 Hj.out)
      go_wp2
      go_ret
      exact ⟨by rw [Hn.out]; rfl, rfl⟩

/-- Fill's answer: nothing; or a row of sectors of its own. -/
def FillYes (w : World) (l : List (List UInt8)) (e : Ending) (w' : World) : Prop := ∃ g xs, e = .returned (.tuple #[.slice (some ⟨g, 0, none⟩) l.length l.length, .bool true]) ∧ Rq w.heap.size w' g l.length l.length xs l ∧ Below w.heap.size w w'
def FillR (w : World) (o : Option (List (List UInt8))) (e : Ending) (w' : World) : Prop :=
  match o with
  | none => SolveNo w e w'
  | some l => FillYes w l e w'

theorem fill_no1 (A : Option Addr) (n cp : Nat) (l d c r : Int) (w : World) (hT : plOk l d c r = false)
    (hl : -9223372036854775808 ≤ l ∧ l ≤ 9223372036854775807) (hd : -9223372036854775808 ≤ d ∧ d ≤ 9223372036854775807) (hc : -9223372036854775808 ≤ c ∧ c ≤ 9223372036854775807) (hr : -9223372036854775808 ≤ r ∧ r ≤ 9223372036854775807) :
    Calls Tryz.prog 52 #[.agg #[.int .i64 l, .int .i64 d, .int .i64 c], .int .i64 r, .slice A n cp] w (SolveNo w) := by
  have G := gat_new w l d c 24 (0, 0)
  have CP := Lib.hid (fun W => parity_any l d c r W hl hd hc hr)
  rw [plP_no hT, plQ_no hT] at CP
  clear hT
  go_enter Tryz.func52, Tryz.ntmps52
  go_wp2_with fail
  (with_reducible refine (CP.out _).mono ?_); rintro e w1 ⟨rfl, hb⟩
  have F := (below1 w _).trans (hb.mono (by simp))
  clear hb
  go_wp2_with fail
  go_ret2
  exact ⟨rfl, F⟩
theorem fill_no2 (A : Option Addr) (n cp : Nat) (l d c r : Int) (w : World) (hT : plOk l d c r = true) (hne : n ≠ roW l d) (hn8 : n ≤ 1000000)
    (hl : -9223372036854775808 ≤ l ∧ l ≤ 9223372036854775807) (hd : -9223372036854775808 ≤ d ∧ d ≤ 9223372036854775807) (hc : -9223372036854775808 ≤ c ∧ c ≤ 9223372036854775807) (hr : -9223372036854775808 ≤ r ∧ r ≤ 9223372036854775807) :
    Calls Tryz.prog 52 #[.agg #[.int .i64 l, .int .i64 d, .int .i64 c], .int .i64 r, .slice A n cp] w (SolveNo w) := by
  have G := gat_new w l d c 24 (0, 0)
  have CP := Lib.hid (fun W => parity_any l d c r W hl hd hc hr)
  have CW := Lib.hid (fun W => width_any l d c W hl hd hc)
  have R := ro_of hT
  rw [R.pP] at CP
  rw [R.wd] at CW
  have e1 : ((n : Int) != ((roW l d : Nat) : Int)) = true := by rw [bne_iff_ne]; omega
  have n0 : decide (((roS (roD d) (roF l d c r) (roW l d) : Nat) : Int) < 0) = false := decide_eq_false (by omega)
  generalize ((roS (roD d) (roF l d c r) (roW l d) : Nat) : Int) = p at CP n0
  generalize plQ l d c r = q at CP
  generalize ((roW l d : Nat) : Int) = wd at CW e1
  clear hT hne R
  go_enter Tryz.func52, Tryz.ntmps52
  go_wp2_with fail
  (with_reducible refine (CP.out _).mono ?_); rintro e w1 ⟨rfl, hb⟩
  have F := (below1 w _).trans (hb.mono (by simp))
  obtain ⟨g1, g2, g3⟩ := G.below hb (by simp)
  clear hb
  go_wp2_with fail
  (with_reducible refine (CW.out _).mono ?_); rintro e w2 ⟨rfl, hb⟩
  have F2 := F.trans (hb.mono F.size)
  clear hb
  go_wp2_with fail
  go_ret2
  exact ⟨rfl, F2⟩
theorem fill_no3 (A : Option Addr) (rs : List (List UInt8)) (n cp : Nat) (l d c r : Int) (w : World) (hn : rs.length = n) (hrd : RdR w w.heap.size A rs) (hT : plOk l d c r = true) (hne : n = roW l d) (hw : wholeB rs = false)
    (hl : -9223372036854775808 ≤ l ∧ l ≤ 9223372036854775807) (hd : -9223372036854775808 ≤ d ∧ d ≤ 9223372036854775807) (hc : -9223372036854775808 ≤ c ∧ c ≤ 9223372036854775807) (hr : -9223372036854775808 ≤ r ∧ r ≤ 9223372036854775807) :
    Calls Tryz.prog 52 #[.agg #[.int .i64 l, .int .i64 d, .int .i64 c], .int .i64 r, .slice A n cp] w (SolveNo w) := by
  have G := gat_new w l d c 24 (0, 0)
  have CP := Lib.hid (fun W => parity_any l d c r W hl hd hc hr)
  have CW := Lib.hid (fun W => width_any l d c W hl hd hc)
  have R := ro_of hT
  rw [R.pP] at CP
  rw [R.wd] at CW
  have e1 : ((n : Int) != ((roW l d : Nat) : Int)) = false := by rw [hne]; exact bne_self_eq_false _
  have n0 : decide (((roS (roD d) (roF l d c r) (roW l d) : Nat) : Int) < 0) = false := decide_eq_false (by omega)
  have CL : Hid (∀ W, Below w.heap.size w W → Calls Tryz.prog 85 #[.slice A n cp] W fun e w' => e = .returned (.bool false) ∧ w' = W) :=
    Lib.hid fun W hb => by have := whole_any A rs n cp W hn ((hrd.below hb (Nat.le_refl _)).more hb.size); rwa [hw] at this
  generalize ((roS (roD d) (roF l d c r) (roW l d) : Nat) : Int) = p at CP n0
  generalize plQ l d c r = q at CP
  generalize ((roW l d : Nat) : Int) = wd at CW e1
  clear hT hne R hn hrd hw
  go_enter Tryz.func52, Tryz.ntmps52
  go_wp2_with fail
  (with_reducible refine (CP.out _).mono ?_); rintro e w1 ⟨rfl, hb⟩
  have F := (below1 w _).trans (hb.mono (by simp))
  obtain ⟨g1, g2, g3⟩ := G.below hb (by simp)
  clear hb
  go_wp2_with fail
  (with_reducible refine (CW.out _).mono ?_); rintro e w2 ⟨rfl, hb⟩
  have F2 := F.trans (hb.mono F.size)
  clear hb
  go_wp2_with fail
  (with_reducible refine (CL.out _ F2).mono ?_); rintro e w3 ⟨rfl, rfl⟩
  go_wp2_with fail
  go_ret2
  exact ⟨rfl, F2⟩
set_option maxHeartbeats 3200000 in
theorem fill_yes (A : Option Addr) (rs : List (List UInt8)) (n cp : Nat) (l d c r : Int) (w : World) (hn : rs.length = n) (hrd : RdR w w.heap.size A rs) (hT : fillOk l d c r rs = true)
    (hl : -9223372036854775808 ≤ l ∧ l ≤ 9223372036854775807) (hd : -9223372036854775808 ≤ d ∧ d ≤ 9223372036854775807) (hc : -9223372036854775808 ≤ c ∧ c ≤ 9223372036854775807) (hr : -9223372036854775808 ≤ r ∧ r ≤ 9223372036854775807) :
    Calls Tryz.prog 52 #[.agg #[.int .i64 l, .int .i64 d, .int .i64 c], .int .i64 r, .slice A n cp] w (FillYes w (fillL (roD d) (roF l d c r) rs)) := by
  have G := gat_new w l d c 24 (0, 0)
  have CP := Lib.hid (fun W => parity_any l d c r W hl hd hc hr)
  have CW := Lib.hid (fun W => width_any l d c W hl hd hc)
  obtain ⟨hk, hnw, hall⟩ := fillOk_yes hT
  have R := ro_of hk
  have HA := Lib.hid (fun k (hk : k < rs.length) => mem_getD hall hk)
  have CD : Hid (∀ (k : Nat) W, k < roW l d → Calls Tryz.prog 81 #[.agg #[.int .i64 l, .int .i64 d, .int .i64 c], .int .i64 r, .int .i64 (k : Int)] W fun e w' => e = .returned (.int .i64 ((roS (roD d) (roF l d c r) k : Nat) : Int)) ∧ Below W.heap.size W w') :=
    Lib.hid fun k W hk => by
      have hw7 := R.w7
      have := disk_any l d c r (k : Int) W hl hd hc hr (by omega)
      rwa [R.pD k hk] at this
  have CL : Hid (∀ W, Below w.heap.size w W → Calls Tryz.prog 85 #[.slice A n cp] W fun e w' => e = .returned (.bool true) ∧ w' = W) :=
    Lib.hid fun W hb => by
      have := whole_any A rs n cp W hn ((hrd.below hb (Nat.le_refl _)).more hb.size)
      rwa [wholeB_iff.2 HA.out] at this
  have CSP : Hid (∀ W, Below w.heap.size w W → Calls Tryz.prog 87 #[.slice A n cp] W (Gives W (pB rs))) := Lib.hid fun W hb => p_gives ((hrd.below hb (Nat.le_refl _)).more hb.size) hn rfl
  have CSQ : Hid (∀ W, Below w.heap.size w W → Calls Tryz.prog 88 #[.slice A n cp] W (Gives W (qB rs))) := Lib.hid fun W hb => q_gives ((hrd.below hb (Nat.le_refl _)).more hb.size) hn rfl
  have hw1 := R.w1; have hw7 := R.w7; have hd8 := R.d8; have hWD := R.hW; have hFD := R.hF; have hlv := R.lv
  rw [R.pP, R.pQ] at CP
  rw [R.wd] at CW
  have e1 : ((n : Int) != ((roW l d : Nat) : Int)) = false := by rw [← hn, hnw]; exact bne_self_eq_false _
  have HS := Lib.hid (fun k (hk : k < roD d) => @fillTo2_succ (roD d) (roF l d c r) rs k hFD hk)
  have HSd := Lib.hid (fun k (hk : k < rs.length) => @allL_data rs k hk)
  have HSp := Lib.hid (allL_p rs)
  have HSq := Lib.hid (allL_q rs)
  have Hlt := Lib.hid (fun k (hk : k < roD d) => @roS_lt (roD d) (roF l d c r) k hFD hk)
  have Hfl := Lib.hid (show fillL (roD d) (roF l d c r) rs = fillTo2 (roD d) (roF l d c r) rs (roD d) from rfl)
  have Hf0 := Lib.hid (fillTo2_zero (roD d) (roF l d c r) rs)
  have Hfn := Lib.hid (fillL_len (roD d) (roF l d c r) rs)
  have hdd := R.dd
  obtain ⟨qv, hqv⟩ : ∃ qv, (if l = 6 then ((roS (roD d) (roF l d c r) (roW l d + 1) : Nat) : Int) else -1) = qv := ⟨_, rfl⟩
  rw [hqv] at CP
  have Hq := Lib.hid (show (qv = -1 ∧ roD d = roW l d + 1) ∨ (qv = ((roS (roD d) (roF l d c r) (roW l d + 1) : Nat) : Int) ∧ roD d = roW l d + 2) from by
    rcases hlv with ⟨rfl, h2⟩ | ⟨rfl, h2⟩
    · exact .inl ⟨by rw [← hqv]; rfl, h2⟩
    · exact .inr ⟨by rw [← hqv]; rfl, h2⟩)
  clear hqv hlv
  generalize fillL (roD d) (roF l d c r) rs = L at Hfl Hfn ⊢
  generalize roF l d c r = F0 at *
  generalize roW l d = W0 at *
  generalize roD d = D at *
  subst hdd
  have km := make_rows D (by omega)
  have Hr := Lib.hid hrd
  have hmx := hrd.1
  clear hT hk R hall hrd hw7
  subst hn
  subst hnw
  have HP0 := Hlt.out rs.length hWD
  have n0 : decide (((roS D F0 rs.length : Nat) : Int) < 0) = false := decide_eq_false (by omega)
  go_enter Tryz.func52, Tryz.ntmps52
  go_wp2_with fail
  (with_reducible refine (CP.out _).mono ?_); rintro e w1 ⟨rfl, hb⟩
  have F := (below1 w _).trans (hb.mono (by simp))
  have G1 := G.below hb (by simp)
  have gs1 : w.heap.size < w1.heap.size := by have := hb.size; simp at this; omega
  obtain ⟨g1, g2, g3⟩ := G1
  clear hb
  go_wp2_with fail
  (with_reducible refine (CW.out _).mono ?_); rintro e w2 ⟨rfl, hb⟩
  have F2 := F.trans (hb.mono F.size)
  have G2 := GAt.below ⟨g1, g2, g3⟩ hb gs1
  have gs2 : w.heap.size < w2.heap.size := by have := hb.size; omega
  clear hb g1 g2 g3
  go_wp2_with fail
  (with_reducible refine (CL.out _ F2).mono ?_); rintro e w3 ⟨rfl, rfl⟩
  obtain ⟨g1, g2, g3⟩ := G2
  go_wp2_with fail
  have Q0 := (rq_new w3 D (by omega)).le (lo' := w.heap.size) (by omega)
  rw [← Hf0.out] at Q0
  have F3 := F2.trans ((below1 w3 (.cells (madeCells #[.slice none 0 0] D) 35)).mono F2.size)
  have G3 := GAt.below ⟨g1, g2, g3⟩ (below1 w3 (.cells (madeCells #[.slice none 0 0] D) 35)) gs2
  have hgg : w.heap.size < w3.heap.size := gs2
  generalize w3.heap.size = g at Q0 hgg
  generalize w3.alloc (.cells (madeCells #[.slice none 0 0] D) 35) = w4 at Q0 F3 G3
  clear g1 g2 g3 F F2
  go_loopw [38] (fun i wr => ∃ (k : Nat) (xs : List Value), k ≤ rs.length ∧ i = .int .i64 k ∧ Rq w.heap.size wr g D D xs (fillTo2 D F0 rs k) ∧ GAt wr w.heap.size l D c ∧ Below w.heap.size w wr) (fun i _ => rs.length - (intOf i).toNat)
  case atStart => exact ⟨0, _, Nat.zero_le _, rfl, Q0, G3, F3⟩
  case round =>
    obtain ⟨k, xs, hk, rfl, Q, G4, F4⟩ := hrel
    by_cases hlt : k < rs.length
    · obtain ⟨b, off, rfl, hbb, hc⟩ := Hr.out.2 (by omega)
      obtain ⟨A', c', h1, h2⟩ := hc k hlt
      rw [← F4.cell (p := ⟨b, off + k, none⟩) hbb] at h1
      have h2' := (h2.below F4 (Nat.le_refl _)).more F4.size
      have h32 := HA.out k hlt
      have Hs := Lib.hid (HS.out k (by omega))
      rw [HSd.out k hlt] at Hs
      have hj := Hlt.out k (by omega)
      have CD1 := Lib.hid (fun W => CD.out k W hlt)
      generalize rs.getD k [] = row at h1 h2' h32 Hs
      generalize roS D F0 k = j at hj CD1 Hs
      generalize fillTo2 D F0 rs k = ms at Q Hs
      rw [h32] at h1
      have i0 : (0 : Int) ≤ (k : Int) := by omega
      have i1 : (k : Int) < (rs.length : Int) := by omega
      have i2 : (0 : Int) ≤ (j : Int) := by omega
      have i3 : (j : Int) < (D : Int) := by omega
      have hglt := Q.glt.2
      clear hc h2 CP CW CL CSP CSQ CD HA HS HSd HSp HSq Hlt Hfl Hf0 Hfn Hq km e1 n0 HP0 Q0 F3 G3
      obtain ⟨g1, g2, g3⟩ := G4
      go_wp2_with fail
      (with_reducible refine (CD1.out _).mono ?_); rintro e w5 ⟨rfl, hb5⟩
      have hs5 := hb5.size
      go_wp2_with fail
      (with_reducible refine (clone_any A' row 32 c' w5 h32.symm (by omega) ((h2'.below hb5 (Nat.le_refl _)).more hs5)).mono ?_); rintro e w6 ⟨v, rfl, ho, hb6⟩
      have hb56 := hb5.trans (hb6.mono hs5)
      obtain ⟨A1, c1, rfl, _, _⟩ := ho.rd
      obtain ⟨Ao, co, _, h3, _⟩ := (Q.below hb56).at j hj
      have hf3 := (Q.below hb56).fz j
      obtain ⟨hset, hgr⟩ := Q.step hb56 j hj (ho.le hs5)
      rw [Hs.out] at hset
      have G6 := ((GAt.below ⟨g1, g2, g3⟩ hb56 (by omega)).grown hgr (by have := hb56.size; omega) (by intro e; injection e with e; omega))
      have F6 := (F4.trans (hb56.mono F4.size)).setCell (p := ⟨g, j, none⟩) (by show w.heap.size ≤ g; omega) (.slice A1 row.length c1)
      clear Q Hs h2' CD1
      rw [h32] at hset G6 F6
      go_wp2
      go_roundw
      case rel => exact ⟨k + 1, _, by omega, by go_num, hset, G6, F6⟩
      case measure => simp [intOf]; omega
    · obtain rfl : k = rs.length := by omega
      have Hs := Lib.hid (HS.out rs.length hWD)
      rw [HSp.out] at Hs
      have Hqs := Lib.hid (fun h => HS.out (rs.length + 1) h)
      rw [HSq.out] at Hqs
      have hq1 := Lib.hid (fun h => Hlt.out (rs.length + 1) h)
      generalize roS D F0 rs.length = j at HP0 Hs n0 ⊢
      generalize fillTo2 D F0 rs rs.length = ms at Q Hs
      have i2 : (0 : Int) ≤ (j : Int) := by omega
      have i3 : (j : Int) < (D : Int) := by omega
      have hglt := Q.glt.2
      clear CP CW CL CD HA HS HSd HSp HSq Hlt Hf0 km e1 n0 Q0 F3 G3 G4 hWD hFD
      go_wp2_with fail
      (with_reducible refine (CSP.out _ F4).mono ?_); rintro e w5 ⟨A1, c1, rfl, ho, hb5⟩
      have hs5 := hb5.size
      obtain ⟨Ao, co, _, h3, _⟩ := (Q.below hb5).at j HP0
      have hf3 := (Q.below hb5).fz j
      obtain ⟨hset, hgr⟩ := Q.step hb5 j HP0 ho
      rw [Hs.out] at hset
      have F6 := (F4.trans (hb5.mono F4.size)).setCell (p := ⟨g, j, none⟩) (by show w.heap.size ≤ g; omega) (.slice A1 (pB rs).length c1)
      clear Q Hs CSP F4
      rcases Hq.out with ⟨rfl, hD⟩ | ⟨rfl, hD⟩
      · clear Hq Hqs hq1
        subst hD
        go_wp2
        go_ret2
        rw [Hfl.out] at Hfn ⊢
        exact ⟨g, _, by rw [Hfn.out]; rfl, by rw [Hfn.out]; exact hset, F6⟩
      · have Hs := Lib.hid (Hqs.out (by omega))
        have hj2 := hq1.out (by omega)
        clear Hq Hqs hq1
        generalize roS D F0 (rs.length + 1) = j2 at Hs hj2 ⊢
        generalize fillTo2 D F0 rs (rs.length + 1) = ms at hset Hs
        have i4 : (0 : Int) ≤ (j2 : Int) := by omega
        have i5 : (j2 : Int) < (D : Int) := by omega
        have n2 : decide ((j2 : Int) ≥ 0) = true := decide_eq_true (by omega)
        have HD := Lib.hid hD
        clear hD
        go_wp2_with fail
        generalize w5.setCell ⟨g, j, none⟩ (.slice A1 (pB rs).length c1) = w6 at hset F6 ⊢
        (with_reducible refine (CSQ.out _ F6).mono ?_); rintro e w7 ⟨A2, c2, rfl, ho7, hb7⟩
        obtain ⟨Ao2, co2, _, h4, _⟩ := (hset.below hb7).at j2 hj2
        have hf4 := (hset.below hb7).fz j2
        obtain ⟨hset2, hgr2⟩ := hset.step hb7 j2 hj2 ho7
        rw [Hs.out, show rs.length + 1 + 1 = D from HD.out.symm] at hset2
        have F8 := (F6.trans (hb7.mono F6.size)).setCell (p := ⟨g, j2, none⟩) (by show w.heap.size ≤ g; omega) (.slice A2 (qB rs).length c2)
        clear hset Hs
        go_wp2
        go_ret2
        rw [Hfl.out] at Hfn ⊢
        exact ⟨g, _, by rw [Hfn.out]; rfl, by rw [Hfn.out]; exact hset2, F8⟩
theorem fill_any (A : Option Addr) (rs : List (List UInt8)) (n cp : Nat) (l d c r : Int) (w : World) (hn : rs.length = n) (hn8 : n ≤ 1000000) (hrd : RdR w w.heap.size A rs)
    (hl : -9223372036854775808 ≤ l ∧ l ≤ 9223372036854775807) (hd : -9223372036854775808 ≤ d ∧ d ≤ 9223372036854775807) (hc : -9223372036854775808 ≤ c ∧ c ≤ 9223372036854775807) (hr : -9223372036854775808 ≤ r ∧ r ≤ 9223372036854775807) :
    Calls Tryz.prog 52 #[.agg #[.int .i64 l, .int .i64 d, .int .i64 c], .int .i64 r, .slice A n cp] w (FillR w (roFill l d c r rs)) := by
  by_cases h : fillOk l d c r rs = true
  · rw [roFill_yes h]
    exact fill_yes A rs n cp l d c r w hn hrd h hl hd hc hr
  · rw [roFill_no h]
    cases hT : plOk l d c r
    · exact fill_no1 A n cp l d c r w hT hl hd hc hr
    · by_cases h2 : n = roW l d
      · cases h3 : wholeB rs
        · exact fill_no3 A rs n cp l d c r w hn hrd hT h2 h3 hl hd hc hr
        · refine absurd (fillOk_mk hT (hn.trans h2) fun x hx => ?_) h
          obtain ⟨k, hk, rfl⟩ := List.getElem_of_mem hx
          have := wholeB_iff.1 h3 k hk
          simpa [hk] using this
      · exact fill_no2 A n cp l d c r w hT h2 hn8 hl hd hc hr
end Go.Proofs.YtenkkdnepmoihaaGreatDoor
end
section
set_option maxRecDepth 8000
set_option linter.unusedVariables false
set_option linter.unusedSimpArgs false
namespace Go.Proofs.YtenkkdnepmoihaaGreatDoor
open Go.RowKit

/-- The data chunks' sectors as far as chunk k. -/
def dataTo (l d c r : Int) (xs : List (List UInt8)) (k : Nat) : List (List UInt8) := (List.range (roW l d)).map fun j => if j < k then xs.getD (roS (roD d) (roF l d c r) j) [] else []
theorem dataTo_len (l d c r : Int) (xs : List (List UInt8)) (k : Nat) : (dataTo l d c r xs k).length = roW l d := by simp [dataTo]
theorem dataTo_get {l d c r : Int} {xs : List (List UInt8)} {k j : Nat} (hj : j < roW l d) : (dataTo l d c r xs k).getD j [] = if j < k then xs.getD (roS (roD d) (roF l d c r) j) [] else [] := by
  simp [dataTo, List.getD_eq_getElem?_getD, hj]
theorem dataTo_zero (l d c r : Int) (xs : List (List UInt8)) : dataTo l d c r xs 0 = List.replicate (roW l d) [] := by
  apply List.ext_getElem (by simp [dataTo])
  intro i h1 h2
  simp [dataTo]
theorem dataTo_all (l d c r : Int) (xs : List (List UInt8)) : dataTo l d c r xs (roW l d) = dataL l d c r xs := ext_getD (by rw [dataTo_len, dataL_len]) fun j hj => by
  rw [dataTo_len] at hj
  rw [dataTo_get hj, dataL_get hj, if_pos hj]
theorem dataTo_succ {l d c r : Int} {xs : List (List UInt8)} {k : Nat} (hk : k < roW l d) : (dataTo l d c r xs k).set k (xs.getD (roS (roD d) (roF l d c r) k) []) = dataTo l d c r xs (k + 1) := ext_getD (by rw [List.length_set, dataTo_len, dataTo_len]) fun j hj => by
  rw [List.length_set, dataTo_len] at hj
  rw [dataTo_get hj]
  by_cases e : k = j
  · subst e
    rw [getD_set_same (by rw [dataTo_len]; exact hk), if_pos (by omega)]
  · rw [getD_set_other e, dataTo_get hj]
    by_cases h : j < k
    · rw [if_pos h, if_pos (by omega)]
    · rw [if_neg h, if_neg (by omega)]
theorem RdB.rdbf0 {w : World} {A : Option Addr} {bs : List UInt8} (h : RdB w w.heap.size A bs) : RdBF 0 w A bs :=
  ⟨h.1, fun h0 => by
    obtain ⟨b, off, e, hb, hc⟩ := h.2 h0
    exact ⟨b, off, e, hb, Nat.zero_le _, hc⟩⟩
theorem RdB.notin {w : World} {B g : Nat} {A : Option Addr} {bs : List UInt8} (h : RdB w B A bs) (hg : B ≤ g) : 0 < bs.length → ∀ a, A = some a → a.block ≠ g := fun hp a ha => by
  obtain ⟨b, off, e, hb, _⟩ := h.2 hp
  rw [ha] at e
  injection e with e
  subst e
  show b ≠ g
  omega
theorem SolveR.later {w w1 : World} {o : Option (List (List UInt8))} {e : Ending} {w' : World} (h : SolveR w1 o e w') (hb : Below w.heap.size w w1) : SolveR w o e w' := by
  cases o with
  | none => exact ⟨h.1, hb.trans (h.2.mono hb.size)⟩
  | some l =>
    obtain ⟨g, c, he, ho, hb'⟩ := h
    exact ⟨g, c, he, ho.le hb.size, hb.trans (hb'.mono hb.size)⟩
theorem take_no1 (A : Option Addr) (n cp : Nat) (l d c r : Int) (w : World) (hT : plOk l d c r = false)
    (hl : -9223372036854775808 ≤ l ∧ l ≤ 9223372036854775807) (hd : -9223372036854775808 ≤ d ∧ d ≤ 9223372036854775807) (hc : -9223372036854775808 ≤ c ∧ c ≤ 9223372036854775807) (hr : -9223372036854775808 ≤ r ∧ r ≤ 9223372036854775807) :
    Calls Tryz.prog 66 #[.agg #[.int .i64 l, .int .i64 d, .int .i64 c], .int .i64 r, .slice A n cp] w (SolveNo w) := by
  have G := gat_new w l d c 24 (0, 0)
  have CP := Lib.hid (fun W => parity_any l d c r W hl hd hc hr)
  rw [plP_no hT, plQ_no hT] at CP
  clear hT
  go_enter Tryz.func66, Tryz.ntmps66
  go_wp2_with fail
  (with_reducible refine (CP.out _).mono ?_); rintro e w1 ⟨rfl, hb⟩
  have F := (below1 w _).trans (hb.mono (by simp))
  clear hb
  go_wp2_with fail
  go_ret2
  exact ⟨rfl, F⟩
theorem take_no2 (A : Option Addr) (n cp : Nat) (l d c r : Int) (w : World) (hT : plOk l d c r = true) (hne : n ≠ roD d) (hn8 : n ≤ 1000000)
    (hl : -9223372036854775808 ≤ l ∧ l ≤ 9223372036854775807) (hd : -9223372036854775808 ≤ d ∧ d ≤ 9223372036854775807) (hc : -9223372036854775808 ≤ c ∧ c ≤ 9223372036854775807) (hr : -9223372036854775808 ≤ r ∧ r ≤ 9223372036854775807) :
    Calls Tryz.prog 66 #[.agg #[.int .i64 l, .int .i64 d, .int .i64 c], .int .i64 r, .slice A n cp] w (SolveNo w) := by
  have G := gat_new w l d c 24 (0, 0)
  have CP := Lib.hid (fun W => parity_any l d c r W hl hd hc hr)
  have R := ro_of hT
  rw [R.pP] at CP
  have hdd := R.dd
  have e1 : ((n : Int) != d) = true := by rw [bne_iff_ne]; omega
  have n0 : decide (((roS (roD d) (roF l d c r) (roW l d) : Nat) : Int) < 0) = false := decide_eq_false (by omega)
  generalize ((roS (roD d) (roF l d c r) (roW l d) : Nat) : Int) = p at CP n0
  generalize plQ l d c r = q at CP
  clear hT hne R hdd
  go_enter Tryz.func66, Tryz.ntmps66
  go_wp2_with fail
  (with_reducible refine (CP.out _).mono ?_); rintro e w1 ⟨rfl, hb⟩
  have F := (below1 w _).trans (hb.mono (by simp))
  obtain ⟨g1, g2, g3⟩ := G.below hb (by simp)
  clear hb
  go_wp2_with fail
  go_ret2
  exact ⟨rfl, F⟩
theorem solve32 {A A' A'' : Option Addr} {p q : List UInt8} {rs : List (List UInt8)} {np cp nq cq n c : Nat} {w : World} (hnp : np = p.length) (hnq : nq = q.length) (hn : rs.length = n) (hn8 : n ≤ 1000000)
    (hp : RdB w w.heap.size A p) (hq : RdB w w.heap.size A' q) (hr : RdR w w.heap.size A'' rs) :
    Calls Tryz.prog 102 #[.int .i64 32, .slice A np cp, .slice A' nq cq, .slice A'' n c] w (SolveR w (solveB 32 p q rs)) := solve_any A A' A'' p q rs np cp nq cq n c 32 w hnp hnq hn hn8 hp hq hr
set_option maxHeartbeats 3200000 in
theorem take_yes (A : Option Addr) (xs : List (List UInt8)) (n cp : Nat) (l d c r : Int) (w : World) (hn : xs.length = n) (hrd : RdR w w.heap.size A xs) (hk : plOk l d c r = true) (hnd : n = roD d)
    (hl : -9223372036854775808 ≤ l ∧ l ≤ 9223372036854775807) (hd : -9223372036854775808 ≤ d ∧ d ≤ 9223372036854775807) (hc : -9223372036854775808 ≤ c ∧ c ≤ 9223372036854775807) (hr : -9223372036854775808 ≤ r ∧ r ≤ 9223372036854775807) :
    Calls Tryz.prog 66 #[.agg #[.int .i64 l, .int .i64 d, .int .i64 c], .int .i64 r, .slice A n cp] w (SolveR w (roTake l d c r xs)) := by
  have G := gat_new w l d c 24 (0, 0)
  have CP := Lib.hid (fun W => parity_any l d c r W hl hd hc hr)
  have CW := Lib.hid (fun W => width_any l d c W hl hd hc)
  have R := ro_of hk
  have CD : Hid (∀ (k : Nat) W, k < roW l d → Calls Tryz.prog 81 #[.agg #[.int .i64 l, .int .i64 d, .int .i64 c], .int .i64 r, .int .i64 (k : Int)] W fun e w' => e = .returned (.int .i64 ((roS (roD d) (roF l d c r) k : Nat) : Int)) ∧ Below W.heap.size W w') :=
    Lib.hid fun k W hk => by
      have hw7 := R.w7
      have := disk_any l d c r (k : Int) W hl hd hc hr (by omega)
      rwa [R.pD k hk] at this
  have hw1 := R.w1; have hw7 := R.w7; have hd8 := R.d8; have hd3 := R.d3; have hWD := R.hW; have hFD := R.hF; have hlv := R.lv
  rw [R.pP, R.pQ] at CP
  rw [R.wd] at CW
  rw [roTake_yes hk (hn.trans hnd)]
  have HS := Lib.hid (fun k (hk : k < roW l d) => @dataTo_succ l d c r xs k hk)
  have H0 := Lib.hid (dataTo_zero l d c r xs)
  have HA := Lib.hid (dataTo_all l d c r xs)
  have HL := Lib.hid (dataL_len l d c r xs)
  have Hlt := Lib.hid (fun k (hk : k < roD d) => @roS_lt (roD d) (roF l d c r) k hFD hk)
  have hdd := R.dd
  have HPP : Hid (parL l d c r xs = xs.getD (roS (roD d) (roF l d c r) (roW l d)) []) := rfl
  obtain ⟨qv, hqv⟩ : ∃ qv, (if l = 6 then ((roS (roD d) (roF l d c r) (roW l d + 1) : Nat) : Int) else -1) = qv := ⟨_, rfl⟩
  rw [hqv] at CP
  have Hq := Lib.hid (show (qv = -1 ∧ parQ l d c r xs = []) ∨ (qv = ((roS (roD d) (roF l d c r) (roW l d + 1) : Nat) : Int) ∧ roD d = roW l d + 2 ∧ parQ l d c r xs = xs.getD (roS (roD d) (roF l d c r) (roW l d + 1)) []) from by
    rcases hlv with ⟨rfl, h2⟩ | ⟨rfl, h2⟩
    · exact .inl ⟨by rw [← hqv]; rfl, rfl⟩
    · exact .inr ⟨by rw [← hqv]; rfl, h2, rfl⟩)
  clear hqv hlv
  generalize dataL l d c r xs = D1 at HA HL ⊢
  generalize parL l d c r xs = P1 at HPP ⊢
  generalize parQ l d c r xs = Q1 at Hq ⊢
  generalize dataTo l d c r xs = DT at HS H0 HA
  generalize roF l d c r = F0 at *
  generalize roW l d = W0 at *
  generalize roD d = D at *
  subst hdd
  have km := make_rows W0 (by omega)
  have Hr := Lib.hid hrd
  have hmx := hrd.1
  subst hn
  clear hk R hrd
  have HP0 := Hlt.out W0 hWD
  have n0 : decide (((roS D F0 W0 : Nat) : Int) < 0) = false := decide_eq_false (by omega)
  have e1 : ((xs.length : Int) != (D : Int)) = false := by rw [hnd]; exact bne_self_eq_false _
  have hxD := Lib.hid hnd
  clear hnd
  go_enter Tryz.func66, Tryz.ntmps66
  go_wp2_with fail
  (with_reducible refine (CP.out _).mono ?_); rintro e w1 ⟨rfl, hb⟩
  have F := (below1 w _).trans (hb.mono (by simp))
  have G1 := G.below hb (by simp)
  have gs1 : w.heap.size < w1.heap.size := by have := hb.size; simp at this; omega
  obtain ⟨g1, g2, g3⟩ := G1
  clear hb
  go_wp2_with fail
  (with_reducible refine (CW.out _).mono ?_); rintro e w2 ⟨rfl, hb⟩
  have F2 := F.trans (hb.mono F.size)
  have G2 := GAt.below ⟨g1, g2, g3⟩ hb gs1
  have gs2 : w.heap.size < w2.heap.size := by have := hb.size; omega
  clear hb g1 g2 g3
  obtain ⟨g1, g2, g3⟩ := G2
  go_wp2_with fail
  have Q0 := (rq_new w2 W0 (by omega)).owr.le (base' := 0) (Nat.zero_le _)
  rw [← H0.out] at Q0
  have F3 := F2.trans ((below1 w2 (.cells (madeCells #[.slice none 0 0] W0) 35)).mono F2.size)
  have G3 := GAt.below ⟨g1, g2, g3⟩ (below1 w2 (.cells (madeCells #[.slice none 0 0] W0) 35)) gs2
  have hgg : w.heap.size < w2.heap.size := gs2
  generalize w2.heap.size = g at Q0 hgg
  generalize w2.alloc (.cells (madeCells #[.slice none 0 0] W0) 35) = w4 at Q0 F3 G3
  clear g1 g2 g3 F F2
  go_loopw [32] (fun i wr => ∃ (k : Nat), k ≤ W0 ∧ i = .int .i64 k ∧ OwR wr 0 g W0 W0 (DT k) ∧ GAt wr w.heap.size l D c ∧ Below w.heap.size w wr) (fun i _ => W0 - (intOf i).toNat)
  case atStart => exact ⟨0, Nat.zero_le _, rfl, Q0, G3, F3⟩
  case round =>
    obtain ⟨k, hk, rfl, Q, G4, F4⟩ := hrel
    obtain ⟨b, off, rfl, hbb, hcc⟩ := Hr.out.2 (by have := hxD.out; omega)
    by_cases hlt : k < W0
    · have hj := Hlt.out k (by omega)
      obtain ⟨A', c', h1, h2⟩ := hcc (roS D F0 k) (by have := hxD.out; omega)
      rw [← F4.cell (p := ⟨b, off + roS D F0 k, none⟩) hbb] at h1
      have h2' := (h2.below F4 (Nat.le_refl _)).more F4.size
      have hnot := h2.notin (Nat.le_of_lt hgg)
      have Hs := Lib.hid (HS.out k hlt)
      have CD1 := Lib.hid (fun W => CD.out k W hlt)
      generalize xs.getD (roS D F0 k) [] = row at h1 h2' Hs hnot
      generalize roS D F0 k = j at hj CD1 h1
      generalize DT k = ms at Q Hs
      have i0 : (0 : Int) ≤ (k : Int) := by omega
      have i1 : (k : Int) < (W0 : Int) := by omega
      have i2 : (0 : Int) ≤ (j : Int) := by omega
      have i3 : (j : Int) < (xs.length : Int) := by have := hxD.out; omega
      have hglt := Q.lt
      clear hcc h2 CP CW CD HS Hlt H0 HA HL Hq km e1 n0 HP0 Q0 F3 G3 HPP
      obtain ⟨g1, g2, g3⟩ := G4
      go_wp2_with fail
      (with_reducible refine (CD1.out _).mono ?_); rintro e w5 ⟨rfl, hb5⟩
      have hs5 := hb5.size
      have Q5 := Q.below hb5
      rw [← hb5.cell (p := ⟨b, off + j, none⟩) (by have := F4.size; show b < _; omega)] at h1
      obtain ⟨Ao, co, h3, _, hf3⟩ := Q5.cell k hlt
      have hset := Q5.set k (c := c') ((h2'.below hb5 (Nat.le_refl _)).more hs5).rdbf0 hnot
      rw [Hs.out] at hset
      have hgr : w5.grownBy (w5.setCell ⟨g, k, none⟩ (.slice A' row.length c')) (some g) := by
        obtain ⟨_, _, _, vs, hrow, _⟩ := Q5
        exact (hrow.stored k _).2
      have G6 := ((GAt.below ⟨g1, g2, g3⟩ hb5 (by omega)).grown hgr (by omega) (by intro e; injection e with e; omega))
      have F6 := (F4.trans (hb5.mono F4.size)).setCell (p := ⟨g, k, none⟩) (by show w.heap.size ≤ g; omega) (.slice A' row.length c')
      clear Q Hs h2' CD1 Q5
      go_wp2
      go_roundw
      case rel => exact ⟨k + 1, by omega, by go_num, hset, G6, F6⟩
      case measure => simp [intOf]; omega
    · obtain rfl : k = W0 := by omega
      rw [HA.out] at Q
      obtain ⟨Ap, c1, h1, h2⟩ := hcc (roS D F0 k) (by have := hxD.out; omega)
      rw [← F4.cell (p := ⟨b, off + roS D F0 k, none⟩) hbb] at h1
      have hp1 := (h2.below F4 (Nat.le_refl _)).more F4.size
      rw [← HPP.out] at h1 hp1
      have hq1 := Lib.hid (fun h => Hlt.out (k + 1) h)
      generalize roS D F0 k = j at HP0 h1 n0 ⊢
      have i2 : (0 : Int) ≤ (j : Int) := by omega
      have i3 : (j : Int) < (xs.length : Int) := by have := hxD.out; omega
      have hrr := Q.rdr (by omega)
      clear CP CW CD HS Hlt H0 HA km e1 n0 Q0 F3 G3 G4 hWD hFD h2 HPP
      rcases Hq.out with ⟨rfl, rfl⟩ | ⟨rfl, hD, hQ1⟩
      · have CS := Lib.hid (solve32 (q := []) (nq := 0) (cp := c1) (cq := 0) (c := k) rfl rfl HL.out (by omega) hp1 (RdB.nil wr _ none) hrr)
        generalize hso : solveB 32 P1 [] D1 = o at CS; have Hso := Lib.hid hso; clear hso
        clear Hq hq1
        go_wp2_with fail
        (with_reducible refine CS.out.mono ?_); rintro e w5 hS
        have hS2 := SolveR.later hS F4
        rcases o with _ | L
        · obtain ⟨rfl, hb⟩ := hS2
          go_wp2
          go_ret2
          rw [Hso.out]
          exact ⟨rfl, hb⟩
        · obtain ⟨g5, c5, rfl, ho, hb⟩ := hS2
          go_wp2
          go_ret2
          rw [Hso.out]
          exact ⟨g5, c5, rfl, ho, hb⟩
      · have hj2 := hq1.out (by omega)
        obtain ⟨Aq, c2, h3, h4⟩ := hcc (roS D F0 (k + 1)) (by have := hxD.out; omega)
        rw [← F4.cell (p := ⟨b, off + roS D F0 (k + 1), none⟩) hbb] at h3
        have hp2 := (h4.below F4 (Nat.le_refl _)).more F4.size
        rw [← hQ1] at h3 hp2
        generalize roS D F0 (k + 1) = j2 at hj2 h3 ⊢
        have n2 : decide ((j2 : Int) < 0) = false := decide_eq_false (by omega)
        have i4 : (0 : Int) ≤ (j2 : Int) := by omega
        have i5 : (j2 : Int) < (xs.length : Int) := by have := hxD.out; omega
        have CS : Hid (∀ W, Below wr.heap.size wr W → Calls Tryz.prog 102 #[.int .i64 32, .slice Ap P1.length c1, .slice Aq Q1.length c2, .slice (some ⟨g, 0, none⟩) k k] W (SolveR W (solveB 32 P1 Q1 D1))) :=
          Lib.hid fun W hb => solve32 rfl rfl HL.out (by omega) ((hp1.below hb (Nat.le_refl _)).more hb.size) ((hp2.below hb (Nat.le_refl _)).more hb.size) ((hrr.below hb (Nat.le_refl _)).more hb.size)
        generalize hso : solveB 32 P1 Q1 D1 = o at CS; have Hso := Lib.hid hso; clear hso
        have hbr : b < wr.heap.size := by have := F4.size; omega
        clear Hq hq1 hQ1 hD
        rcases o with _ | L
        · go_wp2_with fail
          go_region_held3 (fun W => W.cell? ⟨b, off + j, none⟩ = some (.slice Ap P1.length c1) ∧ W.cell? ⟨b, off + j2, none⟩ = some (.slice Aq Q1.length c2))
            (first | assumption | exact ⟨‹_›, ‹_›⟩)
            ((go_at_call 102; (with_reducible refine (CS.out _ (Below.refl _ _).drew).mono ?_); rintro e w5 hS; have hS2 := SolveR.later hS (F4.trans ((Below.refl _ _).drew)); obtain ⟨rfl, hb⟩ := hS2; have hb9 := hS.2; have k1 := (hb9.cell (p := ⟨b, off + j, none⟩) hbr).trans h1; have k2 := (hb9.cell (p := ⟨b, off + j2, none⟩) hbr).trans h3; dsimp only))
          go_wp2
          go_ret2
          rw [Hso.out]
          exact ⟨rfl, hb⟩
        · go_wp2_with fail
          go_region_held3 (fun W => W.cell? ⟨b, off + j, none⟩ = some (.slice Ap P1.length c1) ∧ W.cell? ⟨b, off + j2, none⟩ = some (.slice Aq Q1.length c2))
            (first | assumption | exact ⟨‹_›, ‹_›⟩)
            ((go_at_call 102; (with_reducible refine (CS.out _ (Below.refl _ _).drew).mono ?_); rintro e w5 hS; have hS2 := SolveR.later hS (F4.trans ((Below.refl _ _).drew)); obtain ⟨g5, c5, rfl, ho, hb⟩ := hS2; obtain ⟨_, _, _, _, hb9⟩ := hS; have k1 := (hb9.cell (p := ⟨b, off + j, none⟩) hbr).trans h1; have k2 := (hb9.cell (p := ⟨b, off + j2, none⟩) hbr).trans h3; dsimp only))
          go_wp2
          go_ret2
          rw [Hso.out]
          exact ⟨g5, c5, rfl, ho, hb⟩
theorem take_any (A : Option Addr) (xs : List (List UInt8)) (n cp : Nat) (l d c r : Int) (w : World) (hn : xs.length = n) (hn8 : n ≤ 1000000) (hrd : RdR w w.heap.size A xs)
    (hl : -9223372036854775808 ≤ l ∧ l ≤ 9223372036854775807) (hd : -9223372036854775808 ≤ d ∧ d ≤ 9223372036854775807) (hc : -9223372036854775808 ≤ c ∧ c ≤ 9223372036854775807) (hr : -9223372036854775808 ≤ r ∧ r ≤ 9223372036854775807) :
    Calls Tryz.prog 66 #[.agg #[.int .i64 l, .int .i64 d, .int .i64 c], .int .i64 r, .slice A n cp] w (SolveR w (roTake l d c r xs)) := by
  cases hT : plOk l d c r
  · have e : roTake l d c r xs = none := by unfold roTake; rw [hT]; rfl
    rw [e]
    exact take_no1 A n cp l d c r w hT hl hd hc hr
  · by_cases h2 : n = roD d
    · exact take_yes A xs n cp l d c r w hn hrd hT h2 hl hd hc hr
    · have e : roTake l d c r xs = none := by unfold roTake; rw [hT, decide_eq_false (by rw [hn]; exact h2)]; rfl
      rw [e]
      exact take_no2 A n cp l d c r w hT h2 hn8 hl hd hc hr
end Go.Proofs.YtenkkdnepmoihaaGreatDoor
end
section
namespace Go.Proofs.YtenkkdnepmoihaaGreatDoor
open Go.RowKit

/-- Bytes as a text. -/
def str (bs : List UInt8) : Value := .string ⟨bs.toArray⟩
theorem conv_str (A : Option Addr) (bs : List UInt8) (n c B : Nat) (w : World) (hn : n = bs.length) (hr : RdB w B A bs) : (convert 35 9 (.slice A n c)).run Tryz.prog w = .ok (str bs) w := by
  subst hn
  rcases Nat.eq_zero_or_pos bs.length with h0 | hp
  · have : bs = [] := List.eq_nil_of_length_eq_zero h0
    subst this
    rcases A with _ | a
    · exact run_convert_bytes_nil w _ _ Tryz.underlying35 Tryz.underlying5 _ _ _ Tryz.underlying9
    · have h := run_convert_bytes_string (P := Tryz.prog) w _ _ _ (some a) 0 c Tryz.underlying35 Tryz.underlying5 Tryz.underlying9
      have h2 := run_bytesToString (P := Tryz.prog) w a 0 c [] (by simp [loadCells, loadCellsFrom])
      exact h.trans h2
  · obtain ⟨b, off, rfl, _, hc⟩ := hr.2 hp
    have h := run_convert_bytes_arg (P := Tryz.prog) w _ _ Tryz.underlying35 Tryz.underlying5 b off bs.length c (bs.map fun x => (x.toNat : Int)) (by simp) (fun i hi => by
      rw [hc i hi]; simp [hi]) _ Tryz.underlying9
    have e : (bs.map fun x => (x.toNat : Int)).map (fun n => UInt8.ofNat n.toNat) = bs := by
      rw [List.map_map]
      exact (List.map_congr_left (g := id) fun x _ => by simp).trans (List.map_id bs)
    rw [h]
    unfold str strOfNums
    rw [e]
theorem str_eql (t : TypeId) (a b : List UInt8) (w : World) : (binOp .eql t (str a) (str b)).run Tryz.prog w = .ok (.bool (a == b)) w := by unfold str; rw [binOp_string_eql]; simp
end Go.Proofs.YtenkkdnepmoihaaGreatDoor
end
