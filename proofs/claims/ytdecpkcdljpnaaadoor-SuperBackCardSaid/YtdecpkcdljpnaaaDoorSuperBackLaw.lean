/- SuperBack walked. -/
import Derived.Test.YtdecpkcdljpnaaaDoorSupOfA
import Derived.Test.YtdecpkcdljpnaaaDoorSupWakes
import Derived.Test.YtdecpkcdljpnaaaDoorSupDec
import Derived.Test.YtdecpkcdljpnaaaDoorSupEq
import Derived.Test.YtdecpkcdljpnaaaDoorKeepCopy
import Derived.Test.YtdecpkcdljpnaaaDoorRefEnc
set_option linter.unusedVariables false
set_option linter.unusedSimpArgs false
namespace Go.Proofs.YtdecpkcdljpnaaaDoor
open Go.RowKit

attribute [local go_sem ↓] su_eql su_neq
/-- Two boxes that stay. -/
abbrev SB (w0 : World) (b b' : Nat) (s u : Su) (W : World) : Prop := SAt W b s ∧ SAt W b' u ∧ Below w0.heap.size w0 W
theorem SB.later {w0 W W' : World} {b b' : Nat} {s u : Su} (h : SB w0 b b' s u W) (hb : Below W.heap.size W W') : SB w0 b b' s u W' := ⟨h.1.below hb h.1.lt, h.2.1.below hb h.2.1.lt, h.2.2.trans (hb.mono h.2.2.size)⟩
theorem SB.drew {w0 W : World} {b b' : Nat} {s u : Su} (h : SB w0 b b' s u W) : SB w0 b b' s u W.drew := h.later (Below.refl _ _).drew
/-- Encode of any Super, beside the sector of one that may be. -/
theorem suEncode_by (s u : Su) (w : World) (h : Su64 u) (hs : suOk s = true) (ht : TabOk w) :
    Calls Tryd.prog 8 #[.agg #[.int .i64 u.g, .int .i64 u.al, .int .i64 u.ad, .int .i64 u.ac, .int .i64 u.bl, .int .i64 u.bd, .int .i64 u.bc, .bool u.r, .int .i64 u.wi, .int .i64 u.ep, .int .i64 u.ou]] w fun e w' => ∃ (A : Option Addr) (n c : Nat) (Y : List UInt8) (er : Int), e = .returned (.tuple #[.slice A n c, .int .i64 er]) ∧ n = Y.length ∧ RdB w' w'.heap.size A Y ∧ decide (suB s = Y) = suEq s u ∧ Below w.heap.size w w' := by
  cases hu : suOk u
  · refine (suEncode_no u w h hu).mono ?_
    rintro e w' ⟨rfl, hb⟩
    refine ⟨none, 0, 0, [], 1, rfl, rfl, RdB.nil _ _ _, ?_, hb⟩
    rw [suEq_no (fun e => by rw [e, hu] at hs; cases hs)]
    exact decide_eq_false (fun e => by have := congrArg List.length e; rw [suB_len] at this; cases this)
  · refine (suEncode_yes u w h hu ht).mono ?_
    rintro e w' ⟨g, rfl, o, hb⟩
    refine ⟨some ⟨g, 0, none⟩, 32, 32, suB u, 0, rfl, (suB_len u).symm, o.rdS.1, ?_, hb⟩
    by_cases he : s = u
    · subst he; rw [suEq_refl]; exact decide_eq_true rfl
    · rw [suEq_no he]; exact decide_eq_false (fun e => he (suB_inj hs hu e))
set_option maxRecDepth 100000 in
set_option maxHeartbeats 8000000 in
theorem superback (gen a b window epoch out how at' : Int) (c : UInt8) (other : Int) (w : World) (hgen : (-9223372036854775808 ≤ gen ∧ gen ≤ 9223372036854775807)) (ha : (-9223372036854775808 ≤ a ∧ a ≤ 9223372036854775807)) (hb : (-9223372036854775808 ≤ b ∧ b ≤ 9223372036854775807)) (hwin : (-9223372036854775808 ≤ window ∧ window ≤ 9223372036854775807)) (hep : (-9223372036854775808 ≤ epoch ∧ epoch ≤ 9223372036854775807)) (hout : (-9223372036854775808 ≤ out ∧ out ≤ 9223372036854775807)) (hhow : (-9223372036854775808 ≤ how ∧ how ≤ 9223372036854775807)) (hat : (-9223372036854775808 ≤ at' ∧ at' ≤ 9223372036854775807)) (hoth : (-9223372036854775808 ≤ other ∧ other ≤ 9223372036854775807)) (ht : TabOk w) :
    Calls Tryd.prog 6 #[.int .i64 gen, .int .i64 a, .int .i64 b, .int .i64 window, .int .i64 epoch, .int .i64 out, .int .i64 how, .int .i64 at', .int .u8 (c.toNat : Int), .int .i64 other] w fun e w' => e = .returned (.bool true) ∧ Below w.heap.size w w' := by
  have hm1 : -28 < how.tmod 28 := Int.lt_tmod_of_pos _ (by omega)
  have hm2 : how.tmod 28 < 28 := Int.tmod_lt_of_pos _ (by omega)
  have CO := Lib.hid (fun V => suOf_any gen a b window epoch out (how.tmod 28) V hgen ha hb hwin hep hout (by omega))
  have CU := Lib.hid (fun V => suOf_any other a b window epoch out (how.tmod 28) V hoth ha hb hwin hep hout (by omega))
  have Ht := Lib.hid ht
  have hw0 : 0 < w.heap.size := ht.pos
  have Wk := Lib.hid (fun W (hW : Below w.heap.size w W) => wakesSu_any W (Ht.out.below hW hw0))
  have bk := withinI_bd at' 32 (by omega)
  have WN := Lib.hid (fun W => within_any at' 32 W hat (by omega))
  obtain ⟨k, hk⟩ := Int.eq_ofNat_of_zero_le bk.1
  rw [hk] at WN bk
  have bkn : k < 32 := by omega
  clear hgen ha hb hwin hep hout hat ht hk hoth
  go_enter Tryd.func6, Tryd.ntmps6
  go_wp2_with fail
  (with_reducible refine (CO.out _).mono ?_); rintro e w1 ⟨s, h64, rfl, hb1⟩
  have S0 := ss_new w1 s 25 (0, 0)
  have HF1 := Lib.hid hb1
  clear CO hb1
  cases hok : suOk s
  · have CN := Lib.hid (fun W => suEncode_no s W h64 hok)
    clear hok h64 WN bk CU
    go_wp2_with fail
    (with_reducible refine (CN.out _).mono ?_); rintro e w2 ⟨rfl, hb2⟩
    have F2 := HF1.out.trans ((S0.later hb2).2.1.mono HF1.out.size)
    clear hb2 S0
    go_wp2_with fail
    (with_reducible refine (Wk.out _ F2).mono ?_); rintro e w6 ⟨rfl, hb6⟩
    go_wp2_with fail
    go_ret
    exact ⟨rfl, F2.trans (hb6.mono F2.size)⟩
  · have T0 := HF1.out.trans (S0.2.1.mono HF1.out.size)
    have CY := Lib.hid (suEncode_yes s _ h64 hok (Ht.out.below T0 hw0))
    have HL := Lib.hid (suB_len s)
    go_wp2_with fail
    (with_reducible refine CY.out.mono ?_); rintro e w2 ⟨g, rfl, o2, hb2⟩
    have HS2 := Lib.hid (S0.later hb2)
    have F2 := HF1.out.trans (HS2.out.2.1.mono HF1.out.size)
    have CD := Lib.hid (suDecode_any (some ⟨g, 0, none⟩) 32 32 (suB s) w2 HL.out.symm (by omega) o2.rdS.1 (Ht.out.below F2 hw0))
    have h1 := decE_yes (decO_suB hok)
    have h2 := decS_suB hok
    clear S0 hb2 CY T0 F2
    go_wp2_with fail
    (with_reducible refine CD.out.mono ?_); rintro e w3 ⟨t, ht3, rfl, hb3⟩
    obtain rfl : t = s := ht3.trans h2
    rw [h1]
    have HS3 := Lib.hid (HS2.out.later hb3)
    have o3 := o2.below hb3
    have hq := suEq_refl t
    have hzz : w1.heap.size < w3.heap.size := HS3.out.2.2
    obtain ⟨c0, c1, c2, c3, c4, c5, c6, c7, c8, c9, c10⟩ := HS3.out.1
    have HS4 := Lib.hid (HS3.out.later (below1 w3 (.cells #[.int .i64 t.g, .int .i64 t.al, .int .i64 t.ad, .int .i64 t.ac, .int .i64 t.bl, .int .i64 t.bd, .int .i64 t.bc, .bool t.r, .int .i64 t.wi, .int .i64 t.ep, .int .i64 t.ou] 25)))
    have o4 := o3.below (below1 w3 (.cells #[.int .i64 t.g, .int .i64 t.al, .int .i64 t.ad, .int .i64 t.ac, .int .i64 t.bl, .int .i64 t.bd, .int .i64 t.bc, .bool t.r, .int .i64 t.wi, .int .i64 t.ep, .int .i64 t.ou] 25))
    clear CD HS2 hb3 o2 o3 h1 h2 ht3
    go_wp2_with fail
    (with_reducible refine (CU.out _).mono ?_); rintro e w5 ⟨u, hu64, rfl, hb5⟩
    have HS5 := Lib.hid (HS4.out.later hb5)
    have o5 := o4.below hb5
    have HS6 := Lib.hid (HS5.out.later (below1 w5 (.cells #[.int .i64 u.g, .int .i64 u.al, .int .i64 u.ad, .int .i64 u.ac, .int .i64 u.bl, .int .i64 u.bd, .int .i64 u.bc, .bool u.r, .int .i64 u.wi, .int .i64 u.ep, .int .i64 u.ou] 25)))
    have HU6 := Lib.hid (sat_new w5 u 25 (0, 0))
    have o6 := o5.below (below1 w5 (.cells #[.int .i64 u.g, .int .i64 u.al, .int .i64 u.ad, .int .i64 u.ac, .int .i64 u.bl, .int .i64 u.bd, .int .i64 u.bc, .bool u.r, .int .i64 u.wi, .int .i64 u.ep, .int .i64 u.ou] 25))
    have F6 := HF1.out.trans (HS6.out.2.1.mono HF1.out.size)
    have CE := Lib.hid (suEncode_by t u _ hu64 hok (Ht.out.below F6 hw0))
    clear CU HS3 HS4 HS5 hb5 o4 o5 c0 c1 c2 c3 c4 c5 c6 c7 c8 c9 c10 hq hzz F6
    go_wp2_with fail
    (with_reducible refine CE.out.mono ?_); rintro e w7 ⟨Ay, ny, cy, Y, er, rfl, hYl, hRy, hYe, hb7⟩
    have HYl := Lib.hid hYl
    have HYe := Lib.hid hYe
    have HS7 := Lib.hid (HS6.out.later hb7)
    have HU7 := Lib.hid (HU6.out.below hb7 (by simp))
    have o7 := o6.below hb7
    have CC := Lib.hid (copy_any (some ⟨g, 0, none⟩) 32 32 w7.heap.size (suB t) w7 HL.out.symm o7.rdS.1)
    generalize hub : w5.heap.size = ub at HU7 HU6
    clear CE HS6 HU6 hb7 o6 hYl hYe
    go_wp2_with fail
    (with_reducible refine CC.out.mono ?_); rintro e w8 ⟨v, rfl, o8, hb8⟩
    have HS8 := Lib.hid (HS7.out.later hb8)
    have HU8 := Lib.hid (HU7.out.below hb8 HU7.out.lt)
    have x8 := o7.below hb8
    have r8 := hRy.below hb8 (Nat.le_refl _)
    obtain ⟨g8, cap, rfl, hBg, hglt, hcap, hcm, hrd⟩ := o8.pos (by rw [HL.out]; omega)
    rw [HL.out] at o8 hcap ⊢
    obtain ⟨hc1, hf1⟩ := o8.cell HL.out k (by omega)
    have Hset := Lib.hid (o8.set HL.out k ((suB t).getD k 0 ^^^ c))
    have hx := xor_u8 ((suB t).getD k 0) c
    have HD := Lib.hid (dec_turned hok k bkn c)
    generalize hx0 : (suB t).getD k 0 = x0 at hc1 Hset hx HD
    generalize x0 ^^^ c = x1 at Hset hx HD
    have hsl : ((suB t).set k x1).length = 32 := by rw [List.length_set]; exact HL.out
    have kI : (0 : Int) ≤ (k : Int) ∧ (k : Int) < 32 := by omega
    have hgw : g < w7.heap.size := (o7.lt g rfl).2
    have hubw : ub < w7.heap.size := HU7.out.lt
    have HS9 := Lib.hid (SS.grown HS8.out Hset.out.2 (fun j e => by injection e with e; subst e; exact ⟨Nat.le_trans HS7.out.2.2 hBg, hglt⟩))
    have HU9 := Lib.hid (HU8.out.grown Hset.out.2 (by omega))
    have x9 := x8.grown Hset.out.2 (.inr (fun e => by simp [Value.ownBlock] at e; omega))
    have r9 := r8.keep (w' := w8.setCell ⟨g8, k, none⟩ (.int .u8 (x1.toNat : Int))) (Nat.le_refl _) (fun p hp => Hset.out.2.cell_far p (Nat.lt_of_lt_of_le hp hb8.size) (fun e => by injection e with e; omega))
    have F9 := HF1.out.trans (HS9.out.2.1.mono HF1.out.size)
    have CD2 := Lib.hid (suDecode_any (some ⟨g8, 0, none⟩) 32 cap _ _ hsl.symm hcap Hset.out.1.rdS.1 (Ht.out.below F9 hw0))
    have hz7 : w7.heap.size ≤ (w8.setCell ⟨g8, k, none⟩ (.int .u8 (x1.toNat : Int))).heap.size := Nat.le_trans hb8.size Hset.out.2.size
    have HX9 := Lib.hid x9
    have HR9 := Lib.hid r9
    have HSet := Lib.hid (show w8.heap.size ≤ (w8.setCell ⟨g8, k, none⟩ (.int .u8 (x1.toNat : Int))).heap.size from Hset.out.2.size)
    clear HS7 HU7 HS8 HU8 hb8 x8 r8 o8 hcm hrd hx0 x9 r9 o7 hRy hsl F9 CC Hset
    go_wp2_with fail
    (with_reducible refine (WN.out _).mono ?_); rintro e wy ⟨rfl, hwy⟩
    obtain rfl : wy = w8 := hwy
    go_wp2_with fail
    (with_reducible refine CD2.out.mono ?_); rintro e w10 ⟨t10, ht10, rfl, hb10⟩
    have HS10 := HS9.out.later hb10
    have HU10 := HU9.out.below hb10 HU9.out.lt
    have x10 := HX9.out.below hb10
    have r10 := HR9.out.below hb10 hz7
    have hz10 := Nat.le_trans hz7 hb10.size
    have SZ : SB w w1.heap.size ub t u (w10.alloc (.cells #[.int .i64 t10.g, .int .i64 t10.al, .int .i64 t10.ad, .int .i64 t10.ac, .int .i64 t10.bl, .int .i64 t10.bd, .int .i64 t10.bc, .bool t10.r, .int .i64 t10.wi, .int .i64 t10.ep, .int .i64 t10.ou] 25)) := SB.later ⟨HS10.1, HU10, HF1.out.trans (HS10.2.1.mono HF1.out.size)⟩ (below1 w10 _)
    have HRx := (x10.below (below1 w10 (.cells #[.int .i64 t10.g, .int .i64 t10.al, .int .i64 t10.ad, .int .i64 t10.ac, .int .i64 t10.bl, .int .i64 t10.bd, .int .i64 t10.bc, .bool t10.r, .int .i64 t10.wi, .int .i64 t10.ep, .int .i64 t10.ou] 25))).rdS.1
    have HRy := (r10.below (below1 w10 (.cells #[.int .i64 t10.g, .int .i64 t10.al, .int .i64 t10.ad, .int .i64 t10.ac, .int .i64 t10.bl, .int .i64 t10.bd, .int .i64 t10.bc, .bool t10.r, .int .i64 t10.wi, .int .i64 t10.ep, .int .i64 t10.ou] 25)) hz10).more (Nat.le_trans hz10 (below1 w10 (.cells #[.int .i64 t10.g, .int .i64 t10.al, .int .i64 t10.ad, .int .i64 t10.ac, .int .i64 t10.bl, .int .i64 t10.bd, .int .i64 t10.bc, .bool t10.r, .int .i64 t10.wi, .int .i64 t10.ep, .int .i64 t10.ou] 25)).size)
    have hE : (decE ((suB t).set k x1) == 0) = ((c.toNat : Int) == 0) := by
      rw [← HD.out]
      cases hq : decO ((suB t).set k x1)
      · rw [decE_no hq]; rfl
      · rw [decE_yes hq]; rfl
    generalize decE ((suB t).set k x1) = er2 at hE ⊢
    generalize hrr : suEq t u = rr at HYe
    have e1 : ((c.toNat : Int) == 0) = ((c.toNat : Int) == 0) := rfl
    generalize hqq : ((c.toNat : Int) == 0) = qq at hE
    clear HS9 HU9 HX9 HR9 CD2 ht10 hb10 HS10 HU10 x10 r10 hz10 e1 hc1 hf1 hx HD
    go_upto_region 13 with fail
    go_name_world wz hwz
    rw [hwz] at SZ HRx HRy
    clear hwz
    have HRx := Lib.hid HRx
    have HRy := Lib.hid HRy
    have CSm : Hid (∀ W, Below wz.heap.size wz W → Calls Tryd.prog 9 #[.slice (some ⟨g, 0, none⟩) 32 32, .slice Ay ny cy] W fun e w' => e = .returned (.bool (decide (suB t = Y))) ∧ Below W.heap.size W w') := Lib.hid fun W hW => by
      refine (same_any (some ⟨g, 0, none⟩) Ay 32 ny 32 cy wz.heap.size (suB t) Y W HL.out.symm HYl.out (HRx.out.below hW (Nat.le_refl _)) (HRy.out.below hW (Nat.le_refl _))).mono ?_
      rintro e w' ⟨rfl, m, rfl⟩
      exact ⟨rfl, belowN _ _ _⟩
    refine wp_region_noPanic (region_ord 18 [] (fun V => SB w w1.heap.size ub t u V) (by kernel_rfl) (by kernel_rfl) (fun _ _ _ _ _ h => h) fun R => ?_)
    change anyI _ _ _ _ _ _ 18 _ _ wz.drew
    have HS0 := Lib.hid (show (fun V => SB w w1.heap.size ub t u V) wz.drew from SB.drew SZ)
    refine' anyI_take R 0 rfl (v := ?_) (by kernel_rfl) (by rfl) (fun V hV => ?hy) HS0.out ?_
    case hy => ((try dsimp only at hV);  obtain ⟨⟨q0, q1, q2, q3, q4, q5, q6, q7, q8, q9, q10⟩, ⟨p0, p1, p2, p3, p4, p5, p6, p7, p8, p9, p10⟩, _⟩ := hV; go_simp; try with_reducible rfl)
    try simp only [Act.put, List.getElem_toArray, List.getElem_cons_succ, List.getElem_cons_zero, List.setIfInBounds_toArray, List.set_cons_zero, List.set_cons_succ]
    refine' anyI_take R 1 rfl (v := ?_) (by kernel_rfl) (by rfl) (fun V hV => ?hy) HS0.out ?_
    case hy => ((try dsimp only at hV);  obtain ⟨⟨q0, q1, q2, q3, q4, q5, q6, q7, q8, q9, q10⟩, ⟨p0, p1, p2, p3, p4, p5, p6, p7, p8, p9, p10⟩, _⟩ := hV; go_simp; try with_reducible rfl)
    try simp only [Act.put, List.getElem_toArray, List.getElem_cons_succ, List.getElem_cons_zero, List.setIfInBounds_toArray, List.set_cons_zero, List.set_cons_succ]
    refine' anyI_take R 3 rfl (v := ?_) (by kernel_rfl) (by rfl) (fun V hV => ?hy) HS0.out ?_
    case hy => ((try dsimp only at hV);  obtain ⟨⟨q0, q1, q2, q3, q4, q5, q6, q7, q8, q9, q10⟩, ⟨p0, p1, p2, p3, p4, p5, p6, p7, p8, p9, p10⟩, _⟩ := hV; go_simp; try with_reducible rfl)
    try simp only [Act.put, List.getElem_toArray, List.getElem_cons_succ, List.getElem_cons_zero, List.setIfInBounds_toArray, List.set_cons_zero, List.set_cons_succ]
    refine' anyI_take R 4 rfl (v := ?_) (by kernel_rfl) (by rfl) (fun V hV => ?hy) HS0.out ?_
    case hy => ((try dsimp only at hV);  obtain ⟨⟨q0, q1, q2, q3, q4, q5, q6, q7, q8, q9, q10⟩, ⟨p0, p1, p2, p3, p4, p5, p6, p7, p8, p9, p10⟩, _⟩ := hV; go_simp; try with_reducible rfl)
    try simp only [Act.put, List.getElem_toArray, List.getElem_cons_succ, List.getElem_cons_zero, List.setIfInBounds_toArray, List.set_cons_zero, List.set_cons_succ]
    refine' anyI_take R 5 rfl (v := ?_) (by kernel_rfl) (by rfl) (fun V hV => ?hy) HS0.out ?_
    case hy => ((try dsimp only at hV);  obtain ⟨⟨q0, q1, q2, q3, q4, q5, q6, q7, q8, q9, q10⟩, ⟨p0, p1, p2, p3, p4, p5, p6, p7, p8, p9, p10⟩, _⟩ := hV; go_simp; try with_reducible rfl)
    try simp only [Act.put, List.getElem_toArray, List.getElem_cons_succ, List.getElem_cons_zero, List.setIfInBounds_toArray, List.set_cons_zero, List.set_cons_succ]
    refine anyI_one 2 (by kernel_rfl) rfl ?_
    try simp only [List.getElem_toArray, List.getElem_cons_succ, List.getElem_cons_zero]
    refine opE_step ?_
    rw [if_pos (by rfl)]
    go_simp
    go_at_call 9
    refine (CSm.out _ (Below.refl _ _).drew).mono ?_
    rintro e wS ⟨rfl, hbS⟩
    rw [HYe.out]
    replace HS0 := Lib.hid (SB.later HS0.out hbS)
    clear hbS
    dsimp only
    refine ⟨HS0.out, ?_⟩
    try simp only [Act.put, List.getElem_toArray, List.getElem_cons_succ, List.getElem_cons_zero, List.setIfInBounds_toArray, List.set_cons_zero, List.set_cons_succ]
    refine' anyI_take R 6 rfl (v := ?_) (by kernel_rfl) (by rfl) (fun V hV => ?hy) HS0.out ?_
    case hy => ((try dsimp only at hV);  obtain ⟨⟨q0, q1, q2, q3, q4, q5, q6, q7, q8, q9, q10⟩, ⟨p0, p1, p2, p3, p4, p5, p6, p7, p8, p9, p10⟩, _⟩ := hV; go_simp; try with_reducible rfl)
    try simp only [Act.put, List.getElem_toArray, List.getElem_cons_succ, List.getElem_cons_zero, List.setIfInBounds_toArray, List.set_cons_zero, List.set_cons_succ]
    refine' anyI_take R 7 rfl (v := ?_) (by kernel_rfl) (by rfl) (fun V hV => ?hy) HS0.out ?_
    case hy => ((try dsimp only at hV);  obtain ⟨⟨q0, q1, q2, q3, q4, q5, q6, q7, q8, q9, q10⟩, ⟨p0, p1, p2, p3, p4, p5, p6, p7, p8, p9, p10⟩, _⟩ := hV; go_simp; try with_reducible rfl)
    try simp only [Act.put, List.getElem_toArray, List.getElem_cons_succ, List.getElem_cons_zero, List.setIfInBounds_toArray, List.set_cons_zero, List.set_cons_succ]
    refine' anyI_take R 8 rfl (v := ?_) (by kernel_rfl) (by rfl) (fun V hV => ?hy) HS0.out ?_
    case hy => ((try dsimp only at hV);  obtain ⟨⟨q0, q1, q2, q3, q4, q5, q6, q7, q8, q9, q10⟩, ⟨p0, p1, p2, p3, p4, p5, p6, p7, p8, p9, p10⟩, _⟩ := hV; go_simp; try with_reducible rfl)
    try simp only [Act.put, List.getElem_toArray, List.getElem_cons_succ, List.getElem_cons_zero, List.setIfInBounds_toArray, List.set_cons_zero, List.set_cons_succ]
    refine' anyI_take R 9 rfl (v := ?_) (by kernel_rfl) (by rfl) (fun V hV => ?hy) HS0.out ?_
    case hy => ((try dsimp only at hV);  obtain ⟨⟨q0, q1, q2, q3, q4, q5, q6, q7, q8, q9, q10⟩, ⟨p0, p1, p2, p3, p4, p5, p6, p7, p8, p9, p10⟩, _⟩ := hV; go_simp; try with_reducible rfl)
    try simp only [Act.put, List.getElem_toArray, List.getElem_cons_succ, List.getElem_cons_zero, List.setIfInBounds_toArray, List.set_cons_zero, List.set_cons_succ]
    refine' anyI_take R 10 rfl (v := ?_) (by kernel_rfl) (by rfl) (fun V hV => ?hy) HS0.out ?_
    case hy => ((try dsimp only at hV);  obtain ⟨⟨q0, q1, q2, q3, q4, q5, q6, q7, q8, q9, q10⟩, ⟨p0, p1, p2, p3, p4, p5, p6, p7, p8, p9, p10⟩, _⟩ := hV; go_simp; try with_reducible rfl)
    try simp only [Act.put, List.getElem_toArray, List.getElem_cons_succ, List.getElem_cons_zero, List.setIfInBounds_toArray, List.set_cons_zero, List.set_cons_succ]
    refine' anyI_take R 11 rfl (v := ?_) (by kernel_rfl) (by rfl) (fun V hV => ?hy) HS0.out ?_
    case hy => ((try dsimp only at hV);  obtain ⟨⟨q0, q1, q2, q3, q4, q5, q6, q7, q8, q9, q10⟩, ⟨p0, p1, p2, p3, p4, p5, p6, p7, p8, p9, p10⟩, _⟩ := hV; go_simp; try with_reducible rfl)
    try simp only [Act.put, List.getElem_toArray, List.getElem_cons_succ, List.getElem_cons_zero, List.setIfInBounds_toArray, List.set_cons_zero, List.set_cons_succ]
    refine' anyI_take R 12 rfl (v := ?_) (by kernel_rfl) (by rfl) (fun V hV => ?hy) HS0.out ?_
    case hy => ((try dsimp only at hV);  obtain ⟨⟨q0, q1, q2, q3, q4, q5, q6, q7, q8, q9, q10⟩, ⟨p0, p1, p2, p3, p4, p5, p6, p7, p8, p9, p10⟩, _⟩ := hV; go_simp; try with_reducible rfl)
    try simp only [Act.put, List.getElem_toArray, List.getElem_cons_succ, List.getElem_cons_zero, List.setIfInBounds_toArray, List.set_cons_zero, List.set_cons_succ]
    refine' anyI_take R 13 rfl (v := ?_) (by kernel_rfl) (by rfl) (fun V hV => ?hy) HS0.out ?_
    case hy => ((try dsimp only at hV);  obtain ⟨⟨q0, q1, q2, q3, q4, q5, q6, q7, q8, q9, q10⟩, ⟨p0, p1, p2, p3, p4, p5, p6, p7, p8, p9, p10⟩, _⟩ := hV; go_simp; try with_reducible rfl)
    try simp only [Act.put, List.getElem_toArray, List.getElem_cons_succ, List.getElem_cons_zero, List.setIfInBounds_toArray, List.set_cons_zero, List.set_cons_succ]
    refine' anyI_take R 14 rfl (v := ?_) (by kernel_rfl) (by rfl) (fun V hV => ?hy) HS0.out ?_
    case hy => ((try dsimp only at hV);  obtain ⟨⟨q0, q1, q2, q3, q4, q5, q6, q7, q8, q9, q10⟩, ⟨p0, p1, p2, p3, p4, p5, p6, p7, p8, p9, p10⟩, _⟩ := hV; go_simp; try with_reducible rfl)
    try simp only [Act.put, List.getElem_toArray, List.getElem_cons_succ, List.getElem_cons_zero, List.setIfInBounds_toArray, List.set_cons_zero, List.set_cons_succ]
    refine anyI_one 15 (by kernel_rfl) rfl ?_
    try simp only [List.getElem_toArray, List.getElem_cons_succ, List.getElem_cons_zero]
    refine opE_step ?_
    rw [if_pos (by rfl)]
    go_simp
    go_at_call 12
    refine (Wk.out _ HS0.out.2.2).mono ?_
    rintro e wW ⟨rfl, hbW⟩
    replace HS0 := Lib.hid (SB.later HS0.out hbW)
    clear hbW
    dsimp only
    refine ⟨HS0.out, ?_⟩
    try simp only [Act.put, List.getElem_toArray, List.getElem_cons_succ, List.getElem_cons_zero, List.setIfInBounds_toArray, List.set_cons_zero, List.set_cons_succ]
    refine' anyI_take R 16 rfl (v := ?_) (by kernel_rfl) (by rfl) (fun V hV => ?hy) HS0.out ?_
    case hy => ((try dsimp only at hV);  obtain ⟨⟨q0, q1, q2, q3, q4, q5, q6, q7, q8, q9, q10⟩, ⟨p0, p1, p2, p3, p4, p5, p6, p7, p8, p9, p10⟩, _⟩ := hV; go_simp; try with_reducible rfl)
    try simp only [Act.put, List.getElem_toArray, List.getElem_cons_succ, List.getElem_cons_zero, List.setIfInBounds_toArray, List.set_cons_zero, List.set_cons_succ]
    refine' anyI_take R 17 rfl (v := ?_) (by kernel_rfl) (by rfl) (fun V hV => ?hy) HS0.out ?_
    case hy => ((try dsimp only at hV);  obtain ⟨⟨q0, q1, q2, q3, q4, q5, q6, q7, q8, q9, q10⟩, ⟨p0, p1, p2, p3, p4, p5, p6, p7, p8, p9, p10⟩, _⟩ := hV; go_simp; try with_reducible rfl)
    try simp only [Act.put, List.getElem_toArray, List.getElem_cons_succ, List.getElem_cons_zero, List.setIfInBounds_toArray, List.set_cons_zero, List.set_cons_succ]
    refine anyI_tail (by kernel_rfl) ?_
    try simp only [List.drop_succ_cons, List.drop_zero]
    clear R
    go_wp2_with fail
    refine NoPanic.normal ?_
    go_wp2_with fail
    go_ret
    exact ⟨rfl, HS0.out.2.2⟩
end Go.Proofs.YtdecpkcdljpnaaaDoor
