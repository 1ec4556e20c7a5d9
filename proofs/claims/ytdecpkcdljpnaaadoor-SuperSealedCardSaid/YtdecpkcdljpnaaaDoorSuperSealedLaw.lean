/- SuperSealed walked. -/
import Derived.Test.YtdecpkcdljpnaaaDoorSupOfA
import Derived.Test.YtdecpkcdljpnaaaDoorSupWakes
import Derived.Test.YtdecpkcdljpnaaaDoorSupDec
import Derived.Test.YtdecpkcdljpnaaaDoorSupEq
import Derived.Test.YtdecpkcdljpnaaaDoorSupSeal
import Derived.Test.YtdecpkcdljpnaaaDoorRefEnc
import Derived.Test.YtdecpkcdljpnaaaDoorKeepCopy
import Derived.Test.YtdecpkcdljpnaaaDoorMakeS
set_option linter.unusedVariables false
set_option linter.unusedSimpArgs false
namespace Go.Proofs.YtdecpkcdljpnaaaDoor
open Go.RowKit

attribute [local go_sem ↓] su_eql su_neq
theorem eqZ (s : Su) (w : World) : (binOp .eql 25 (.agg #[.int .i64 s.g, .int .i64 s.al, .int .i64 s.ad, .int .i64 s.ac, .int .i64 s.bl, .int .i64 s.bd, .int .i64 s.bc, .bool s.r, .int .i64 s.wi, .int .i64 s.ep, .int .i64 s.ou]) (.agg #[.int .i64 0, .int .i64 0, .int .i64 0, .int .i64 0, .int .i64 0, .int .i64 0, .int .i64 0, .bool false, .int .i64 0, .int .i64 0, .int .i64 0])).run Tryd.prog w = .ok (.bool (suEq s suZ)) w := su_eql s suZ w
attribute [local go_sem ↓] eqZ
set_option maxHeartbeats 8000000 in
theorem supersealed (gen a b window epoch out how at' : Int) (c : UInt8) (w : World) (hgen : (-9223372036854775808 ≤ gen ∧ gen ≤ 9223372036854775807)) (ha : (-9223372036854775808 ≤ a ∧ a ≤ 9223372036854775807)) (hb : (-9223372036854775808 ≤ b ∧ b ≤ 9223372036854775807)) (hwin : (-9223372036854775808 ≤ window ∧ window ≤ 9223372036854775807)) (hep : (-9223372036854775808 ≤ epoch ∧ epoch ≤ 9223372036854775807)) (hout : (-9223372036854775808 ≤ out ∧ out ≤ 9223372036854775807)) (hhow : (-9223372036854775808 ≤ how ∧ how ≤ 9223372036854775807)) (hat : (-9223372036854775808 ≤ at' ∧ at' ≤ 9223372036854775807)) (ht : TabOk w) :
    Calls Tryd.prog 7 #[.int .i64 gen, .int .i64 a, .int .i64 b, .int .i64 window, .int .i64 epoch, .int .i64 out, .int .i64 how, .int .i64 at', .int .u8 (c.toNat : Int)] w fun e w' => e = .returned (.bool true) ∧ Below w.heap.size w w' := by
  have hm1 : -28 < how.tmod 28 := Int.lt_tmod_of_pos _ (by omega)
  have hm2 : how.tmod 28 < 28 := Int.tmod_lt_of_pos _ (by omega)
  have CO := Lib.hid (fun V => suOf_any gen a b window epoch out (how.tmod 28) V hgen ha hb hwin hep hout (by omega))
  have Ht := Lib.hid ht
  have hw0 : 0 < w.heap.size := ht.pos
  have Wk := Lib.hid (fun W (hW : Below w.heap.size w W) => wakesSu_any W (Ht.out.below hW hw0))
  have bk := withinI_bd at' 28 (by omega)
  have WN := Lib.hid (fun W => within_any at' 28 W hat (by omega))
  obtain ⟨k, hk⟩ := Int.eq_ofNat_of_zero_le bk.1
  rw [hk] at WN bk
  have bkn : k < 28 := by omega
  clear hgen ha hb hwin hep hout hat ht hk
  go_enter Tryd.func7, Tryd.ntmps7
  go_wp2_with fail
  (with_reducible refine (CO.out _).mono ?_); rintro e w1 ⟨s, h64, rfl, hb1⟩
  have S0 := ss_new w1 s 25 (0, 0)
  have HF1 := Lib.hid hb1
  clear CO hb1 hm1 hm2 hhow
  cases hok : suOk s
  · have CN := Lib.hid (fun W => suEncode_no s W h64 hok)
    clear hok h64 WN bk
    go_wp2_with fail
    (with_reducible refine (CN.out _).mono ?_); rintro e w2 ⟨rfl, hb2⟩
    have F2 := HF1.out.trans ((S0.later hb2).2.1.mono HF1.out.size)
    clear hb2 S0
    go_wp2_with fail
    (with_reducible refine (Wk.out _ F2).mono ?_); rintro e w6 ⟨rfl, hb6⟩
    go_wp2_with fail
    go_ret
    exact ⟨rfl, F2.trans (hb6.mono F2.size)⟩
  · have T0 := HF1.out.trans (S0.2.1.mono HF1.out.size)
    have CY := Lib.hid (suEncode_yes s _ h64 hok (Ht.out.below T0 hw0))
    have HL := Lib.hid (suB_len s)
    go_wp2_with fail
    (with_reducible refine CY.out.mono ?_); rintro e w2 ⟨g, rfl, o2, hb2⟩
    have HS1 := Lib.hid (S0.later hb2)
    have CC := Lib.hid (copy_any (some ⟨g, 0, none⟩) 32 32 w2.heap.size (suB s) w2 HL.out.symm o2.rdS.1)
    clear S0 hb2 o2 CY T0
    go_wp2_with fail
    (with_reducible refine (WN.out _).mono ?_); rintro e wy ⟨rfl, hwy⟩
    obtain rfl : wy = w2 := hwy
    go_wp2_with fail
    (with_reducible refine CC.out.mono ?_); rintro e w3 ⟨v, rfl, o3, hb3⟩
    have HS3 := Lib.hid (HS1.out.later hb3)
    obtain ⟨g3, cap, rfl, hBg, hglt, hcap, hcm, hrd⟩ := o3.pos (by rw [HL.out]; omega)
    rw [HL.out] at o3 hcap ⊢
    obtain ⟨hc1, hf1⟩ := o3.cell HL.out k (by omega)
    have Hset := Lib.hid (o3.set HL.out k ((suB s).getD k 0 ^^^ c))
    have hx := xor_u8 ((suB s).getD k 0) c
    have HR := Lib.hid (show resealed s k c = stamped ((suB s).set k ((suB s).getD k 0 ^^^ c)) [] from rfl)
    have HRl := Lib.hid (resealed_len s k c)
    generalize hx0 : (suB s).getD k 0 = x0 at hc1 Hset hx HR
    generalize x0 ^^^ c = x1 at Hset hx HR
    have hsl : ((suB s).set k x1).length = 32 := by rw [List.length_set]; exact HL.out
    have kI : (0 : Int) ≤ (k : Int) ∧ (k : Int) < 32 := by omega
    have HS4 := Lib.hid (SS.grown HS3.out Hset.out.2 (fun j e => by injection e with e; subst e; exact ⟨Nat.le_trans HS1.out.2.2 hBg, hglt⟩))
    have CS := Lib.hid (refSealed_n (some ⟨g3, 0, none⟩) none 32 cap 0 _ [] 0 _ rfl rfl (by omega) hsl Hset.out.1.rdS.1 ⟨by simp, fun h => by simp at h⟩)
    clear hrd CC HS1 hb3 o3 hsl hcap hcm hx0 HL
    go_wp2_with fail
    (with_reducible refine CS.out.mono ?_); rintro e w5 ⟨v5, rfl, o5, hb5⟩
    rw [← HR.out] at o5
    have HS5 := Lib.hid (HS4.out.later hb5)
    have F5 := HF1.out.trans (HS5.out.2.1.mono HF1.out.size)
    obtain ⟨A5, cp5, rfl, hcp5, hrd5⟩ := o5.rd
    rw [HRl.out] at hcp5 o5 ⊢
    have CD := Lib.hid (suDecode_any A5 32 cp5 (resealed s k c) w5 HRl.out.symm hcp5 hrd5 (Ht.out.below F5 hw0))
    clear HS4 HS3 Hset CS HR hb5 hc1 hf1 hx hrd5 hcp5
    go_wp2_with fail
    (with_reducible refine CD.out.mono ?_); rintro e w6 ⟨t, ht6, rfl, hb6⟩
    have HS6 := Lib.hid (HS5.out.later hb6)
    have o6 := Lib.hid (o5.below hb6)
    have F6 := HF1.out.trans (HS6.out.2.1.mono HF1.out.size)
    have F7 := F6.trans ((below1 w6 (.cells #[.int .i64 t.g, .int .i64 t.al, .int .i64 t.ad, .int .i64 t.ac, .int .i64 t.bl, .int .i64 t.bd, .int .i64 t.bc, .bool t.r, .int .i64 t.wi, .int .i64 t.ep, .int .i64 t.ou] 25)).mono F6.size)
    have ST := Lib.hid (sat_new w6 t 25 (0, 0))
    have hzz : w1.heap.size < w6.heap.size := HS6.out.2.2
    obtain ⟨c0, c1, c2, c3, c4, c5, c6, c7, c8, c9, c10⟩ := HS6.out.1
    have HS7 := Lib.hid (HS6.out.later (below1 w6 (.cells #[.int .i64 t.g, .int .i64 t.al, .int .i64 t.ad, .int .i64 t.ac, .int .i64 t.bl, .int .i64 t.bd, .int .i64 t.bc, .bool t.r, .int .i64 t.wi, .int .i64 t.ep, .int .i64 t.ou] 25)))
    have Hno := Lib.hid (@decE_no (resealed s k c))
    have Hyes := Lib.hid (@decE_yes (resealed s k c))
    clear CD HS5 hb6 o5 F5
    by_cases hc : c = 0
    · have e1 : ((c.toNat : Int) == 0) = true := by rw [byte_eq0]; exact decide_eq_true hc
      subst hc
      have hz := resealed_zero s k bkn
      have h1 : decE (resealed s k 0) = 0 := by rw [hz]; exact decE_yes (decO_suB hok)
      have h2 : suEq t s = true := by rw [ht6, hz, decS_suB hok]; exact suEq_refl s
      rw [h1]
      clear h1 hz ht6 Hno Hyes HRl o6
      go_wp2_with fail
      (with_reducible refine (Wk.out _ F7).mono ?_); rintro e w9 ⟨rfl, hb9⟩
      go_wp2_with fail
      go_ret
      exact ⟨rfl, F7.trans (hb9.mono F7.size)⟩
    · have e1 : ((c.toNat : Int) == 0) = false := by rw [byte_eq0]; exact decide_eq_false hc
      cases hd : decO (resealed s k c)
      · have h2 : suEq t suZ = true := by rw [ht6, decS_no hd]; exact suEq_refl suZ
        rw [Hno.out hd]
        clear ht6 Hno Hyes HRl o6 hd
        by_cases hk4 : k < 4
        · have n1 : ((k : Int) < 4) := by omega
          go_wp2_with fail
          (with_reducible refine (Wk.out _ F7).mono ?_); rintro e w9 ⟨rfl, hb9⟩
          go_wp2_with fail
          go_ret
          exact ⟨rfl, F7.trans (hb9.mono F7.size)⟩
        · have n1 : ¬ ((k : Int) < 4) := by omega
          by_cases hk19 : 19 ≤ k
          · have n2 : (19 : Int) ≤ (k : Int) := by omega
            go_wp2_with fail
            (with_reducible refine (Wk.out _ F7).mono ?_); rintro e w9 ⟨rfl, hb9⟩
            go_wp2_with fail
            go_ret
            exact ⟨rfl, F7.trans (hb9.mono F7.size)⟩
          · have n2 : ¬ ((19 : Int) ≤ (k : Int)) := by omega
            go_wp2_with fail
            (with_reducible refine (Wk.out _ F7).mono ?_); rintro e w9 ⟨rfl, hb9⟩
            go_wp2_with fail
            go_ret
            exact ⟨rfl, F7.trans (hb9.mono F7.size)⟩
      · have hkk : ¬ (k < 4 ∨ 19 ≤ k) := fun h => by rw [resealed_none s k c bkn hc h] at hd; cases hd
        have n1 : ¬ ((k : Int) < 4) := by omega
        have n2 : ¬ ((19 : Int) ≤ (k : Int)) := by omega
        have ht7 : t = flds (resealed s k c) := by rw [ht6, decS_yes hd]
        have h2 : suEq t s = false := suEq_no (by rw [ht7]; exact resealed_other s k c bkn hc hd)
        have h3 := (decO_iff _).1 hd
        have hok2 : suOk t = true := by rw [ht7]; exact h3.2.1
        have hb2 : suB t = resealed s k c := by rw [ht7]; exact h3.2.2
        have h642 : Su64 t := by rw [ht7]; exact flds64 _
        have CY2 := Lib.hid (suEncode_yes t _ h642 hok2 (Ht.out.below F7 hw0))
        rw [hb2] at CY2
        rw [Hyes.out hd]
        clear ht6 Hno Hyes hd ht7 h3 hok2 hb2 h642 hkk
        go_wp2_with fail
        (with_reducible refine CY2.out.mono ?_); rintro e w8 ⟨g8, rfl, o8, hb8⟩
        have HT8 := Lib.hid (ST.out.below hb8 (by simp))
        have HS8 := Lib.hid (HS7.out.later hb8)
        have F8 := F7.trans (hb8.mono F7.size)
        have p8 := (o6.out.below (below1 w6 (.cells #[.int .i64 t.g, .int .i64 t.al, .int .i64 t.ad, .int .i64 t.ac, .int .i64 t.bl, .int .i64 t.bd, .int .i64 t.bc, .bool t.r, .int .i64 t.wi, .int .i64 t.ep, .int .i64 t.ou] 25))).below hb8
        have CQ := Lib.hid (same_eq (some ⟨g8, 0, none⟩) A5 32 32 cp5 _ (resealed s k c) w8 HRl.out.symm o8.rdS.1 p8.rdS.1)
        clear c0 c1 c2 c3 c4 c5 c6 c7 c8 c9 c10 ST HS7 HS6 o6 o8 p8 hb8 CY2
        obtain ⟨d0, d1, d2, d3, d4, d5, d6, d7, d8, d9, d10⟩ := HT8.out
        obtain ⟨c0, c1, c2, c3, c4, c5, c6, c7, c8, c9, c10⟩ := HS8.out.1
        go_wp2_with fail
        (with_reducible refine CQ.out.mono ?_); rintro e wq ⟨rfl, hbq⟩
        have F9 := F8.trans (hbq.mono F8.size)
        go_wp2_with fail
        (with_reducible refine (Wk.out _ F9).mono ?_); rintro e w9 ⟨rfl, hb9⟩
        go_wp2_with fail
        go_ret
        exact ⟨rfl, F9.trans (hb9.mono F9.size)⟩
end Go.Proofs.YtdecpkcdljpnaaaDoor
