/- EraseTwo's walk. -/
import Derived.Test.YtfbfodcjfcnfoaaRefSynd
import Derived.Test.YtfbfodcjfcnfoaaEraseWakes
import Derived.Test.YtfbfodcjfcnfoaaEraseBack
import Derived.Test.YtfbfodcjfcnfoaaTwoCuts
import Derived.Test.YtfbfodcjfcnfoaaSyndMod
namespace Go.Proofs.Ytfbfodcjfcnfoaa
open Go.RowKit

/-- An own row that holds some. -/
theorem owr_of {w : World} {base n : Nat} {v : Value} {xs : List Value} {rs : List (List UInt8)} (h : w.ownsRow base 22 1 v n xs) (hx : RowsY w base v.ownBlock xs rs) (hp : 0 < rs.length) : ∃ g cap, v = .slice (some ⟨g, 0, none⟩) rs.length cap ∧ OwR w base g rs.length cap rs := by
  have hn : n = rs.length := by have := h.1; have := hx.1; omega
  subst hn
  rcases h.2 with ⟨_, h0⟩ | ⟨g, cap, cur, rfl, hb, hg, h3, _⟩
  · omega
  · exact ⟨g, cap, rfl, rfl, h3, hb, xs, h, hx⟩
theorem grown_set (W : World) (g j : Nat) (v : Value) : W.grownBy (W.setCell ⟨g, j, none⟩ v) (some g) :=
  ⟨rfl, rfl, rfl, by simp, fun k _ hk => heap_setCell_other W ⟨g, j, none⟩ k v (fun e => hk (by simp [e]))⟩
theorem pick_two {M ka q : Nat} (h1 : ka < M) (h2 : q + 1 < M) : (ka + 1 + q) % M < M ∧ (ka + 1 + q) % M ≠ ka := by
  have hM : 0 < M := by omega
  refine ⟨Nat.mod_lt _ hM, ?_⟩
  by_cases h : ka + 1 + q < M
  · rw [Nat.mod_eq_of_lt h]; omega
  · rw [Nat.mod_eq_sub_mod (by omega), Nat.mod_eq_of_lt (by omega)]; omega
set_option maxRecDepth 100000 in
set_option maxHeartbeats 3200000 in
theorem two (Al : Option Addr) (l : List (List UInt8)) (cl : Nat) (n a b : Int) (Ap : Option Addr) (p : List UInt8) (cp : Nat) (Aq : Option Addr) (q : List UInt8) (cq : Nat) (w : World) (_ : l.length ≤ cl) (hrl : RdC w w.heap.size Al l) (hn : -9223372036854775808 ≤ n ∧ n ≤ 9223372036854775807)
    (ha : -9223372036854775808 ≤ a ∧ a ≤ 9223372036854775807) (hb : -9223372036854775808 ≤ b ∧ b ≤ 9223372036854775807) (lp : p.length ≤ cp) (_ : cp ≤ 140737488355328) (hp : RdB w w.heap.size Ap p) (lq : q.length ≤ cq) (_ : cq ≤ 140737488355328) (hq : RdB w w.heap.size Aq q) :
    Calls Try.prog 4 #[.slice Al l.length cl, .int .i64 n, .int .i64 a, .int .i64 b, .slice Ap p.length cp, .slice Aq q.length cq] w fun e w' => e = .returned (.bool true) ∧ Below w.heap.size w w' := by
  have hs := sub_mod5_bd n hn
  have Hm := Lib.hid (sub_mod5 n)
  obtain ⟨hn1, hn2⟩ := hn
  have hlo : -5 < n.tmod 5 := Int.lt_tmod_of_pos _ (by omega)
  have hhi : n.tmod 5 < 5 := Int.tmod_lt_of_pos _ (by omega)
  have Hpa := Lib.hid (partsR_alike (rs := l) Hm.out)
  have hwi := withinI_bd (n - n.tmod 5) 8 (by omega)
  obtain ⟨q0, hq0⟩ := Int.eq_ofNat_of_zero_le hwi.1
  rw [hq0] at hwi Hpa
  rw [Int.toNat_natCast] at Hpa
  have hq8 : q0 < 8 := by omega
  clear hq0 hwi
  obtain ⟨N, hN⟩ : ∃ N, N = 1 + q0 := ⟨_, rfl⟩
  rw [← hN] at Hpa
  have hN1 : 1 ≤ N := by omega
  have hN8 : N ≤ 8 := by omega
  clear hN hq8
  have Hs := Lib.hid hs
  obtain ⟨hs1, hs2⟩ := hs
  have CX := Lib.hid (parts_row Al l l.length cl (n - n.tmod 5) w rfl hrl Hs.out)
  have hxl := Lib.hid (show (partsR l (n - n.tmod 5)).length ≤ 7 by rw [partsR_len]; omega)
  generalize partsR l (n - n.tmod 5) = x at CX hxl Hpa
  have hxl := hxl.out
  clear hrl
  go_enter Try.func4, Try.ntmps4
  go_wp2_with fail
  refine CX.out.mono ?_
  rintro e w1 ⟨v1, n1, xs1, rfl, hown1, hrows1, hb1⟩
  clear CX
  have hsz1 := hb1.size
  by_cases h2 : x.length < 2
  · obtain ⟨A1, c1, rfl, _, _⟩ := rdf_own hown1 (by omega) hrows1
    have g2 : (x.length : Int) < 2 := by omega
    go_wp2_with fail
    refine (wakesErase_any w1).mono ?_
    rintro e w2 ⟨rfl, hb2⟩
    go_wp2
    go_ret
    exact ⟨rfl, hb1.trans (hb2.mono hsz1)⟩
  · obtain ⟨gx, cx, rfl, hx⟩ := owr_of hown1 hrows1 (by omega)
    clear hown1 hrows1
    obtain ⟨A0, c0, hc0, hr0, _⟩ := hx.cell 0 (by omega)
    have hN0 : (x.getD 0 []).length = N := Hpa.out _ (by simp [show 0 < x.length by omega])
    rw [hN0] at hc0
    clear hr0 hN0
    have g2 : ¬ (x.length : Int) < 2 := by omega
    have g0 : (0 : Int) < (x.length : Int) := by omega
    have nn0 : (0 : Int) ≤ (N : Int) := by omega
    have CP : Hid (∀ W, Below w1.heap.size w1 W → Calls Try.prog 12 #[.slice Ap p.length cp, .int .i64 9] W fun e w' => ∃ v, e = .returned v ∧ OwB 5 w' W.heap.size v (p.take 9) ∧ Below W.heap.size W w') :=
      Lib.hid fun W h => cut_any Ap p.length cp w.heap.size 9 p W (by decide) rfl lp (hp.below (hb1.trans (h.mono hsz1)) (Nat.le_refl _))
    have CQ : Hid (∀ W, Below w1.heap.size w1 W → Calls Try.prog 12 #[.slice Aq q.length cq, .int .i64 9] W fun e w' => ∃ v, e = .returned v ∧ OwB 5 w' W.heap.size v (q.take 9) ∧ Below W.heap.size W w') :=
      Lib.hid fun W h => cut_any Aq q.length cq w.heap.size 9 q W (by decide) rfl lq (hq.below (hb1.trans (h.mono hsz1)) (Nat.le_refl _))
    have lp9 : (p.take 9).length ≤ 9 := by rw [List.length_take]; omega
    have lq9 : (q.take 9).length ≤ 9 := by rw [List.length_take]; omega
    generalize p.take 9 = xp at CP lp9
    generalize q.take 9 = xq at CQ lq9
    go_wp2_with fail
    go_region_held3 (fun _ => True) (trivial)
      (first
        | (go_at_call 12
           (with_reducible refine (CP.out _ ?_).mono ?_)
           exact (Below.refl _ _).drew
           rintro e wa ⟨va, rfl, hoa, hba⟩
           have OA : One 5 w1 wa va xp := One.first ((Below.refl w1.heap.size w1).drew) hoa hba
           dsimp only)
        | (go_at_call 12
           (with_reducible refine (CQ.out _ OBb).mono ?_)
           rintro e wc ⟨vc, rfl, hoc, hbc⟩
           have TB := OB.two hoc hbc
           dsimp only)
        | (refine step_append_Z _ (by rfl) _ _ _ _ (by rfl) w1.heap.size 5 .i64 Try.underlying22 Try.underlying3 info_u8 vc xq (by rfl) TB.2.1 .i64 9 (by rfl) (by decide) (by omega) TB.2.2.2.2.1 ?_
           intro vd wd hod hgd hatd
           obtain ⟨gd, kd, rfl, hkd⟩ := hod.nine
           have id1 : (N : Int) ≤ (kd : Int) := by omega
           have TD := TB.growR hod hgd hatd
           dsimp only)
        | (refine step_append_Z _ (by rfl) _ _ _ _ (by rfl) w1.heap.size 5 .i64 Try.underlying22 Try.underlying3 info_u8 va xp (by rfl) OA.1 .i64 9 (by rfl) (by decide) (by omega) OA.2.1 ?_
           intro vb wb hob hgb hatb
           obtain ⟨gb, kb, rfl, hkb⟩ := hob.nine
           have ib1 : (N : Int) ≤ (kb : Int) := by omega
           have OB := OA.grow hob hgb
           have OBb := OB.2.2
           dsimp only))
    obtain ⟨tp, lpp⟩ := TD.1.nineS (N := N) (by omega)
    obtain ⟨tq, lqq⟩ := TD.2.1.nineS (N := N) (by omega)
    have hbd := TD.2.2.2.2.2
    have hxd := hx.below hbd
    have hgx := hx.lt
    have hwd := hb1.trans (hbd.mono hsz1)
    clear TD TB OB OA OBb hoa hba hob hgb hatb hoc hbc hod hgd hatd CP CQ hx
    generalize (xp ++ List.replicate 9 (0 : UInt8)).take N = pp at tp lpp
    generalize (xq ++ List.replicate 9 (0 : UInt8)).take N = qq at tq lqq
    have hM : 2 ≤ x.length := by omega
    have hwa := withinI_bd a (x.length : Int) (by omega)
    have hwb := withinI_bd b ((x.length : Int) - 1) (by omega)
    obtain ⟨ka, hka⟩ := Int.eq_ofNat_of_zero_le hwa.1
    obtain ⟨kq, hkq⟩ := Int.eq_ofNat_of_zero_le hwb.1
    rw [hka] at hwa
    rw [hkq] at hwb
    have Hka := Lib.hid hka
    have Hkq := Lib.hid hkq
    clear hka hkq
    have hka : ka < x.length := by omega
    have hkq : kq + 1 < x.length := by omega
    clear hwa hwb
    go_wp2_with fail
    refine (within_any a (x.length : Int) wd ha (by omega)).mono ?_
    rintro e w2 ⟨rfl, rfl⟩
    rw [Hka.out]
    go_wp2_with fail
    refine (within_any b ((x.length : Int) - 1) w2 hb (by omega)).mono ?_
    rintro e w3 ⟨rfl, rfl⟩
    rw [Hkq.out]
    obtain ⟨hkb, hne⟩ := pick_two hka hkq
    have eb : ((ka : Int) + 1 + (kq : Int)).tmod (x.length : Int) = (((ka + 1 + kq) % x.length : Nat) : Int) := by
      rw [Int.natCast_emod, Int.tmod_eq_emod_of_nonneg (by omega)]
      congr 1
    generalize (ka + 1 + kq) % x.length = kb2 at hkb hne eb
    have ez : ((x.length : Int) == 0) = false := by rw [beq_eq_false_iff_ne]; omega
    obtain ⟨Aa, ca, ca1, _, ca2⟩ := hxd.cell ka hka
    have hx2 : OwR (w3.setCell ⟨gx, ka, none⟩ (.slice none 0 0)) w.heap.size gx x.length cx (x.set ka []) := hxd.set ka (A := none) (c := 0) (bs := []) ⟨by simp, fun h => by simp at h⟩ (fun h => by simp at h)
    obtain ⟨Ab, cb, cb1, _, cb2⟩ := hx2.cell kb2 hkb
    have hx3 : OwR ((w3.setCell ⟨gx, ka, none⟩ (.slice none 0 0)).setCell ⟨gx, kb2, none⟩ (.slice none 0 0)) w.heap.size gx x.length cx ((x.set ka []).set kb2 []) := hx2.set kb2 (A := none) (c := 0) (bs := []) ⟨by simp, fun h => by simp at h⟩ (fun h => by simp at h)
    have hgx0 := hx3.2.2.1
    have tpg := (tp.lt gb rfl).1
    have tqg := (tq.lt gd rfl).1
    have tp3 := (tp.grown (grown_set w3 gx ka (.slice none 0 0)) (.inr (by simp [Value.ownBlock]; omega))).grown (grown_set _ gx kb2 (.slice none 0 0)) (.inr (by simp [Value.ownBlock]; omega))
    have tq3 := (tq.grown (grown_set w3 gx ka (.slice none 0 0)) (.inr (by simp [Value.ownBlock]; omega))).grown (grown_set _ gx kb2 (.slice none 0 0)) (.inr (by simp [Value.ownBlock]; omega))
    have hw3 := (hwd.setCell (p := ⟨gx, ka, none⟩) hgx0 (.slice none 0 0)).setCell (p := ⟨gx, kb2, none⟩) hgx0 (.slice none 0 0)
    obtain ⟨y, hsv, hyl, hya, hyk, hyp, hyq⟩ := solve_two hN1 Hpa.out (by omega) hka hkb (Ne.symm hne) lpp lqq
    have Hrow : Hid (∀ k, k < x.length → k ≠ ka → k ≠ kb2 → ((x.set ka []).set kb2 []).getD k [] = x.getD k []) := Lib.hid fun k _ h1 h2 => by
      rw [getD_set_other (Ne.symm h2), getD_set_other (Ne.symm h1)]
    have Hgone := Lib.hid (show ((x.set ka []).set kb2 []).getD ka [] = [] by rw [getD_set_other hne]; exact getD_set_same hka)
    have hrl3 : ((x.set ka []).set kb2 []).length = x.length := by rw [List.length_set, List.length_set]
    have Hsv := Lib.hid hsv
    have Hya := Lib.hid hya
    have Hyk := Lib.hid hyk
    have Hyp := Lib.hid hyp
    have Hyq := Lib.hid hyq
    generalize (x.set ka []).set kb2 [] = rs at hx3 Hsv Hrow Hgone hrl3
    clear hsv hya hyk hyp hyq tp tq hwd hxd hx2
    go_wp2_with fail
    generalize (w3.setCell ⟨gx, ka, none⟩ (.slice none 0 0)).setCell ⟨gx, kb2, none⟩ (.slice none 0 0) = w4 at hx3 tp3 tq3 hw3 ⊢
    have hs4 := hw3.size
    refine (solve_any _ _ _ pp qq rs N kb N kd _ cx N w4 lpp.symm lqq.symm hrl3 (by omega) tp3.rdS.1 tq3.rdS.1 (hx3.rdr (by omega))).mono ?_
    rw [Hsv.out]
    rintro e w5 ⟨gy, cy, rfl, hy, hb5⟩
    rw [hyl] at hy ⊢
    have hx5 := hx3.below hb5
    have tp5 := tp3.below hb5
    have tq5 := tq3.below hb5
    have hw5 := hw3.trans (hb5.mono hs4)
    clear hx3 tp3 tq3 hw3 hb5 hs4 ca1 ca2 cb1 cb2
    have hs5 := hw5.size
    go_wp2
    go_loopw [83] (fun i wr => ∃ k : Nat, k ≤ x.length ∧ i = .int .i64 k ∧ Below w5.heap.size w5 wr) (fun i _ => x.length - (intOf i).toNat)
    case atStart => exact ⟨0, Nat.zero_le _, rfl, Below.refl _ _⟩
    case round =>
      obtain ⟨k, hk, rfl, hbr⟩ := hrel
      have hyr := hy.below hbr
      have hxr := hx5.below hbr
      by_cases hlt : k < x.length
      · obtain ⟨A1, c1, k1, r1, _⟩ := hyr.cell k hlt
        obtain ⟨A2, c2, k2, r2, _⟩ := hxr.cell k hlt
        have hyN : (y.getD k []).length = N := Hya.out _ (by simp [hyl, hlt])
        rw [hyN] at k1
        have i0 : (0 : Int) ≤ (k : Int) := by omega
        have i1 : (k : Int) < (x.length : Int) := by omega
        by_cases ea : k = ka
        · have e1 : ((k : Int) != (ka : Int)) = false := int_bne_no ea
          clear ea r1 r2 k2 hyN
          go_wp2_with fail
          go_quiet (fail)
          go_wp2
          go_roundw
          case rel => exact ⟨k + 1, by omega, by go_num, hbr.trans (belowN _ _ nq)⟩
          case measure => simp [intOf]; omega
        · have e1 : ((k : Int) != (ka : Int)) = true := int_bne_yes ea
          by_cases eb2 : k = kb2
          · have e2 : ((k : Int) != (kb2 : Int)) = false := int_bne_no eb2
            clear ea eb2 r1 r2 k2 hyN
            go_wp2_with fail
            go_quiet (fail)
            go_wp2
            go_roundw
            case rel => exact ⟨k + 1, by omega, by go_num, hbr.trans (belowN _ _ nq)⟩
            case measure => simp [intOf]; omega
          · have e2 : ((k : Int) != (kb2 : Int)) = true := int_bne_yes eb2
            have exy : rs.getD k [] = y.getD k [] := (Hrow.out k hlt ea eb2).trans (Hyk.out k hlt ea eb2).symm
            rw [exy, hyN] at k2
            rw [exy] at r2
            have CS := Lib.hid (fun n => Calls.quiet_of (same_any A1 A2 N N c1 c2 wr.heap.size (y.getD k []) (y.getD k []) (wr.drewN n) hyN.symm hyN.symm (r1.rdb.below (belowN _ _ n) (Nat.le_refl _)) (r2.rdb.below (belowN _ _ n) (Nat.le_refl _))))
            rw [decide_eq_true rfl] at CS
            clear ea eb2 r1 r2 hyN exy
            go_wp2_with fail
            go_quiet ((go_at_call 14; exact CS.out _))
            go_wp2
            go_roundw
            case rel => exact ⟨k + 1, by omega, by go_num, hbr.trans (belowN _ _ nq)⟩
            case measure => simp [intOf]; omega
      · obtain rfl : k = x.length := by omega
        have hwr := hw5.trans (hbr.mono hs5)
        have hsr := hwr.size
        have tpr := tp5.below hbr
        have tqr := tq5.below hbr
        go_wp2_with fail
        refine (refP_any _ y _ cy wr hyl (hyr.rdr (by omega))).mono ?_
        rintro e w6 ⟨v6, rfl, ho6, hb6⟩
        rw [Hyp.out] at ho6
        obtain ⟨A6, c6, rfl, _, _⟩ := ho6.rd
        rw [lpp] at ho6
        go_wp2_with fail
        refine (same_own ho6 (tpr.below hb6)).mono ?_
        rintro e w7 ⟨rfl, m7, rfl⟩
        have hb7 := hb6.trans (belowN wr.heap.size w6 m7)
        clear hb6
        generalize w6.drewN m7 = w7 at hb7 ⊢
        have hs7 := hb7.size
        go_wp2_with fail
        refine (refQ_any _ y _ cy w7 hyl ((hyr.below hb7).rdr (by omega))).mono ?_
        rintro e w8 ⟨v8, rfl, ho8, hb8⟩
        rw [Hyq.out] at ho8
        obtain ⟨A8, c8, rfl, _, _⟩ := ho8.rd
        rw [lqq] at ho8
        go_wp2_with fail
        refine (same_own ho8 ((tqr.below hb7).below hb8)).mono ?_
        rintro e w9 ⟨rfl, m9, rfl⟩
        have hb9 := (hb7.trans (hb8.mono hs7)).trans (belowN wr.heap.size w8 m9)
        clear hb8
        generalize w8.drewN m9 = w9 at hb9 ⊢
        obtain ⟨A9, c9, k9, _, _⟩ := (hxr.below hb9).cell ka hka
        rw [Hgone.out] at k9
        have j0 : (0 : Int) ≤ (ka : Int) := by omega
        have j1 : (ka : Int) < (x.length : Int) := by omega
        go_wp2_with fail
        refine (wakesErase_any w9).mono ?_
        rintro e w10 ⟨rfl, hb10⟩
        have hw9 := hwr.trans (hb9.mono hsr)
        go_wp2
        go_ret
        exact ⟨rfl, hw9.trans (hb10.mono hw9.size)⟩
end Go.Proofs.Ytfbfodcjfcnfoaa
