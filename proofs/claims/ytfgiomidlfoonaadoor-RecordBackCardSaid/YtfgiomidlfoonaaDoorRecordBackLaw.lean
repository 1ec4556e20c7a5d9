/- RecordBack walked. -/
import Derived.Test.YtfgiomidlfoonaaDoorRecKit
set_option linter.unusedVariables false
set_option linter.unusedSimpArgs false
namespace Go.Proofs.YtfgiomidlfoonaaDoor
open Go.RowKit

set_option maxRecDepth 100000 in
set_option maxHeartbeats 8000000 in
theorem recordback (seq : Int) (A : Option Addr) (l : List Int) (cl : Nat) (how part at' : Int) (c : UInt8) (w : World) (hseq : (-9223372036854775808 ≤ seq ∧ seq ≤ 9223372036854775807)) (_ : l.length ≤ cl) (hz : RdZ w w.heap.size A l) (hhow : (-9223372036854775808 ≤ how ∧ how ≤ 9223372036854775807)) (hpart : (-9223372036854775808 ≤ part ∧ part ≤ 9223372036854775807)) (hat : (-9223372036854775808 ≤ at' ∧ at' ≤ 9223372036854775807)) (ht : TabOk w) :
    Calls Tryd.prog 6 #[.int .i64 seq, .slice A l.length cl, .int .i64 how, .int .i64 part, .int .i64 at', .int .u8 (c.toNat : Int)] w fun e w' => e = .returned (.bool true) ∧ Below w.heap.size w w' := by
  have hm1 : -60 < how.tmod 60 := Int.lt_tmod_of_pos _ (by omega)
  have hm2 : how.tmod 60 < 60 := Int.tmod_lt_of_pos _ (by omega)
  have CO := Lib.hid (of_any seq (how.tmod 60) A l cl w hseq (by omega) hz)
  have Ht := Lib.hid ht
  have hw0 : 0 < w.heap.size := ht.pos
  have Wk := Lib.hid (fun W (hW : Below w.heap.size w W) => wakesRec_any W (Ht.out.below hW hw0))
  have bP := withinI_bd part 4 (by omega)
  have WP := Lib.hid (fun W => within_any part 4 W hpart (by omega))
  obtain ⟨k, hk⟩ := Int.eq_ofNat_of_zero_le bP.1
  rw [hk] at WP bP
  have bA := withinI_bd at' 32 (by omega)
  have WA := Lib.hid (fun W => within_any at' 32 W hat (by omega))
  obtain ⟨i, hi⟩ := Int.eq_ofNat_of_zero_le bA.1
  rw [hi] at WA bA
  have hk4 : k < 4 := by omega
  have hi32 : i < 32 := by omega
  clear hseq hz hhow hpart hat ht hk hi hm1 hm2
  go_enter Tryd.func6, Tryd.ntmps6
  go_wp2_with fail
  (with_reducible refine CO.out.mono ?_); rintro e w1 ⟨s, L, B, cb, rfl, hs64, h64, hl6, ho1, hb1⟩
  obtain ⟨_, hlc, hr1⟩ := ho1.rdS
  have HR2 := Lib.hid (hr1.later (below1 w1 (.cells #[.int .i64 s, .slice B L.length cb] 32)))
  have HB2 := Lib.hid (rxb_new w1 s B L.length cb 32)
  have F2 := Lib.hid (hb1.trans ((below1 w1 (.cells #[.int .i64 s, .slice B L.length cb] 32)).mono hb1.size))
  have H64 := Lib.hid h64
  obtain ⟨W2, hW2⟩ : ∃ W, w1.alloc (.cells #[.int .i64 s, .slice B L.length cb] 32) = W := ⟨_, rfl⟩
  rw [hW2] at HR2 HB2 F2
  clear CO hb1 ho1 hr1 h64
  obtain ⟨q0, q1⟩ := HB2.out
  cases hok : recOk s L
  · have CN := Lib.hid (encode_no B L.length cb s L W2 rfl hlc hs64 HR2.out H64.out (Lib.hid hok))
    clear hok WP WA
    go_wp2_with fail
    (with_reducible refine CN.out.mono ?_); rintro e w3 ⟨rfl, hb3⟩
    have F3 := Lib.hid (F2.out.trans (hb3.mono F2.out.size))
    clear hb3 CN HR2 HB2 q0 q1
    go_wp2_with fail
    (with_reducible refine (Wk.out _ F3.out).mono ?_); rintro e w4 ⟨rfl, hb4⟩
    go_wp2_with fail
    go_ret
    exact ⟨rfl, F3.out.trans (hb4.mono F3.out.size)⟩
  · have CY := Lib.hid (encode_yes B L.length cb s L W2 rfl hlc hs64 HR2.out H64.out (Lib.hid hok) (Ht.out.below F2.out hw0))
    have HT := Lib.hid (rec_turned hok k i hk4 hi32 c)
    have HL := Lib.hid (recB_len (s := s) ((recOk_iff s L).1 hok).1.2.2)
    have HD := Lib.hid (And.intro (rcS_recB hok) (And.intro (rcL_recB hok) (rcE_recB hok)))
    clear hok
    go_wp2_with fail
    (with_reducible refine CY.out.mono ?_); rintro e w3 ⟨g, bk, rfl, hp3, hb3⟩
    have F3 := Lib.hid (F2.out.trans (hb3.mono F2.out.size))
    have HB3 := Lib.hid (HB2.out.below hb3)
    have HR3 := Lib.hid (HR2.out.later hb3)
    have HP3 := Lib.hid hp3
    have CD := Lib.hid (decode_any (some ⟨g, 0, none⟩) 4 4 (recB s L) w3 HL.out (by omega) hp3.rdc (Ht.out.below F3.out hw0))
    rw [HD.out.1, HD.out.2.1, HD.out.2.2] at CD
    clear hb3 hp3 CY HR2 HB2 q0 q1 HD hW2
    go_wp2_with fail
    (with_reducible refine CD.out.mono ?_); rintro e w4 ⟨v4, rfl, ho4, hb4⟩
    obtain ⟨A4, c4, rfl, hc4, hr4⟩ := ho4.rd
    have B5 := hb4.trans ((below1 w4 (.cells #[.int .i64 s, .slice A4 L.length c4] 32)).mono hb4.size)
    have HB5 := Lib.hid (HB3.out.below B5)
    have HN5 := Lib.hid (rxb_new w4 s A4 L.length c4 32)
    have HR5 := Lib.hid (HR3.out.later B5)
    have hr5 := hr4.later (below1 w4 (.cells #[.int .i64 s, .slice A4 L.length c4] 32))
    have HP5 := Lib.hid (HP3.out.below B5)
    have F5 := Lib.hid (F3.out.trans (B5.mono F3.out.size))
    obtain ⟨W5, hW5⟩ : ∃ W, w4.alloc (.cells #[.int .i64 s, .slice A4 L.length c4] 32) = W := ⟨_, rfl⟩
    rw [hW5] at HB5 HN5 HR5 hr5 HP5 F5
    have CS := Lib.hid (sameRec_any s s A4 B L.length L.length c4 cb L L W5 rfl rfl hr5 HR5.out)
    rw [decide_eq_true (show s = s ∧ L = L from ⟨rfl, rfl⟩)] at CS
    obtain ⟨q0, q1⟩ := HB5.out
    obtain ⟨q2, q3⟩ := HN5.out
    clear hb4 CD ho4 hr4 B5 HB3 HR3 HP3 hr5 hc4
    go_wp2_with fail
    (with_reducible refine CS.out.mono ?_); rintro e w6 ⟨rfl, hb6⟩
    have hp6 := Lib.hid (HP5.out.below hb6)
    have F6 := Lib.hid (F5.out.trans (hb6.mono F5.out.size))
    clear hb6 CS q0 q1 q2 q3 HB5 HN5 HR5 HP5 hW5
    have hkl : k < (recB s L).length := by rw [HL.out]; exact hk4
    have k0 : (0 : Int) ≤ (k : Int) := by omega
    have k1 : (k : Int) < 4 := by omega
    have i0 : (0 : Int) ≤ (i : Int) := by omega
    have i1 : (i : Int) < 32 := by omega
    have HPut := Lib.hid (fun (V : World) (h : P4 W2.heap.size V g bk (recB s L)) (x : UInt8) => h.put k hkl i x)
    have HBl := Lib.hid ((hp6.out.blt k hkl).1)
    have hx := xor_u8 (((recB s L).getD k []).getD i 0) c
    have e0 := hp6.out.cell k hkl
    have HTB := Lib.hid (show (recB s L).set k (((recB s L).getD k []).set i (((recB s L).getD k []).getD i 0 ^^^ c)) = turnB (recB s L) k i c from rfl)
    obtain ⟨b, hbk⟩ : ∃ b, bk k = b := ⟨_, rfl⟩
    obtain ⟨x0, hx0⟩ : ∃ x0, ((recB s L).getD k []).getD i 0 = x0 := ⟨_, rfl⟩
    rw [hbk] at HPut HBl e0
    rw [hx0] at hx HTB
    obtain ⟨x1, hx1⟩ : ∃ x1, x0 ^^^ c = x1 := ⟨_, rfl⟩
    rw [hx1] at hx HTB
    have Hx0 := Lib.hid hx0
    have Hbk := Lib.hid hbk
    have hTL : (turnB (recB s L) k i c).length = 4 := (turnB_len _ _ _ _).trans HL.out
    generalize turnB (recB s L) k i c = tb at HT HTB hTL
    clear hx1
    clear hx0 hbk
    go_wp2_with fail
    (with_reducible refine (WP.out _).mono ?_); rintro e wx ⟨rfl, hwx⟩
    obtain rfl : w6 = wx := hwx.symm
    go_wp2_with fail
    have hx0 := Hx0.out
    have hbk := Hbk.out
    refine wp_region_noPanic (region_ord 11 [] (fun V => P4 W2.heap.size V g bk (recB s L) ∧ Below w.heap.size w V) (by kernel_rfl) (by kernel_rfl) (fun _ _ _ _ _ h => h) fun R => ?_)
    change anyI _ _ _ _ _ _ 12 _ _ w6.drew
    have HS0 := Lib.hid (show (fun V => P4 W2.heap.size V g bk (recB s L) ∧ Below w.heap.size w V) w6.drew from ⟨hp6.out.drew, F6.out.drew⟩)
    refine' anyI_take R 0 rfl (v := ?_) (by kernel_rfl) (by rfl) (fun V hV => ?hy) HS0.out ?_
    case hy => ((try dsimp only at hV);  have p0 := hV.1.cell k hkl; have p1 := hV.1.byte k hkl i hi32; have p2 := p1.2; replace p1 := p1.1; rw [hx0, hbk] at p1; rw [hbk] at p0; go_simp; try with_reducible rfl)
    try simp only [Act.put, List.getElem_toArray, List.getElem_cons_succ, List.getElem_cons_zero, List.setIfInBounds_toArray, List.set_cons_zero, List.set_cons_succ]
    refine' anyI_take R 1 rfl (v := ?_) (by kernel_rfl) (by rfl) (fun V hV => ?hy) HS0.out ?_
    case hy => ((try dsimp only at hV);  have p0 := hV.1.cell k hkl; have p1 := hV.1.byte k hkl i hi32; have p2 := p1.2; replace p1 := p1.1; rw [hx0, hbk] at p1; rw [hbk] at p0; go_simp; try with_reducible rfl)
    try simp only [Act.put, List.getElem_toArray, List.getElem_cons_succ, List.getElem_cons_zero, List.setIfInBounds_toArray, List.set_cons_zero, List.set_cons_succ]
    refine' anyI_take R 2 rfl (v := ?_) (by kernel_rfl) (by rfl) (fun V hV => ?hy) HS0.out ?_
    case hy => ((try dsimp only at hV);  have p0 := hV.1.cell k hkl; have p1 := hV.1.byte k hkl i hi32; have p2 := p1.2; replace p1 := p1.1; rw [hx0, hbk] at p1; rw [hbk] at p0; go_simp; try with_reducible rfl)
    try simp only [Act.put, List.getElem_toArray, List.getElem_cons_succ, List.getElem_cons_zero, List.setIfInBounds_toArray, List.set_cons_zero, List.set_cons_succ]
    refine' anyI_take R 3 rfl (v := ?_) (by kernel_rfl) (by rfl) (fun V hV => ?hy) HS0.out ?_
    case hy => ((try dsimp only at hV);  have p0 := hV.1.cell k hkl; have p1 := hV.1.byte k hkl i hi32; have p2 := p1.2; replace p1 := p1.1; rw [hx0, hbk] at p1; rw [hbk] at p0; go_simp; try with_reducible rfl)
    try simp only [Act.put, List.getElem_toArray, List.getElem_cons_succ, List.getElem_cons_zero, List.setIfInBounds_toArray, List.set_cons_zero, List.set_cons_succ]
    refine' anyI_take R 4 rfl (v := ?_) (by kernel_rfl) (by rfl) (fun V hV => ?hy) HS0.out ?_
    case hy => ((try dsimp only at hV);  have p0 := hV.1.cell k hkl; have p1 := hV.1.byte k hkl i hi32; have p2 := p1.2; replace p1 := p1.1; rw [hx0, hbk] at p1; rw [hbk] at p0; go_simp; try with_reducible rfl)
    try simp only [Act.put, List.getElem_toArray, List.getElem_cons_succ, List.getElem_cons_zero, List.setIfInBounds_toArray, List.set_cons_zero, List.set_cons_succ]
    refine' anyI_take R 8 rfl (v := ?_) (by kernel_rfl) (by rfl) (fun V hV => ?hy) HS0.out ?_
    case hy => ((try dsimp only at hV);  have p0 := hV.1.cell k hkl; have p1 := hV.1.byte k hkl i hi32; have p2 := p1.2; replace p1 := p1.1; rw [hx0, hbk] at p1; rw [hbk] at p0; go_simp; try with_reducible rfl)
    try simp only [Act.put, List.getElem_toArray, List.getElem_cons_succ, List.getElem_cons_zero, List.setIfInBounds_toArray, List.set_cons_zero, List.set_cons_succ]
    refine anyI_one 5 (by kernel_rfl) rfl ?_
    try simp only [List.getElem_toArray, List.getElem_cons_succ, List.getElem_cons_zero]
    refine opE_step ?_
    rw [if_pos (by rfl)]
    go_simp
    go_at_call 11
    (with_reducible refine (WA.out _).mono ?_)
    rintro e wx ⟨rfl, rfl⟩
    try dsimp only
    refine ⟨HS0.out, ?_⟩
    try simp only [Act.put, List.getElem_toArray, List.getElem_cons_succ, List.getElem_cons_zero, List.setIfInBounds_toArray, List.set_cons_zero, List.set_cons_succ]
    refine' anyI_take R 6 rfl (v := ?_) (by kernel_rfl) (by rfl) (fun V hV => ?hy) HS0.out ?_
    case hy => ((try dsimp only at hV);  have p0 := hV.1.cell k hkl; have p1 := hV.1.byte k hkl i hi32; have p2 := p1.2; replace p1 := p1.1; rw [hx0, hbk] at p1; rw [hbk] at p0; go_simp; try with_reducible rfl)
    try simp only [Act.put, List.getElem_toArray, List.getElem_cons_succ, List.getElem_cons_zero, List.setIfInBounds_toArray, List.set_cons_zero, List.set_cons_succ]
    refine' anyI_take R 7 rfl (v := ?_) (by kernel_rfl) (by rfl) (fun V hV => ?hy) HS0.out ?_
    case hy => ((try dsimp only at hV);  have p0 := hV.1.cell k hkl; have p1 := hV.1.byte k hkl i hi32; have p2 := p1.2; replace p1 := p1.1; rw [hx0, hbk] at p1; rw [hbk] at p0; go_simp; try with_reducible rfl)
    try simp only [Act.put, List.getElem_toArray, List.getElem_cons_succ, List.getElem_cons_zero, List.setIfInBounds_toArray, List.set_cons_zero, List.set_cons_succ]
    refine' anyI_take R 9 rfl (v := ?_) (by kernel_rfl) (by rfl) (fun V hV => ?hy) HS0.out ?_
    case hy => ((try dsimp only at hV);  have p0 := hV.1.cell k hkl; have p1 := hV.1.byte k hkl i hi32; have p2 := p1.2; replace p1 := p1.1; rw [hx0, hbk] at p1; rw [hbk] at p0; go_simp; try with_reducible rfl)
    try simp only [Act.put, List.getElem_toArray, List.getElem_cons_succ, List.getElem_cons_zero, List.setIfInBounds_toArray, List.set_cons_zero, List.set_cons_succ]
    refine' anyI_take R 10 rfl (v := ?_) (by kernel_rfl) (by rfl) (fun V hV => ?hy) HS0.out ?_
    case hy => ((try dsimp only at hV);  have p0 := hV.1.cell k hkl; have p1 := hV.1.byte k hkl i hi32; have p2 := p1.2; replace p1 := p1.1; rw [hx0, hbk] at p1; rw [hbk] at p0; go_simp; try with_reducible rfl)
    try simp only [Act.put, List.getElem_toArray, List.getElem_cons_succ, List.getElem_cons_zero, List.setIfInBounds_toArray, List.set_cons_zero, List.set_cons_succ]
    refine anyI_tail (by kernel_rfl) ?_
    try simp only [List.drop_succ_cons, List.drop_zero]
    clear R
    clear hx0 hbk
    have c1 := (HS0.out.1.byte k hkl i hi32).2
    have c0 := (HS0.out.1.byte k hkl i hi32).1
    rw [Hbk.out] at c1
    rw [Hbk.out, Hx0.out] at c0
    obtain ⟨hp7, hg7⟩ := HPut.out _ hp6.out x1
    rw [HTB.out] at hp7
    replace hp7 := hp7.drew
    have F7 := Lib.hid (Below.drew <| F6.out.grown hg7 F6.out.size (fun j e => by injection e with e; subst e; exact Nat.le_trans F2.out.size HBl.out))
    have CD2 := Lib.hid (decode_any (some ⟨g, 0, none⟩) 4 4 tb _ hTL (by omega) hp7.rdc (Ht.out.below F7.out hw0))
    clear hp7 hg7 e0
    go_wp2_with fail
    refine NoPanic.normal ?_
    clear c0 c1 hx k0 k1 i0 i1 HPut HTB
    go_wp2_with fail
    (with_reducible refine CD2.out.mono ?_); rintro e w8 ⟨v8, rfl, ho8, hb8⟩
    have F8 := F7.out.trans (hb8.mono F7.out.size)
    cases hc0 : ((c.toNat : Int) == 0)
    · have hr : rcO tb = false := HT.out.trans hc0
      have e1 : rcS tb = 0 := by unfold rcS; rw [hr]; rfl
      have e2 : rcL tb = [] := by unfold rcL; rw [hr]; rfl
      have e3 : rcE tb = 2 := by unfold rcE; rw [hr]; rfl
      rw [e1, e3]
      rw [e2] at ho8
      obtain ⟨A8, c8, rfl, hc8, hr8⟩ := ho8.rd
      have F9 := Lib.hid (F8.trans ((below1 w8 (.cells #[.int .i64 0, .slice A8 0 c8] 32)).mono F8.size))
      have HN9 := Lib.hid (rxb_new w8 0 A8 0 c8 32)
      obtain ⟨W9, hW9⟩ : ∃ W, w8.alloc (.cells #[.int .i64 0, .slice A8 0 c8] 32) = W := ⟨_, rfl⟩
      rw [hW9] at F9 HN9
      have CS := Lib.hid (sameRec_any 0 0 A8 none 0 0 c8 0 [] [] W9 rfl rfl (RdI.nil _ _ _) (RdI.nil _ _ _))
      rw [decide_eq_true (show (0 : Int) = 0 ∧ ([] : List It) = [] from ⟨rfl, rfl⟩)] at CS
      obtain ⟨q0, q1⟩ := HN9.out
      clear HT CD2 hr e1 e2 e3 ho8 hb8 F8 hr8 hc8
      go_wp2_with fail
      (with_reducible refine CS.out.mono ?_); rintro e w10 ⟨rfl, hb10⟩
      have F10 := Lib.hid (F9.out.trans (hb10.mono F9.out.size))
      clear hb10 CS q0 q1
      go_wp2_with fail
      (with_reducible refine (Wk.out _ F10.out).mono ?_); rintro e w11 ⟨rfl, hb11⟩
      go_wp2_with fail
      go_ret
      exact ⟨rfl, F10.out.trans (hb11.mono F10.out.size)⟩
    · have hr : rcO tb = true := HT.out.trans hc0
      have e3 : rcE tb = 0 := by unfold rcE; rw [hr]; rfl
      rw [e3]
      obtain ⟨A8, c8, rfl, hc8, hr8⟩ := ho8.rd
      have F9 := Lib.hid (F8.trans ((below1 w8 (.cells #[.int .i64 (rcS tb), .slice A8 (rcL tb).length c8] 32)).mono F8.size))
      clear HT CD2 hr e3 ho8 hb8 F8 hr8 hc8
      generalize rcS tb = s8 at F9
      generalize (rcL tb).length = n8 at F9
      go_wp2_with fail
      (with_reducible refine (Wk.out _ F9.out).mono ?_); rintro e w11 ⟨rfl, hb11⟩
      go_wp2_with fail
      go_ret
      exact ⟨rfl, F9.out.trans (hb11.mono F9.out.size)⟩
end Go.Proofs.YtfgiomidlfoonaaDoor
