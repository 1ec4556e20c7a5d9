/- Texts put together: BakWrite. -/
import Derived.Test.YtjnemopocmhfkaaDoorBlbb
import Derived.Test.YtjnemopocmhfkaaDoorBlbe
section
set_option maxRecDepth 20000
set_option linter.unusedVariables false
set_option linter.unusedSimpArgs false
namespace Go.Proofs.YtjnemopocmhfkaaDoor
open Go.RowKit

set_option maxHeartbeats 1600000 in
theorem bkWrite_any (W w : World) (b : Nat) (H : BH) (N : Bch) (h : BP W w b H N) (d : Nat) (hd : d ≤ 2000000) (A : Option Addr) (ps : List (List UInt8)) (n c : Nat) (hn : ps.length = n) (h40 : n ≤ 40) (hr : RdRX (BF b H N.n) w A ps) (hps : ∀ i, i < N.n → (N.D i).ps.length ≤ 1999900) (hdn : N.done ≤ 1999900) :
    Calls Tryd.prog 30 #[.pointer (some ⟨b, 0, none⟩), .int .i64 (d : Int), .slice A n c] w fun e w' => e = .returned (.int .i64 (bkF ps N d).1) ∧ BC W w w' b H N.n (bkF ps N d).2 := by
  subst hn
  have Hh := Lib.hid h
  have HR := Lib.hid hr
  have Hp := Lib.hid hps
  have Hd := Lib.hid hdn
  have HF : Hid (bkF ps N d = bkTo ps d N ps.length) := rfl
  clear h hr hps hdn
  go_enter Tryd.func30, Tryd.ntmps30
  go_wp2
  go_loopw [12] (fun i wr => ∃ j : Nat, j ≤ ps.length ∧ i = .int .i64 j ∧ (bkTo ps d N j).1 = 0 ∧ BC W w wr b H N.n (bkTo ps d N j).2) (fun i _ => ps.length - (intOf i).toNat)
  case atStart => exact ⟨0, Nat.zero_le _, rfl, rfl, Hh.out.self⟩
  case round =>
    obtain ⟨j, hj, rfl, hz, hbc⟩ := hrel
    have Hz := Lib.hid hz
    have Hbc := Lib.hid hbc
    obtain ⟨Hj, aj, cj, nj⟩ := hbc
    have Haj := Lib.hid aj
    have Hcj := Lib.hid cj
    have Hnj := Lib.hid nj
    clear hz aj cj nj
    by_cases hlt : j < ps.length
    · have i0 : (0 : Int) ≤ (j : Int) := by omega
      have i1 : (j : Int) < (ps.length : Int) := by omega
      have Hnn : Hid ((bkTo ps d N j).2.n = N.n) := bkTo_n j
      have Hlen : Hid (∀ i, i < N.n → ((bkTo ps d N j).2.D i).ps.length ≤ 2000000) := fun i hi => by have h1 := Hp.out i hi; have h2 := bkTo_len (ps := ps) (i := d) (N := N) i j; omega
      have Hdone : Hid ((bkTo ps d N j).2.done ≤ 2000000) := by show _ ≤ _; have h1 := Hd.out; have h2 := bkTo_done (ps := ps) (i := d) (N := N) j; omega
      obtain ⟨g, off, A', c', rfl, hcell, hrb⟩ := (HR.out.chg Hcj.out (bnew_weak Hnj.out)).at hlt
      have CW := Lib.hid (show Calls Tryd.prog 45 #[.pointer (some ⟨b, 0, none⟩), .int .i64 (d : Int), .int .i64 (6 + (j : Int)), .slice A' (ps.getD j []).length c'] wr fun e w' => e = .returned (.int .i64 (wrF (6 + j) (ps.getD j []) (bkTo ps d N j).2 d).1) ∧ BC W wr w' b Hj (bkTo ps d N j).2.n (wrF (6 + j) (ps.getD j []) (bkTo ps d N j).2 d).2 by
        unfold wrF
        rw [Int.natCast_add]
        exact bp_write W wr b Hj _ Haj.out (d : Int) (6 + (j : Int)) (ps.getD j []) A' _ c' rfl (i64n hd) ⟨by omega, by omega⟩ hrb.rdb (fun i hi => Hlen.out i (by rw [Hnn.out] at hi; exact hi)) Hdone.out)
      have HX : Hid (∀ w2, BC W wr w2 b Hj (bkTo ps d N j).2.n (wrF (6 + j) (ps.getD j []) (bkTo ps d N j).2 d).2 → BC W w w2 b H N.n (wrF (6 + j) (ps.getD j []) (bkTo ps d N j).2 d).2) := fun w2 h2 => by
        rw [Hnn.out] at h2
        exact h2.seq Hcj.out Hnj.out
      have HG := Lib.hid (bkTo_goes (ps := ps) (i := d) (N := N) Hz.out)
      clear hrb
      generalize (ps.getD j []).length = yl at hcell CW
      generalize wrF (6 + j) (ps.getD j []) (bkTo ps d N j).2 d = r at CW HX HG
      obtain ⟨e, Nx⟩ := r
      by_cases h0 : e = 0
      · rw [h0] at CW HG
        clear h0
        go_wp2_with (go_at_call 45; (with_reducible refine CW.out.mono ?_); rintro e w3 ⟨rfl, ht⟩; have Ht := Lib.hid (HX.out _ ht); clear ht)
        go_roundw
        case rel => exact ⟨j + 1, by omega, by go_num, by rw [HG.out], by rw [HG.out]; exact Ht.out⟩
        case measure => simp [intOf]; omega
      · have n0' : (e != 0) = true := by rw [bne_iff_ne]; exact h0
        have HS := Lib.hid (bkTo_stop (ps := ps) (i := d) (N := N) (k := j + 1) (by rw [HG.out]; exact h0) ps.length (by omega))
        clear h0
        go_wp2_with (go_at_call 45; (with_reducible refine CW.out.mono ?_); rintro e w3 ⟨rfl, ht⟩; have Ht := Lib.hid (HX.out _ ht); clear ht)
        go_ret
        exact ⟨by rw [HF.out, HS.out, HG.out]; rfl, by rw [HF.out, HS.out, HG.out]; exact Ht.out⟩
    · obtain rfl : j = ps.length := by omega
      go_wp2
      go_ret
      exact ⟨by rw [HF.out, Hz.out]; rfl, by rw [HF.out]; exact Hbc.out⟩
theorem bkPut1_any (W w : World) (b : Nat) (H : BH) (N : Bch) (h : BP W w b H N) (p5 p11 : Nat) (A2 : Option Addr) (ps : List (List UInt8)) (n c d : Nat) (hd : d ≤ 2000000) (hn : ps.length = n) (h40 : n ≤ 40)
    (c5 : w.cell? ⟨p5, 0, none⟩ = some (.pointer (some ⟨b, 0, none⟩))) (c11 : w.cell? ⟨p11, 0, none⟩ = some (.slice A2 n c)) (hr : RdRX (BF b H N.n) w A2 ps) (hps : ∀ i, i < N.n → (N.D i).ps.length ≤ 1999900) (hdn : N.done ≤ 1999900) :
    Calls Tryd.prog 29 #[.int .i64 (d : Int), .pointer (some ⟨p5, 0, none⟩), .pointer (some ⟨p11, 0, none⟩)] w fun e w' => e = .returned (.int .i64 (bkF ps N d).1) ∧ BC W w w' b H N.n (bkF ps N d).2 := by
  have CW := Lib.hid (bkWrite_any W w b H N h d hd A2 ps n c hn h40 hr hps hdn)
  clear h hps hdn hr hn
  go_enter Tryd.func29, Tryd.ntmps29
  go_wp2_with fail
  refine CW.out.mono ?_
  rintro e w1 ⟨rfl, ht⟩
  go_wp2
  go_ret
  exact ⟨rfl, ht⟩
set_option maxHeartbeats 4000000 in
theorem eachBk_any (W w : World) (b : Nat) (H : BH) (N : Bch) (h : BP W w b H N) (p5 p11 : Nat) (A2 : Option Addr) (ps : List (List UInt8)) (n c : Nat) (hn : ps.length = n) (h40 : n ≤ 40)
    (c5 : w.cell? ⟨p5, 0, none⟩ = some (.pointer (some ⟨b, 0, none⟩))) (c11 : w.cell? ⟨p11, 0, none⟩ = some (.slice A2 n c)) (hr : RdRX (BF b H N.n) w A2 ps) (o5 : ¬ BF b H N.n p5) (o11 : ¬ BF b H N.n p11) (lv : List Bool) (A : Option Addr) (m cp : Nat) (hm : m = lv.length) (hv : RdOX (BF b H N.n) w A lv) (hps : ∀ i, i < N.n → (N.D i).ps.length ≤ 1999000) (hdn : N.done ≤ 1999000) :
    Calls Tryd.prog 28 #[.pointer (some ⟨b, 0, none⟩), .slice A m cp, .func (.func 29) #[] #[.pointer (some ⟨p5, 0, none⟩), .pointer (some ⟨p11, 0, none⟩)]] w fun e w' => e = .returned (.int .i64 (onTo (bkF ps) lv N N.n).1) ∧ BC W w w' b H N.n (onTo (bkF ps) lv N N.n).2 := by
  subst hm
  have Hh := Lib.hid h
  have hn8 := h.at'.ok.n
  have CL := Lib.hid (bp_len W w b H N h)
  have Hv := Lib.hid hv
  have Hp := Lib.hid hps
  have Hd := Lib.hid hdn
  have KF : Hid (∀ wr Hj, Chg (BF b H N.n) w wr → BNew w b H Hj N.n → (wr.cell? ⟨p5, 0, none⟩ = some (.pointer (some ⟨b, 0, none⟩)) ∧ wr.cell? ⟨p11, 0, none⟩ = some (.slice A2 n c)) ∧ RdRX (BF b Hj N.n) wr A2 ps) := fun wr Hj hc hm =>
    ⟨⟨cell_chg c5 hc o5, cell_chg c11 hc o11⟩, hr.chg hc (bnew_weak hm)⟩
  obtain ⟨rr, hrr⟩ : ∃ rr, onTo (bkF ps) lv N N.n = rr := ⟨_, rfl⟩
  rw [hrr]
  have Hall := Lib.hid hrr.symm
  clear hrr
  have CV := Lib.hid (fun (W1 : World) (H1 : BH) (N1 : Bch) (hp : BP W W1 b H1 N1) (hv1 : RdOX (BF b H1 N.n) W1 A lv) (j : Nat) (hj : j ≤ 1000000) => alvIs_any W.heap.size b H1 N1 W1 hp.at' lv A lv.length cp rfl hv1.rdo (j : Int) (by omega) (by omega))
  clear h hv hps hdn c5 c11 hr o5 o11
  obtain ⟨n0, hn0⟩ : ∃ n0, N.n = n0 := ⟨_, rfl⟩
  rw [hn0] at CL Hall hn8
  have Hn0 := Lib.hid hn0
  clear hn0
  go_enter Tryd.func28, Tryd.ntmps28
  go_wp2_with fail
  (with_reducible refine CL.out.mono ?_); rintro e w1 ⟨rfl, rfl⟩
  go_wp2
  go_loopw [11] (fun i wr => ∃ j : Nat, j ≤ n0 ∧ i = .int .i64 j ∧ (onTo (bkF ps) lv N j).1 = 0 ∧ BC W w1 wr b H N.n (onTo (bkF ps) lv N j).2) (fun i _ => n0 - (intOf i).toNat)
  case atStart => exact ⟨0, Nat.zero_le _, rfl, rfl, Hh.out.self⟩
  case round =>
    obtain ⟨j, hj, rfl, hz, hbc⟩ := hrel
    have Hz := Lib.hid hz
    have Hbc := Lib.hid hbc
    obtain ⟨Hj, aj, cj, nj⟩ := hbc
    have Haj := Lib.hid aj
    have Hcj := Lib.hid cj
    have Hnj := Lib.hid nj
    clear hz aj cj nj
    by_cases hlt : j < n0
    · have i0 : (0 : Int) ≤ (j : Int) := by omega
      have i1 : (j : Int) < (n0 : Int) := by omega
      have Hnn : Hid ((onTo (bkF ps) lv N j).2.n = N.n) := onBk_n j
      have CL1 := Lib.hid (CV.out wr Hj _ Haj.out (Hv.out.chg Hcj.out (bnew_weak Hnj.out)) j (by omega))
      have HLv := Lib.hid (show alvD (onTo (bkF ps) lv N j).2.n lv (j : Int) = lv.getD j false by rw [alvD_nat, Hnn.out, Hn0.out, decide_eq_true hlt]; rfl)
      rw [HLv.out] at CL1
      cases hb : lv.getD j false with
      | false =>
        rw [hb] at CL1
        have HS := Lib.hid (onTo_skip Hz.out hb)
        clear hb CL CV HLv
        go_wp2_with (go_at_call 34; (with_reducible refine CL1.out.mono ?_); rintro e w2 ⟨rfl, h2⟩; obtain rfl : wr = w2 := h2.symm)
        go_roundw
        case rel => exact ⟨j + 1, by omega, by go_num, by rw [HS.out]; exact Hz.out, by rw [HS.out]; exact Hbc.out⟩
        case measure => simp [intOf]; omega
      | true =>
        rw [hb] at CL1
        have Hj7 : j * ps.length ≤ 320 := Nat.le_trans (Nat.mul_le_mul (show j ≤ 8 by omega) (show ps.length ≤ 40 by omega)) (Nat.le_refl _)
        have Hlen : Hid (∀ i, i < N.n → ((onTo (bkF ps) lv N j).2.D i).ps.length ≤ 1999900) := fun i hi => by have h1 := Hp.out i hi; have h2 := onBk_len (ps := ps) (lv := lv) (N := N) i j; omega
        have Hdone : Hid ((onTo (bkF ps) lv N j).2.done ≤ 1999900) := by show _ ≤ _; have h1 := Hd.out; have h2 := onBk_done (ps := ps) (lv := lv) (N := N) j; omega
        clear Hj7
        obtain ⟨⟨d5, d11⟩, hrj⟩ := KF.out wr Hj Hcj.out Hnj.out
        have CF := Lib.hid (bkPut1_any W wr b Hj _ Haj.out p5 p11 A2 ps n c j (by omega) hn h40 d5 d11 (by rw [Hnn.out]; exact hrj) (fun i hi => Hlen.out i (by rw [Hnn.out] at hi; exact hi)) Hdone.out)
        clear d5 d11 hrj
        have HX : Hid (∀ w2, BC W wr w2 b Hj (onTo (bkF ps) lv N j).2.n ((bkF ps) (onTo (bkF ps) lv N j).2 j).2 → BC W w1 w2 b H N.n ((bkF ps) (onTo (bkF ps) lv N j).2 j).2) := fun w2 h2 => by
          rw [Hnn.out] at h2
          exact h2.seq Hcj.out Hnj.out
        have HG := Lib.hid (fun hq => onTo_goes (f := (bkF ps)) Hz.out hb hq)
        have HP := Lib.hid (fun hq => onTo_pass (f := (bkF ps)) Hz.out hb hq)
        clear hb CL CV HLv
        generalize (bkF ps) (onTo (bkF ps) lv N j).2 j = r at CF HX HG HP
        obtain ⟨e, Nx⟩ := r
        by_cases h5 : e = 5
        · have HP := Lib.hid (HP.out h5)
          clear HG
          rw [h5] at CF
          clear h5
          go_wp2_with (first | (go_at_call 34; (with_reducible refine CL1.out.mono ?_); rintro e w2 ⟨rfl, h2⟩; obtain rfl : wr = w2 := h2.symm) | (go_at_call 29; (with_reducible refine CF.out.mono ?_); rintro e w3 ⟨rfl, ht⟩; have Ht := Lib.hid (HX.out _ ht); clear ht))
          go_roundw
          case rel => exact ⟨j + 1, by omega, by go_num, by rw [HP.out], by rw [HP.out]; exact Ht.out⟩
          case measure => simp [intOf]; omega
        · have HG := Lib.hid (HG.out h5)
          clear HP
          by_cases h0 : e = 0
          · rw [h0] at CF HG
            clear h5 h0
            go_wp2_with (first | (go_at_call 34; (with_reducible refine CL1.out.mono ?_); rintro e w2 ⟨rfl, h2⟩; obtain rfl : wr = w2 := h2.symm) | (go_at_call 29; (with_reducible refine CF.out.mono ?_); rintro e w3 ⟨rfl, ht⟩; have Ht := Lib.hid (HX.out _ ht); clear ht))
            go_roundw
            case rel => exact ⟨j + 1, by omega, by go_num, by rw [HG.out], by rw [HG.out]; exact Ht.out⟩
            case measure => simp [intOf]; omega
          · have n5 : (e != 5) = true := by rw [bne_iff_ne]; exact h5
            have n0' : (e != 0) = true := by rw [bne_iff_ne]; exact h0
            have HS := Lib.hid (onTo_stop (f := (bkF ps)) (lv := lv) (N := N) (i := j + 1) (by rw [HG.out]; exact h0) n0 (by omega))
            clear h5 h0
            go_wp2_with (first | (go_at_call 34; (with_reducible refine CL1.out.mono ?_); rintro e w2 ⟨rfl, h2⟩; obtain rfl : wr = w2 := h2.symm) | (go_at_call 29; (with_reducible refine CF.out.mono ?_); rintro e w3 ⟨rfl, ht⟩; have Ht := Lib.hid (HX.out _ ht); clear ht))
            go_ret
            exact ⟨by rw [Hall.out, HS.out, HG.out]; rfl, by rw [Hall.out, HS.out, HG.out]; exact Ht.out⟩
    · obtain rfl : j = n0 := by omega
      go_wp2
      go_ret
      exact ⟨by rw [Hall.out, Hz.out]; rfl, by rw [Hall.out]; exact Hbc.out⟩
end Go.Proofs.YtjnemopocmhfkaaDoor
end
