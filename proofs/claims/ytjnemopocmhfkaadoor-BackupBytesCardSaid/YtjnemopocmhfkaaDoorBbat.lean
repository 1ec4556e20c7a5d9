/- Texts put together: BakWrite, BakPut. -/
import Derived.Test.YtjnemopocmhfkaaDoorBbar
import Derived.Test.YtjnemopocmhfkaaDoorBbaq
section
set_option maxRecDepth 20000
set_option linter.unusedVariables false
set_option linter.unusedSimpArgs false
namespace Go.Proofs.YtjnemopocmhfkaaDoor
open Go.RowKit

set_option maxHeartbeats 1600000 in
theorem bkWrite_any (W w : World) (b : Nat) (H : BH) (N : Bch) (h : BP W w b H N) (d : Nat) (hd : d ≤ 2000000) (A : Option Addr) (ps : List (List UInt8)) (n c : Nat) (hn : ps.length = n) (h40 : n ≤ 40) (hr : RdRX (BF b H N.n) w A ps) (hps : ∀ i, i < N.n → (N.D i).ps.length ≤ 1999900) (hdn : N.done ≤ 1999900) :
    Calls Tryd.prog 30 #[.pointer (some ⟨b, 0, none⟩), .int .i64 (d : Int), .slice A n c] w fun e w' => e = .returned (.int .i64 (bkF ps N d).1) ∧ BC W w w' b H N.n (bkF ps N d).2 := by
  subst hn
  have Hh := Lib.hid h
  have HR := Lib.hid hr
  have Hp := Lib.hid hps
  have Hd := Lib.hid hdn
  have HF : Hid (bkF ps N d = bkTo ps d N ps.length) := rfl
  clear h hr hps hdn
  go_enter Tryd.func30, Tryd.ntmps30
  go_wp2
  go_loopw [12] (fun i wr => ∃ j : Nat, j ≤ ps.length ∧ i = .int .i64 j ∧ (bkTo ps d N j).1 = 0 ∧ BC W w wr b H N.n (bkTo ps d N j).2) (fun i _ => ps.length - (intOf i).toNat)
  case atStart => exact ⟨0, Nat.zero_le _, rfl, rfl, Hh.out.self⟩
  case round =>
    obtain ⟨j, hj, rfl, hz, hbc⟩ := hrel
    have Hz := Lib.hid hz
    have Hbc := Lib.hid hbc
    obtain ⟨Hj, aj, cj, nj⟩ := hbc
    have Haj := Lib.hid aj
    have Hcj := Lib.hid cj
    have Hnj := Lib.hid nj
    clear hz aj cj nj
    by_cases hlt : j < ps.length
    · have i0 : (0 : Int) ≤ (j : Int) := by omega
      have i1 : (j : Int) < (ps.length : Int) := by omega
      have Hnn : Hid ((bkTo ps d N j).2.n = N.n) := bkTo_n j
      have Hlen : Hid (∀ i, i < N.n → ((bkTo ps d N j).2.D i).ps.length ≤ 2000000) := fun i hi => by have h1 := Hp.out i hi; have h2 := bkTo_len (ps := ps) (i := d) (N := N) i j; omega
      have Hdone : Hid ((bkTo ps d N j).2.done ≤ 2000000) := by show _ ≤ _; have h1 := Hd.out; have h2 := bkTo_done (ps := ps) (i := d) (N := N) j; omega
      obtain ⟨g, off, A', c', rfl, hcell, hrb⟩ := (HR.out.chg Hcj.out (bnew_weak Hnj.out)).at hlt
      have CW := Lib.hid (show Calls Tryd.prog 45 #[.pointer (some ⟨b, 0, none⟩), .int .i64 (d : Int), .int .i64 (6 + (j : Int)), .slice A' (ps.getD j []).length c'] wr fun e w' => e = .returned (.int .i64 (wrF (6 + j) (ps.getD j []) (bkTo ps d N j).2 d).1) ∧ BC W wr w' b Hj (bkTo ps d N j).2.n (wrF (6 + j) (ps.getD j []) (bkTo ps d N j).2 d).2 by
        unfold wrF
        rw [Int.natCast_add]
        exact bp_write W wr b Hj _ Haj.out (d : Int) (6 + (j : Int)) (ps.getD j []) A' _ c' rfl (i64n hd) ⟨by omega, by omega⟩ hrb.rdb (fun i hi => Hlen.out i (by rw [Hnn.out] at hi; exact hi)) Hdone.out)
      have HX : Hid (∀ w2, BC W wr w2 b Hj (bkTo ps d N j).2.n (wrF (6 + j) (ps.getD j []) (bkTo ps d N j).2 d).2 → BC W w w2 b H N.n (wrF (6 + j) (ps.getD j []) (bkTo ps d N j).2 d).2) := fun w2 h2 => by
        rw [Hnn.out] at h2
        exact h2.seq Hcj.out Hnj.out
      have HG := Lib.hid (bkTo_goes (ps := ps) (i := d) (N := N) Hz.out)
      clear hrb
      generalize (ps.getD j []).length = yl at hcell CW
      generalize wrF (6 + j) (ps.getD j []) (bkTo ps d N j).2 d = r at CW HX HG
      obtain ⟨e, Nx⟩ := r
      by_cases h0 : e = 0
      · rw [h0] at CW HG
        clear h0
        go_wp2_with (go_at_call 45; (with_reducible refine CW.out.mono ?_); rintro e w3 ⟨rfl, ht⟩; have Ht := Lib.hid (HX.out _ ht); clear ht)
        go_roundw
        case rel => exact ⟨j + 1, by omega, by go_num, by rw [HG.out], by rw [HG.out]; exact Ht.out⟩
        case measure => simp [intOf]; omega
      · have n0' : (e != 0) = true := by rw [bne_iff_ne]; exact h0
        have HS := Lib.hid (bkTo_stop (ps := ps) (i := d) (N := N) (k := j + 1) (by rw [HG.out]; exact h0) ps.length (by omega))
        clear h0
        go_wp2_with (go_at_call 45; (with_reducible refine CW.out.mono ?_); rintro e w3 ⟨rfl, ht⟩; have Ht := Lib.hid (HX.out _ ht); clear ht)
        go_ret
        exact ⟨by rw [HF.out, HS.out, HG.out]; rfl, by rw [HF.out, HS.out, HG.out]; exact Ht.out⟩
    · obtain rfl : j = ps.length := by omega
      go_wp2
      go_ret
      exact ⟨by rw [HF.out, Hz.out]; rfl, by rw [HF.out]; exact Hbc.out⟩
theorem bkPut1_any (W w : World) (b : Nat) (H : BH) (N : Bch) (h : BP W w b H N) (p5 p11 : Nat) (A2 : Option Addr) (ps : List (List UInt8)) (n c d : Nat) (hd : d ≤ 2000000) (hn : ps.length = n) (h40 : n ≤ 40)
    (c5 : w.cell? ⟨p5, 0, none⟩ = some (.pointer (some ⟨b, 0, none⟩))) (c11 : w.cell? ⟨p11, 0, none⟩ = some (.slice A2 n c)) (hr : RdRX (BF b H N.n) w A2 ps) (hps : ∀ i, i < N.n → (N.D i).ps.length ≤ 1999900) (hdn : N.done ≤ 1999900) :
    Calls Tryd.prog 29 #[.int .i64 (d : Int), .pointer (some ⟨p5, 0, none⟩), .pointer (some ⟨p11, 0, none⟩)] w fun e w' => e = .returned (.int .i64 (bkF ps N d).1) ∧ BC W w w' b H N.n (bkF ps N d).2 := by
  have CW := Lib.hid (bkWrite_any W w b H N h d hd A2 ps n c hn h40 hr hps hdn)
  clear h hps hdn hr hn
  go_enter Tryd.func29, Tryd.ntmps29
  go_wp2_with fail
  refine CW.out.mono ?_
  rintro e w1 ⟨rfl, ht⟩
  go_wp2
  go_ret
  exact ⟨rfl, ht⟩
set_option maxHeartbeats 4000000 in
theorem eachBk_any (W w : World) (b : Nat) (H : BH) (N : Bch) (h : BP W w b H N) (p5 p11 : Nat) (A2 : Option Addr) (ps : List (List UInt8)) (n c : Nat) (hn : ps.length = n) (h40 : n ≤ 40)
    (c5 : w.cell? ⟨p5, 0, none⟩ = some (.pointer (some ⟨b, 0, none⟩))) (c11 : w.cell? ⟨p11, 0, none⟩ = some (.slice A2 n c)) (hr : RdRX (BF b H N.n) w A2 ps) (o5 : ¬ BF b H N.n p5) (o11 : ¬ BF b H N.n p11) (lv : List Bool) (A : Option Addr) (m cp : Nat) (hm : m = lv.length) (hv : RdOX (BF b H N.n) w A lv) (hps : ∀ i, i < N.n → (N.D i).ps.length ≤ 1999000) (hdn : N.done ≤ 1999000) :
    Calls Tryd.prog 28 #[.pointer (some ⟨b, 0, none⟩), .slice A m cp, .func (.func 29) #[] #[.pointer (some ⟨p5, 0, none⟩), .pointer (some ⟨p11, 0, none⟩)]] w fun e w' => e = .returned (.int .i64 (onTo (bkF ps) lv N N.n).1) ∧ BC W w w' b H N.n (onTo (bkF ps) lv N N.n).2 := by
  subst hm
  have Hh := Lib.hid h
  have hn8 := h.at'.ok.n
  have CL := Lib.hid (bp_len W w b H N h)
  have Hv := Lib.hid hv
  have Hp := Lib.hid hps
  have Hd := Lib.hid hdn
  have KF : Hid (∀ wr Hj, Chg (BF b H N.n) w wr → BNew w b H Hj N.n → (wr.cell? ⟨p5, 0, none⟩ = some (.pointer (some ⟨b, 0, none⟩)) ∧ wr.cell? ⟨p11, 0, none⟩ = some (.slice A2 n c)) ∧ RdRX (BF b Hj N.n) wr A2 ps) := fun wr Hj hc hm =>
    ⟨⟨cell_chg c5 hc o5, cell_chg c11 hc o11⟩, hr.chg hc (bnew_weak hm)⟩
  obtain ⟨rr, hrr⟩ : ∃ rr, onTo (bkF ps) lv N N.n = rr := ⟨_, rfl⟩
  rw [hrr]
  have Hall := Lib.hid hrr.symm
  clear hrr
  have CV := Lib.hid (fun (W1 : World) (H1 : BH) (N1 : Bch) (hp : BP W W1 b H1 N1) (hv1 : RdOX (BF b H1 N.n) W1 A lv) (j : Nat) (hj : j ≤ 1000000) => alvIs_any W.heap.size b H1 N1 W1 hp.at' lv A lv.length cp rfl hv1.rdo (j : Int) (by omega) (by omega))
  clear h hv hps hdn c5 c11 hr o5 o11
  obtain ⟨n0, hn0⟩ : ∃ n0, N.n = n0 := ⟨_, rfl⟩
  rw [hn0] at CL Hall hn8
  have Hn0 := Lib.hid hn0
  clear hn0
  go_enter Tryd.func28, Tryd.ntmps28
  go_wp2_with fail
  (with_reducible refine CL.out.mono ?_); rintro e w1 ⟨rfl, rfl⟩
  go_wp2
  go_loopw [11] (fun i wr => ∃ j : Nat, j ≤ n0 ∧ i = .int .i64 j ∧ (onTo (bkF ps) lv N j).1 = 0 ∧ BC W w1 wr b H N.n (onTo (bkF ps) lv N j).2) (fun i _ => n0 - (intOf i).toNat)
  case atStart => exact ⟨0, Nat.zero_le _, rfl, rfl, Hh.out.self⟩
  case round =>
    obtain ⟨j, hj, rfl, hz, hbc⟩ := hrel
    have Hz := Lib.hid hz
    have Hbc := Lib.hid hbc
    obtain ⟨Hj, aj, cj, nj⟩ := hbc
    have Haj := Lib.hid aj
    have Hcj := Lib.hid cj
    have Hnj := Lib.hid nj
    clear hz aj cj nj
    by_cases hlt : j < n0
    · have i0 : (0 : Int) ≤ (j : Int) := by omega
      have i1 : (j : Int) < (n0 : Int) := by omega
      have Hnn : Hid ((onTo (bkF ps) lv N j).2.n = N.n) := onBk_n j
      have CL1 := Lib.hid (CV.out wr Hj _ Haj.out (Hv.out.chg Hcj.out (bnew_weak Hnj.out)) j (by omega))
      have HLv := Lib.hid (show alvD (onTo (bkF ps) lv N j).2.n lv (j : Int) = lv.getD j false by rw [alvD_nat, Hnn.out, Hn0.out, decide_eq_true hlt]; rfl)
      rw [HLv.out] at CL1
      cases hb : lv.getD j false with
      | false =>
        rw [hb] at CL1
        have HS := Lib.hid (onTo_skip Hz.out hb)
        clear hb CL CV HLv
        go_wp2_with (go_at_call 34; (with_reducible refine CL1.out.mono ?_); rintro e w2 ⟨rfl, h2⟩; obtain rfl : wr = w2 := h2.symm)
        go_roundw
        case rel => exact ⟨j + 1, by omega, by go_num, by rw [HS.out]; exact Hz.out, by rw [HS.out]; exact Hbc.out⟩
        case measure => simp [intOf]; omega
      | true =>
        rw [hb] at CL1
        have Hj7 : j * ps.length ≤ 320 := Nat.le_trans (Nat.mul_le_mul (show j ≤ 8 by omega) (show ps.length ≤ 40 by omega)) (Nat.le_refl _)
        have Hlen : Hid (∀ i, i < N.n → ((onTo (bkF ps) lv N j).2.D i).ps.length ≤ 1999900) := fun i hi => by have h1 := Hp.out i hi; have h2 := onBk_len (ps := ps) (lv := lv) (N := N) i j; omega
        have Hdone : Hid ((onTo (bkF ps) lv N j).2.done ≤ 1999900) := by show _ ≤ _; have h1 := Hd.out; have h2 := onBk_done (ps := ps) (lv := lv) (N := N) j; omega
        clear Hj7
        obtain ⟨⟨d5, d11⟩, hrj⟩ := KF.out wr Hj Hcj.out Hnj.out
        have CF := Lib.hid (bkPut1_any W wr b Hj _ Haj.out p5 p11 A2 ps n c j (by omega) hn h40 d5 d11 (by rw [Hnn.out]; exact hrj) (fun i hi => Hlen.out i (by rw [Hnn.out] at hi; exact hi)) Hdone.out)
        clear d5 d11 hrj
        have HX : Hid (∀ w2, BC W wr w2 b Hj (onTo (bkF ps) lv N j).2.n ((bkF ps) (onTo (bkF ps) lv N j).2 j).2 → BC W w1 w2 b H N.n ((bkF ps) (onTo (bkF ps) lv N j).2 j).2) := fun w2 h2 => by
          rw [Hnn.out] at h2
          exact h2.seq Hcj.out Hnj.out
        have HG := Lib.hid (fun hq => onTo_goes (f := (bkF ps)) Hz.out hb hq)
        have HP := Lib.hid (fun hq => onTo_pass (f := (bkF ps)) Hz.out hb hq)
        clear hb CL CV HLv
        generalize (bkF ps) (onTo (bkF ps) lv N j).2 j = r at CF HX HG HP
        obtain ⟨e, Nx⟩ := r
        by_cases h5 : e = 5
        · have HP := Lib.hid (HP.out h5)
          clear HG
          rw [h5] at CF
          clear h5
          go_wp2_with (first | (go_at_call 34; (with_reducible refine CL1.out.mono ?_); rintro e w2 ⟨rfl, h2⟩; obtain rfl : wr = w2 := h2.symm) | (go_at_call 29; (with_reducible refine CF.out.mono ?_); rintro e w3 ⟨rfl, ht⟩; have Ht := Lib.hid (HX.out _ ht); clear ht))
          go_roundw
          case rel => exact ⟨j + 1, by omega, by go_num, by rw [HP.out], by rw [HP.out]; exact Ht.out⟩
          case measure => simp [intOf]; omega
        · have HG := Lib.hid (HG.out h5)
          clear HP
          by_cases h0 : e = 0
          · rw [h0] at CF HG
            clear h5 h0
            go_wp2_with (first | (go_at_call 34; (with_reducible refine CL1.out.mono ?_); rintro e w2 ⟨rfl, h2⟩; obtain rfl : wr = w2 := h2.symm) | (go_at_call 29; (with_reducible refine CF.out.mono ?_); rintro e w3 ⟨rfl, ht⟩; have Ht := Lib.hid (HX.out _ ht); clear ht))
            go_roundw
            case rel => exact ⟨j + 1, by omega, by go_num, by rw [HG.out], by rw [HG.out]; exact Ht.out⟩
            case measure => simp [intOf]; omega
          · have n5 : (e != 5) = true := by rw [bne_iff_ne]; exact h5
            have n0' : (e != 0) = true := by rw [bne_iff_ne]; exact h0
            have HS := Lib.hid (onTo_stop (f := (bkF ps)) (lv := lv) (N := N) (i := j + 1) (by rw [HG.out]; exact h0) n0 (by omega))
            clear h5 h0
            go_wp2_with (first | (go_at_call 34; (with_reducible refine CL1.out.mono ?_); rintro e w2 ⟨rfl, h2⟩; obtain rfl : wr = w2 := h2.symm) | (go_at_call 29; (with_reducible refine CF.out.mono ?_); rintro e w3 ⟨rfl, ht⟩; have Ht := Lib.hid (HX.out _ ht); clear ht))
            go_ret
            exact ⟨by rw [Hall.out, HS.out, HG.out]; rfl, by rw [Hall.out, HS.out, HG.out]; exact Ht.out⟩
    · obtain rfl : j = n0 := by omega
      go_wp2
      go_ret
      exact ⟨by rw [Hall.out, Hz.out]; rfl, by rw [Hall.out]; exact Hbc.out⟩
end Go.Proofs.YtjnemopocmhfkaaDoor
end
section
set_option maxRecDepth 20000
set_option linter.unusedVariables false
set_option linter.unusedSimpArgs false
namespace Go.Proofs.YtjnemopocmhfkaaDoor
open Go.RowKit

theorem bkBad_may {e x : Int} {ds : List (List UInt8)} (h : bkMay e x = false) : bkBad e x ds = true := by unfold bkBad; rw [h]; rfl
theorem bkBad_len {e x : Int} {ds : List (List UInt8)} (h : bkMay e x = true) (h2 : 28 < ds.length) : bkBad e x ds = true := by unfold bkBad; rw [h, decide_eq_true h2]; rfl
theorem bkBad_any {e x : Int} {ds : List (List UInt8)} (h : bkMay e x = true) (h2 : ¬ 28 < ds.length) : bkBad e x ds = ds.any unlB := by unfold bkBad; rw [h, decide_eq_false h2]; rfl
theorem bkS_bad {N : Bch} {lv : List Bool} {e x : Int} {ds : List (List UInt8)} (h : bkBad e x ds = true) : bkS N lv e x ds = (1, N) := if_pos h
theorem bkS_err {N : Bch} {lv : List Bool} {e x : Int} {ds : List (List UInt8)} (h : bkBad e x ds = false) {r : Int × Bch} (hr : onTo (bkF (bkB e.toNat x.toNat ds :: ds)) lv N N.n = r) (h0 : r.1 ≠ 0) : bkS N lv e x ds = r := by
  unfold bkS; rw [if_neg (by rw [h]; decide), if_pos (by rw [hr]; exact h0), hr]
theorem bkS_fl {N : Bch} {lv : List Bool} {e x : Int} {ds : List (List UInt8)} (h : bkBad e x ds = false) {r : Int × Bch} (hr : onTo (bkF (bkB e.toNat x.toNat ds :: ds)) lv N N.n = r) (h0 : r.1 = 0) : bkS N lv e x ds = onTo flF lv r.2 N.n := by
  unfold bkS; rw [if_neg (by rw [h]; decide), if_neg (by rw [hr]; exact fun q => q h0), hr]
theorem rdrx_one {F : Nat → Prop} {V : World} {q n c : Nat} {A : Option Addr} {bs : List UInt8} {t : TypeId} {f : Nat × Nat} (hq : V.heap[q]? = some (.cells #[.slice A n c] t f)) (hn : bs.length = n) (oq : ¬ F q) (hb : RdBX F V A bs) : RdRX F V (some ⟨q, 0, none⟩) [bs] := by
  subst hn
  refine ⟨by simp, fun _ => ⟨q, 0, rfl, (Array.getElem?_eq_some_iff.1 hq).1, oq, fun k hk => ?_⟩⟩
  obtain rfl : k = 0 := by simp at hk; omega
  exact ⟨A, c, cell_of_row V q 0 _ t f hq, hb⟩
set_option maxHeartbeats 4000000 in
theorem bkPut_any (W w : World) (b : Nat) (H : BH) (N : Bch) (h : BP W w b H N) (lv : List Bool) (A : Option Addr) (m cp : Nat) (hm : m = lv.length) (hv : RdOX (BF b H N.n) w A lv) (e x : Int) (he : (-9223372036854775808 ≤ e ∧ e ≤ 9223372036854775807)) (hx : (-9223372036854775808 ≤ x ∧ x ≤ 9223372036854775807)) (A2 : Option Addr) (ds : List (List UInt8)) (n2 c2 : Nat) (hn2 : ds.length = n2) (h1000 : n2 ≤ 1000) (hrd : RdRX (BF b H N.n) w A2 ds)
    (hps : ∀ i, i < N.n → (N.D i).ps.length ≤ 1999000) (hdn : N.done ≤ 1999000) (ht : TabOk W) :
    Calls Tryd.prog 9 #[.pointer (some ⟨b, 0, none⟩), .slice A m cp, .int .i64 e, .int .i64 x, .slice A2 n2 c2] w fun r w' => r = .returned (.int .i64 (bkS N lv e x ds).1) ∧ BC W w w' b H N.n (bkS N lv e x ds).2 := by
  subst hm
  have CM := Lib.hid (fun V => bkMay_any e x V)
  have Hh := Lib.hid h
  have B1 := Lib.hid (below1 w (.cells #[.pointer (some ⟨b, 0, none⟩)] 23))
  have CU := Lib.hid (fun V (hb : Below w.heap.size w V) => bkAnyU_any A2 n2 c2 ds V hn2 ((hrd.below hb).rdr))
  have HB := Lib.hid (h.self.then B1.out)
  cases hk : bkMay e x with
  | false =>
    have HS := Lib.hid (bkS_bad (N := N) (lv := lv) (bkBad_may (ds := ds) hk))
    rw [hk] at CM
    clear h hv hrd hps hdn ht hk CU hn2
    go_enter Tryd.func9, Tryd.ntmps9
    go_wp2_with (go_at_call 23; (with_reducible refine (CM.out _).mono ?_); rintro e w1 ⟨rfl, rfl⟩)
    go_ret
    exact ⟨by rw [HS.out]; rfl, by rw [HS.out]; exact HB.out⟩
  | true =>
    rw [hk] at CM
    by_cases hl : 28 < n2
    · have HS := Lib.hid (bkS_bad (N := N) (lv := lv) (bkBad_len (ds := ds) hk (by omega)))
      have i1 : (28 : Int) < (n2 : Int) := by omega
      clear h hv hrd hps hdn ht hk CU hn2
      go_enter Tryd.func9, Tryd.ntmps9
      go_wp2_with (go_at_call 23; (with_reducible refine (CM.out _).mono ?_); rintro e w1 ⟨rfl, rfl⟩)
      go_ret
      exact ⟨by rw [HS.out]; rfl, by rw [HS.out]; exact HB.out⟩
    · have i1 : ¬ (28 : Int) < (n2 : Int) := by omega
      have HX := Lib.hid (bkBad_any (ds := ds) hk (by omega))
      cases hu : ds.any unlB with
      | true =>
        have HS := Lib.hid (bkS_bad (N := N) (lv := lv) (HX.out.trans hu))
        rw [hu] at CU
        clear h hv hrd hps hdn ht hk hn2 HX hu
        go_enter Tryd.func9, Tryd.ntmps9
        go_wp2_with (first
          | (go_at_call 23; (with_reducible refine (CM.out _).mono ?_); rintro e w1 ⟨rfl, rfl⟩)
          | (go_at_call 24; (with_reducible refine (CU.out _ B1.out).mono ?_); rintro e w1 ⟨rfl, rfl⟩))
        go_ret
        exact ⟨by rw [HS.out]; rfl, by rw [HS.out]; exact HB.out⟩
      | false =>
        have HBad := Lib.hid (HX.out.trans hu)
        rw [hu] at CU
        obtain ⟨h0, h1, h2, h3⟩ := (bkMay_iff e x).1 hk
        obtain ⟨en, rfl⟩ : ∃ k : Nat, e = (k : Int) := ⟨e.toNat, by omega⟩
        obtain ⟨xn, rfl⟩ : ∃ k : Nat, x = (k : Int) := ⟨x.toNat, by omega⟩
        have htw : TabOk w := ht.below h.bel ht.pos
        have CH := Lib.hid (bkHead_any A2 n2 c2 en xn ds _ hn2 (by omega) (by omega) (by omega) (hrd.below B1.out).rdr (htw.below B1.out htw.pos))
        have Hv := Lib.hid hv
        have Hrd := Lib.hid hrd
        have Hn2 := Lib.hid hn2
        have Hps := Lib.hid hps
        have Hdn := Lib.hid hdn
        have C5 := Lib.hid (cell_of_row (w.alloc (.cells #[.pointer (some ⟨b, 0, none⟩)] 23)) w.heap.size 0 _ _ _ (heap_alloc_new w _))
        clear h hv hrd hps hdn ht hk hn2 HX hu htw HB h0 h1 h2 h3 he hx
        go_enter Tryd.func9, Tryd.ntmps9
        go_wp2_with (first
          | (go_at_call 23; (with_reducible refine (CM.out _).mono ?_); rintro e w1 ⟨rfl, rfl⟩)
          | (go_at_call 24; (with_reducible refine (CU.out _ B1.out).mono ?_); rintro e w1 ⟨rfl, rfl⟩))
        (with_reducible refine CH.out.mono ?_); rintro e w1 ⟨g, rfl, ho, hb1⟩
        have hB1 := B1.out.trans (hb1.mono B1.out.size)
        have HB1 := Lib.hid hB1
        have D5 := Lib.hid ((hb1.cell (p := ⟨w.heap.size, 0, none⟩) (by show w.heap.size < _; simp)).trans C5.out)
        have hz1 : w.heap.size < w1.heap.size := by have := hb1.size; simp at this; omega
        have Hoff := Lib.hid (show ∀ k, w.heap.size ≤ k → ¬ BF b H N.n k from fun k hk q => by have := (Hh.out.at'.flt q).2; omega)
        have HX1 := Lib.hid (show RdBX (BF b H N.n) w1 (some ⟨g, 0, none⟩) (bkB en xn ds) from ho.rdbf.rdbx fun k _ hk => Hoff.out k (by simp at hk; omega))
        have Hlen := Lib.hid (bkB_len en xn ds)
        have HPS : Hid (bkB ((en : Int)).toNat ((xn : Int)).toNat ds :: ds = [bkB en xn ds] ++ ds) := rfl
        generalize bkB en xn ds = hd at HX1 Hlen HPS
        clear ho hb1 hB1 CH CU CM C5
        go_wp2_with fail
        have b2 := below2 w1 (.cells #[.slice (some ⟨g, 0, none⟩) 32 32] 48) (.cells #[.slice (some ⟨w1.heap.size, 0, none⟩) 1 1, .slice A2 n2 c2] 31)
        have g1 : ((w1.alloc (.cells #[.slice (some ⟨g, 0, none⟩) 32 32] 48)).alloc (.cells #[.slice (some ⟨w1.heap.size, 0, none⟩) 1 1, .slice A2 n2 c2] 31)).heap[w1.heap.size]? = some (.cells #[.slice (some ⟨g, 0, none⟩) 32 32] 48) := (hp_old _ _ _ (by simp)).trans (hp_new w1 _ _ rfl)
        have g2 : ((w1.alloc (.cells #[.slice (some ⟨g, 0, none⟩) 32 32] 48)).alloc (.cells #[.slice (some ⟨w1.heap.size, 0, none⟩) 1 1, .slice A2 n2 c2] 31)).heap[w1.heap.size + 1]? = some (.cells #[.slice (some ⟨w1.heap.size, 0, none⟩) 1 1, .slice A2 n2 c2] 31) := hp_new _ _ _ (by simp)
        generalize (w1.alloc (.cells #[.slice (some ⟨g, 0, none⟩) 32 32] 48)).alloc (.cells #[.slice (some ⟨w1.heap.size, 0, none⟩) 1 1, .slice A2 n2 c2] 31) = V at b2 g1 g2 ⊢
        have HBV := Lib.hid (HB1.out.trans (b2.mono (by omega)))
        have DV := Lib.hid ((b2.cell (p := ⟨w.heap.size, 0, none⟩) hz1).trans D5.out)
        have hzV : w.heap.size < V.heap.size := by have := b2.size; omega
        have CC := Lib.hid (bkConcat_any (BF b H N.n) (w1.heap.size + 1) (some ⟨w1.heap.size, 0, none⟩) A2 1 n2 1 c2 _ _ [hd] ds V (fun k q => by have := (Hh.out.at'.flt q).2; omega) g2 rfl Hn2.out (by omega) (by omega) (rdrx_one g1 Hlen.out (Hoff.out _ (by omega)) (HX1.out.below b2)) (Hrd.out.below HBV.out))
        clear b2 g1 g2 D5 HX1
        (with_reducible refine CC.out.mono ?_); rintro e w2 ⟨A3, c3, rfl, hr3, hb3⟩
        have HB3 := Lib.hid (HBV.out.trans (hb3.mono (by omega)))
        have D3 := Lib.hid ((hb3.cell (p := ⟨w.heap.size, 0, none⟩) hzV).trans DV.out)
        have hz3 : w.heap.size < w2.heap.size := by have := hb3.size; omega
        have b4 := below1 w2 (.cells #[.slice A3 (1 + n2) c3] 31)
        have d5 := (b4.cell (p := ⟨w.heap.size, 0, none⟩) hz3).trans D3.out
        have d11 : (w2.alloc (.cells #[.slice A3 (1 + n2) c3] 31)).cell? ⟨w2.heap.size, 0, none⟩ = some (.slice A3 (1 + n2) c3) := cell_of_row _ _ 0 _ _ _ (hp_new w2 _ _ rfl)
        have hr4 := hr3.below b4
        have HB4 := Lib.hid (HB3.out.trans (b4.mono (by omega)))
        have CE := Lib.hid (eachBk_any W _ b H N (Hh.out.grow HB4.out) w.heap.size w2.heap.size A3 ([hd] ++ ds) (1 + n2) c3 (by rw [List.length_append, Hn2.out]; rfl) (by omega) d5 d11 hr4 (Hoff.out _ (Nat.le_refl _)) (Hoff.out _ (by omega)) lv A lv.length cp rfl (Hv.out.below HB4.out) Hps.out Hdn.out)
        have D4 := Lib.hid d5
        have Hnw := Lib.hid (show (onTo (bkF ([hd] ++ ds)) lv N N.n).2.n = N.n from onBk_n _)
        obtain ⟨r, hr⟩ : ∃ r, onTo (bkF ([hd] ++ ds)) lv N N.n = r := ⟨_, rfl⟩
        have HS1 : Hid (r.1 ≠ 0 → bkS N lv (en : Int) (xn : Int) ds = r) := fun q => bkS_err HBad.out (by rw [HPS.out]; exact hr) q
        have HS0 : Hid (r.1 = 0 → bkS N lv (en : Int) (xn : Int) ds = onTo flF lv r.2 N.n) := fun q => bkS_fl HBad.out (by rw [HPS.out]; exact hr) q
        rw [hr] at CE Hnw
        obtain ⟨e0, Nw⟩ := r
        clear hr hb3 b4 d11 hr4 hr3 CC DV D3 HB3 HBV HPS Hlen
        by_cases q0 : e0 = 0
        · have HSt := Lib.hid (HS0.out q0)
          rw [q0] at CE
          clear HS0 HS1 q0
          go_wp2_with (first
            | (go_at_call 28
               (with_reducible refine CE.out.mono ?_)
               rintro e w5 ⟨rfl, ht5⟩
               obtain ⟨H5, a5, c5, n5⟩ := ht5
               have A5 := Lib.hid a5
               have C5 := Lib.hid c5
               have N5 := Lib.hid n5
               have e3 := cell_chg D4.out c5 (Hoff.out _ (Nat.le_refl _))
               clear a5 c5 n5
               have CF := Lib.hid (eachFl_any W w5 b H5 Nw A5.out lv A lv.length cp rfl (by rw [Hnw.out]; exact (Hv.out.below HB4.out).chg C5.out (bnew_weak N5.out))))
            | (go_at_call 28
               (with_reducible refine CF.out.mono ?_)
               rintro e w6 ⟨rfl, ht6⟩
               have HT := Lib.hid (BC.below HB4.out (BC.seq C5.out N5.out (by rw [Hnw.out] at ht6; exact ht6)))
               clear ht6))
          go_ret
          exact ⟨by rw [HSt.out, ← Hnw.out]; rfl, by rw [HSt.out]; exact HT.out⟩
        · have HSt := Lib.hid (HS1.out q0)
          have n0 : (e0 != 0) = true := by rw [bne_iff_ne]; exact q0
          clear HS0 HS1 q0
          go_wp2_with (go_at_call 28; (with_reducible refine CE.out.mono ?_); rintro e w5 ⟨rfl, ht5⟩; have HT := Lib.hid (BC.below HB4.out ht5); clear ht5)
          go_ret
          exact ⟨by rw [HSt.out]; rfl, by rw [HSt.out]; exact HT.out⟩
end Go.Proofs.YtjnemopocmhfkaaDoor
end
