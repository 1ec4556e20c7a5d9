/- Texts put together: Ks, BakHead, EachFl. -/
import Derived.Test.YtjnemopocmhfkaaDoorBlbc
import Derived.Test.YtjnemopocmhfkaaDoorBlbb
import Derived.Test.YtjnemopocmhfkaaDoorBlaf
import Derived.Test.YtjnemopocmhfkaaDoorBlah
import Derived.Test.YtjnemopocmhfkaaDoorBlag
import Derived.Test.YtjnemopocmhfkaaDoorBlba
import Derived.Test.YtjnemopocmhfkaaDoorBlas
section
set_option maxRecDepth 20000
set_option linter.unusedVariables false
set_option linter.unusedSimpArgs false
namespace Go.Proofs.YtjnemopocmhfkaaDoor
open Go.RowKit

structure KS (W w : World) (b : Nat) (H : BH) (N : Bch) (K : List (Nat × Obj)) (R : List (Option Addr × List (List UInt8))) (S : List (Option Addr × List UInt8)) : Prop where
  kx : KX W w b H N K
  rx : ∀ p ∈ R, RdRX (BF b H N.n) w p.1 p.2
  sx : ∀ p ∈ S, RdBX (BF b H N.n) w p.1 p.2
section
variable {W w w' : World} {b : Nat} {H : BH} {N : Bch} {K : List (Nat × Obj)} {R : List (Option Addr × List (List UInt8))} {S : List (Option Addr × List UInt8)}
theorem KX.ks (h : KX W w b H N K) : KS W w b H N K [] [] := ⟨h, fun _ hp => absurd hp (by simp), fun _ hp => absurd hp (by simp)⟩
theorem KS.bp (h : KS W w b H N K R S) : BP W w b H N := h.kx.bp
theorem KS.below (h : KS W w b H N K R S) (hb : Below w.heap.size w w') : KS W w' b H N K R S := ⟨h.kx.below hb, fun p hp => (h.rx p hp).below hb, fun p hp => (h.sx p hp).below hb⟩
theorem KS.bc (h : KS W w b H N K R S) {N' : Bch} (hc : BC W w w' b H N.n N') (hn : N'.n = N.n) : ∃ H', KS W w' b H' N' K R S := by
  obtain ⟨H', a, c, m⟩ := hc
  have hx : KX W w' b H' N' K := by
    refine ⟨a, fun p hp => ?_⟩
    obtain ⟨h1, h2, h3⟩ := h.kx.kp p hp
    have hl := (Array.getElem?_eq_some_iff.1 h1).1
    exact ⟨(c.block _ hl h2).trans h1, by rw [hn]; exact BC.off m hl h2, h3⟩
  exact ⟨H', hx, fun p hp => by rw [hn]; exact (h.rx p hp).chg c (bnew_weak m), fun p hp => by rw [hn]; exact (h.sx p hp).chg c (bnew_weak m)⟩
theorem KS.add (h : KS W w b H N K R S) (o : Obj) : KS W (w.alloc o) b H N ((w.heap.size, o) :: K) R S := ⟨h.kx.add o, fun p hp => (h.rx p hp).below (below1 w o), fun p hp => (h.sx p hp).below (below1 w o)⟩
theorem KS.flt (h : KS W w b H N K R S) : ∀ k, BF b H N.n k → k < w.heap.size := fun k hk => (h.bp.at'.flt hk).2
theorem KS.off (h : KS W w b H N K R S) {lo : Nat} (hlo : w.heap.size ≤ lo) : ∀ k, k < w'.heap.size → lo ≤ k → ¬ BF b H N.n k := fun k _ hk e => by have := h.flt k e; omega
/-- With rows that were made since. -/
theorem KS.rows (h : KS W w b H N K R S) (hb : Below w.heap.size w w') {A : Option Addr} {rs : List (List UInt8)} (hr : RdF w.heap.size w' A rs) : KS W w' b H N K ((A, rs) :: R) S := by
  have h' := h.below hb
  refine ⟨h'.kx, fun p hp => ?_, h'.sx⟩
  rcases List.mem_cons.1 hp with rfl | hp
  · exact hr.rdrx (h.off (Nat.le_refl _))
  · exact h'.rx p hp
theorem KS.slice (h : KS W w b H N K R S) (hb : Below w.heap.size w w') {A : Option Addr} {bs : List UInt8} (hr : RdBF w.heap.size w' A bs) : KS W w' b H N K R ((A, bs) :: S) := by
  have h' := h.below hb
  refine ⟨h'.kx, h'.rx, fun p hp => ?_⟩
  rcases List.mem_cons.1 hp with rfl | hp
  · exact hr.rdbx (h.off (Nat.le_refl _))
  · exact h'.sx p hp
theorem KS.rd (h : KS W w b H N K R S) {A : Option Addr} {rs : List (List UInt8)} (hm : (A, rs) ∈ R) : RdR w w.heap.size A rs := (h.rx _ hm).rdr
theorem KS.lv (h : KS W w b H N K R S) {g : Nat} {cs : Array Value} {t : TypeId} {f : Nat × Nat} {lv : List Bool} (hm : (g, Obj.cells cs t f) ∈ K) (hcs : cs = (lv.map Value.bool).toArray) (hl : lv.length ≤ 1000000) : RdOX (BF b H N.n) w (some ⟨g, 0, none⟩) lv := by
  subst hcs
  obtain ⟨h1, h2, _⟩ := h.kx.kp _ hm
  refine ⟨by omega, fun _ => ⟨g, 0, rfl, (Array.getElem?_eq_some_iff.1 h1).1, h2, fun k hk => ?_⟩⟩
  rw [Nat.zero_add, cell_of_row w g k _ t f h1, List.getElem?_toArray, List.getElem?_map, List.getElem?_eq_getElem hk]
  simp [List.getD_eq_getElem?_getD, hk]
end
section
variable {W w : World} {b : Nat} {H : BH} {N : Bch} {K : List (Nat × Obj)} {R : List (Option Addr × List (List UInt8))} {S : List (Option Addr × List UInt8)} (h : KS W w b H N K R S)
include h
theorem ks_fail (d : Int) (hd : i64B d) : Calls Tryd.prog 16 #[.pointer (some ⟨b, 0, none⟩), .int .i64 d] w fun e w' => e = .returned (.int .i64 (N.pickE d)) ∧ ∃ H', KS W w' b H' (N.fail d) K R S := by
  refine (bp_fail W w b H N h.bp d hd).mono ?_
  rintro e w' ⟨rfl, ht⟩
  obtain ⟨H', k'⟩ := h.bc ht (fail_n _ _)
  exact ⟨rfl, H', k'⟩
end
end Go.Proofs.YtjnemopocmhfkaaDoor
end
section
set_option maxRecDepth 20000
set_option linter.unusedVariables false
set_option linter.unusedSimpArgs false
namespace Go.Proofs.YtjnemopocmhfkaaDoor
open Go.RowKit

theorem bkMay_any (e w : Int) (V : World) : Calls Tryd.prog 23 #[.int .i64 e, .int .i64 w] V fun r V' => r = .returned (.bool (bkMay e w)) ∧ V' = V := by
  by_cases c1 : 0 ≤ e
  · by_cases c2 : e ≤ 65535
    · by_cases c3 : 0 ≤ w
      · by_cases c4 : w ≤ 16
        · have R := Lib.hid (show bkMay e w = true from (bkMay_iff e w).2 ⟨c1, c2, c3, c4⟩)
          go_enter Tryd.func23, Tryd.ntmps23
          go_wp2
          go_ret
          exact ⟨by rw [R.out]; rfl, rfl⟩
        · have R := Lib.hid (show bkMay e w = false from Bool.eq_false_iff.2 fun h => c4 ((bkMay_iff e w).1 h).2.2.2)
          go_enter Tryd.func23, Tryd.ntmps23
          go_wp2
          go_ret
          exact ⟨by rw [R.out]; rfl, rfl⟩
      · have R := Lib.hid (show bkMay e w = false from Bool.eq_false_iff.2 fun h => c3 ((bkMay_iff e w).1 h).2.2.1)
        have i3 : ¬ (w ≥ 0) := c3
        go_enter Tryd.func23, Tryd.ntmps23
        go_wp2
        go_ret
        exact ⟨by rw [R.out]; rfl, rfl⟩
    · have R := Lib.hid (show bkMay e w = false from Bool.eq_false_iff.2 fun h => c2 ((bkMay_iff e w).1 h).2.1)
      go_enter Tryd.func23, Tryd.ntmps23
      go_wp2
      go_ret
      exact ⟨by rw [R.out]; rfl, rfl⟩
  · have R := Lib.hid (show bkMay e w = false from Bool.eq_false_iff.2 fun h => c1 ((bkMay_iff e w).1 h).1)
    have i1 : ¬ (e ≥ 0) := c1
    go_enter Tryd.func23, Tryd.ntmps23
    go_wp2
    go_ret
    exact ⟨by rw [R.out]; rfl, rfl⟩
theorem bkH_sets (e w n : Nat) : ((((setsB (List.replicate 32 0) 0 [87, 66, 65, 75]).set 4 (UInt8.ofNat (e / 256))).set 5 (UInt8.ofNat e)).set 6 (UInt8.ofNat w)).set 7 (UInt8.ofNat n) = bkH e w n := rfl
set_option maxHeartbeats 800000 in
theorem bkHead_any (A : Option Addr) (n c e w : Nat) (ds : List (List UInt8)) (V : World) (hn : ds.length = n) (he : e < 65536) (hw : w ≤ 16) (h28 : n ≤ 28) (hr : RdR V V.heap.size A ds) (ht : TabOk V) :
    Calls Tryd.prog 27 #[.int .i64 (e : Int), .int .i64 (w : Int), .slice A n c] V fun r V' => ∃ g : Nat, r = .returned (.slice (some ⟨g, 0, none⟩) 32 32) ∧ OwB 5 V' V.heap.size (.slice (some ⟨g, 0, none⟩) 32 32) (bkB e w ds) ∧ Below V.heap.size V V' := by
  have hmk := makeS
  have Hr := Lib.hid hr
  have Ht := Lib.hid ht
  have Hn := Lib.hid hn
  have HS := Lib.hid (bkH_sets e w n)
  have HB : Hid (bkB e w ds = stamped (bkH e w n) ds) := by show _ = _; rw [← hn]; rfl
  have HL := Lib.hid (bkH_len e w n)
  have E1 : Hid ((e : Int) / 256 = ((UInt8.ofNat (e / 256)).toNat : Int)) := by show _ = _; rw [UInt8.toNat_ofNat']; omega
  have E0 : Hid ((e : Int) % 256 = ((UInt8.ofNat e).toNat : Int)) := by show _ = _; rw [UInt8.toNat_ofNat']; omega
  have Ew : Hid ((w : Int) = ((UInt8.ofNat w).toNat : Int)) := by show _ = _; rw [UInt8.toNat_ofNat']; omega
  have En : Hid ((n : Int) = ((UInt8.ofNat n).toNat : Int)) := by show _ = _; rw [UInt8.toNat_ofNat']; omega
  clear hr ht hn
  have O0 := Lib.hid (own_make 5 V 32 (by omega))
  have H0 := Lib.hid (show (setsB (List.replicate 32 0) 0 [87, 66, 65, 75]).length = 32 from rfl)
  go_enter Tryd.func27, Tryd.ntmps27
  go_wp2_with (refine wpList_copy_S rfl _ _ rfl V.heap.size 32 32 V.heap.size (List.replicate 32 0) [87, 66, 65, 75] rfl rfl O0.out (by simp) (by decide) ?_; intro w2 o2 g2 rv; generalize setsB (List.replicate 32 0) 0 [87, 66, 65, 75] = L at o2 HS H0; obtain ⟨q4, f4⟩ := o2.cell H0.out 4 (by omega); obtain ⟨q5, f5⟩ := o2.cell H0.out 5 (by omega); obtain ⟨q6, f6⟩ := o2.cell H0.out 6 (by omega); obtain ⟨q7, f7⟩ := o2.cell H0.out 7 (by omega); have O2 := Lib.hid o2; have G2 := Lib.hid g2; clear o2 g2 O0 hmk; generalize L.getD 4 0 = y4 at q4; generalize L.getD 5 0 = y5 at q5; generalize L.getD 6 0 = y6 at q6; generalize L.getD 7 0 = y7 at q7)
  have s4 := O2.out.set H0.out 4 (UInt8.ofNat (e / 256))
  have s5 := s4.1.set (by rw [List.length_set]; exact H0.out) 5 (UInt8.ofNat e)
  have s6 := s5.1.set (by rw [List.length_set, List.length_set]; exact H0.out) 6 (UInt8.ofNat w)
  have s7 := s6.1.set (by rw [List.length_set, List.length_set, List.length_set]; exact H0.out) 7 (UInt8.ofNat n)
  have g7 := G2.out.trans (s4.2.trans (s5.2.trans (s6.2.trans s7.2)))
  have o7 := s7.1
  rw [HS.out, ← E1.out, ← E0.out, ← Ew.out, ← En.out] at o7
  rw [← E1.out, ← E0.out, ← Ew.out, ← En.out] at g7
  clear s4 s5 s6 s7 q4 q5 q6 q7 f4 f5 f6 f7 O2 G2
  generalize ((((w2.setCell ⟨V.heap.size, 4, none⟩ (.int .u8 ((e : Int) / 256))).setCell ⟨V.heap.size, 5, none⟩ (.int .u8 ((e : Int) % 256))).setCell ⟨V.heap.size, 6, none⟩ (.int .u8 (w : Int))).setCell ⟨V.heap.size, 7, none⟩ (.int .u8 (n : Int))) = W at o7 g7 ⊢
  have hb : Below V.heap.size V W := (below1 V _).grown g7 (by simp) (fun j e => by injection e with e; omega)
  have hz := hb.size
  have CS := Lib.hid (stamp_any V.heap.size 32 V.heap.size A c (bkH e w n) ds n W Hn.out o7 HL.out ((Hr.out.below hb (Nat.le_refl _)).more hz) (Ht.out.below hb Ht.out.pos))
  clear o7 hz
  (with_reducible refine CS.out.mono ?_); rintro e2 w3 ⟨rfl, o3, g3⟩
  have O3 := Lib.hid o3
  have B3 := Lib.hid (hb.grown g3 hb.size (fun j e => by injection e with e; omega))
  clear o3 g3 hb g7 CS
  go_wp2
  go_ret
  exact ⟨V.heap.size, rfl, by rw [HB.out]; exact O3.out, B3.out⟩
end Go.Proofs.YtjnemopocmhfkaaDoor
end
section
set_option maxRecDepth 20000
set_option linter.unusedVariables false
set_option linter.unusedSimpArgs false
namespace Go.Proofs.YtjnemopocmhfkaaDoor
open Go.RowKit

set_option maxHeartbeats 4000000 in
theorem eachFl_any (W w : World) (b : Nat) (H : BH) (N : Bch) (h : BP W w b H N) (lv : List Bool) (A : Option Addr) (m cp : Nat) (hm : m = lv.length) (hv : RdOX (BF b H N.n) w A lv) :
    Calls Tryd.prog 28 #[.pointer (some ⟨b, 0, none⟩), .slice A m cp, .func (.func 31) #[.pointer (some ⟨b, 0, none⟩)] #[]] w fun e w' => e = .returned (.int .i64 (onTo flF lv N N.n).1) ∧ BC W w w' b H N.n (onTo flF lv N N.n).2 := by
  subst hm
  have Hh := Lib.hid h
  have hn8 := h.at'.ok.n
  have CL := Lib.hid (bp_len W w b H N h)
  have Hv := Lib.hid hv
  obtain ⟨rr, hrr⟩ : ∃ rr, onTo flF lv N N.n = rr := ⟨_, rfl⟩
  rw [hrr]
  have Hall := Lib.hid hrr.symm
  clear hrr
  have CV := Lib.hid (fun (W1 : World) (H1 : BH) (N1 : Bch) (hp : BP W W1 b H1 N1) (hv1 : RdOX (BF b H1 N.n) W1 A lv) (j : Nat) (hj : j ≤ 1000000) => alvIs_any W.heap.size b H1 N1 W1 hp.at' lv A lv.length cp rfl hv1.rdo (j : Int) (by omega) (by omega))
  clear h hv
  obtain ⟨n0, hn0⟩ : ∃ n0, N.n = n0 := ⟨_, rfl⟩
  rw [hn0] at CL Hall hn8
  have Hn0 := Lib.hid hn0
  clear hn0
  go_enter Tryd.func28, Tryd.ntmps28
  go_wp2_with fail
  (with_reducible refine CL.out.mono ?_); rintro e w1 ⟨rfl, rfl⟩
  go_wp2
  go_loopw [11] (fun i wr => ∃ j : Nat, j ≤ n0 ∧ i = .int .i64 j ∧ (onTo flF lv N j).1 = 0 ∧ BC W w1 wr b H N.n (onTo flF lv N j).2) (fun i _ => n0 - (intOf i).toNat)
  case atStart => exact ⟨0, Nat.zero_le _, rfl, rfl, Hh.out.self⟩
  case round =>
    obtain ⟨j, hj, rfl, hz, hbc⟩ := hrel
    have Hz := Lib.hid hz
    have Hbc := Lib.hid hbc
    obtain ⟨Hj, aj, cj, nj⟩ := hbc
    have Haj := Lib.hid aj
    have Hcj := Lib.hid cj
    have Hnj := Lib.hid nj
    clear hz aj cj nj
    by_cases hlt : j < n0
    · have i0 : (0 : Int) ≤ (j : Int) := by omega
      have i1 : (j : Int) < (n0 : Int) := by omega
      have Hnn : Hid ((onTo flF lv N j).2.n = N.n) := flushed_n j
      have CL1 := Lib.hid (CV.out wr Hj _ Haj.out (Hv.out.chg Hcj.out (bnew_weak Hnj.out)) j (by omega))
      have HLv := Lib.hid (show alvD (onTo flF lv N j).2.n lv (j : Int) = lv.getD j false by rw [alvD_nat, Hnn.out, Hn0.out, decide_eq_true hlt]; rfl)
      rw [HLv.out] at CL1
      cases hb : lv.getD j false with
      | false =>
        rw [hb] at CL1
        have HS := Lib.hid (onTo_skip Hz.out hb)
        clear hb CL CV HLv
        go_wp2_with (go_at_call 34; (with_reducible refine CL1.out.mono ?_); rintro e w2 ⟨rfl, h2⟩; obtain rfl : wr = w2 := h2.symm)
        go_roundw
        case rel => exact ⟨j + 1, by omega, by go_num, by rw [HS.out]; exact Hz.out, by rw [HS.out]; exact Hbc.out⟩
        case measure => simp [intOf]; omega
      | true =>
        rw [hb] at CL1
        have CF := Lib.hid (show Calls Tryd.prog 31 #[.pointer (some ⟨b, 0, none⟩), .int .i64 (j : Int)] wr fun e w' => e = .returned (.int .i64 (flF (onTo flF lv N j).2 j).1) ∧ BC W wr w' b Hj (onTo flF lv N j).2.n (flF (onTo flF lv N j).2 j).2 from bp_flush W wr b Hj _ Haj.out (j : Int) (i64n (by omega)))
        have HX : Hid (∀ w2, BC W wr w2 b Hj (onTo flF lv N j).2.n (flF (onTo flF lv N j).2 j).2 → BC W w1 w2 b H N.n (flF (onTo flF lv N j).2 j).2) := fun w2 h2 => by
          rw [Hnn.out] at h2
          exact h2.seq Hcj.out Hnj.out
        have HG := Lib.hid (fun hq => onTo_goes (f := flF) Hz.out hb hq)
        have HP := Lib.hid (fun hq => onTo_pass (f := flF) Hz.out hb hq)
        clear hb CL CV HLv
        generalize flF (onTo flF lv N j).2 j = r at CF HX HG HP
        obtain ⟨e, Nx⟩ := r
        by_cases h5 : e = 5
        · have HP := Lib.hid (HP.out h5)
          clear HG
          rw [h5] at CF
          clear h5
          go_wp2_with (first | (go_at_call 34; (with_reducible refine CL1.out.mono ?_); rintro e w2 ⟨rfl, h2⟩; obtain rfl : wr = w2 := h2.symm) | (go_at_call 31; (with_reducible refine CF.out.mono ?_); rintro e w3 ⟨rfl, ht⟩; have Ht := Lib.hid (HX.out _ ht); clear ht))
          go_roundw
          case rel => exact ⟨j + 1, by omega, by go_num, by rw [HP.out], by rw [HP.out]; exact Ht.out⟩
          case measure => simp [intOf]; omega
        · have HG := Lib.hid (HG.out h5)
          clear HP
          by_cases h0 : e = 0
          · rw [h0] at CF HG
            clear h5 h0
            go_wp2_with (first | (go_at_call 34; (with_reducible refine CL1.out.mono ?_); rintro e w2 ⟨rfl, h2⟩; obtain rfl : wr = w2 := h2.symm) | (go_at_call 31; (with_reducible refine CF.out.mono ?_); rintro e w3 ⟨rfl, ht⟩; have Ht := Lib.hid (HX.out _ ht); clear ht))
            go_roundw
            case rel => exact ⟨j + 1, by omega, by go_num, by rw [HG.out], by rw [HG.out]; exact Ht.out⟩
            case measure => simp [intOf]; omega
          · have n5 : (e != 5) = true := by rw [bne_iff_ne]; exact h5
            have n0' : (e != 0) = true := by rw [bne_iff_ne]; exact h0
            have HS := Lib.hid (onTo_stop (f := flF) (lv := lv) (N := N) (i := j + 1) (by rw [HG.out]; exact h0) n0 (by omega))
            clear h5 h0
            go_wp2_with (first | (go_at_call 34; (with_reducible refine CL1.out.mono ?_); rintro e w2 ⟨rfl, h2⟩; obtain rfl : wr = w2 := h2.symm) | (go_at_call 31; (with_reducible refine CF.out.mono ?_); rintro e w3 ⟨rfl, ht⟩; have Ht := Lib.hid (HX.out _ ht); clear ht))
            go_ret
            exact ⟨by rw [Hall.out, HS.out, HG.out]; rfl, by rw [Hall.out, HS.out, HG.out]; exact Ht.out⟩
    · obtain rfl : j = n0 := by omega
      go_wp2
      go_ret
      exact ⟨by rw [Hall.out, Hz.out]; rfl, by rw [Hall.out]; exact Hbc.out⟩
end Go.Proofs.YtjnemopocmhfkaaDoor
end
