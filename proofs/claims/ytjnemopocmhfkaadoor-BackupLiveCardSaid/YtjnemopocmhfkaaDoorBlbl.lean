/- Texts put together: BackupLiveLaw. -/
import Derived.Test.YtjnemopocmhfkaaDoorBlbk
import Derived.Test.YtjnemopocmhfkaaDoorBlav
section
set_option maxRecDepth 20000
set_option linter.unusedVariables false
set_option linter.unusedSimpArgs false
namespace Go.Proofs.YtjnemopocmhfkaaDoor
open Go.RowKit

theorem rdox_take {F : Nat → Prop} {w : World} {A : Option Addr} {lv : List Bool} (h : RdOX F w A lv) (k : Nat) : RdOX F w A (lv.take k) :=
  ⟨by have := h.1; rw [List.length_take]; omega, fun h0 => by
    rw [List.length_take] at h0
    obtain ⟨b, off, e, hb, hF, hc⟩ := h.2 (by omega)
    refine ⟨b, off, e, hb, hF, fun j hj => ?_⟩
    rw [List.length_take] at hj
    rw [hc j (by omega), List.getD_eq_getElem?_getD, List.getD_eq_getElem?_getD, List.getElem?_take, if_pos (by omega)]⟩
set_option maxHeartbeats 4000000 in
theorem backuplive (A : Option Addr) (zs : List Int) (cl : Nat) (only fail : Int) (W : World) (_ : zs.length ≤ cl) (hz : RdZ W W.heap.size A zs) (h1 : (-9223372036854775808 ≤ only ∧ only ≤ 9223372036854775807)) (h2 : (-9223372036854775808 ≤ fail ∧ fail ≤ 9223372036854775807)) (ht : TabOk W) :
    Calls Tryd.prog 4 #[.slice A zs.length cl, .int .i64 only, .int .i64 fail] W fun e w' => e = .returned (.bool true) ∧ Below W.heap.size W w' := by
  have hpn := ptr_eq
  have CN := Lib.hid (bp_new 3 W W (Below.refl _ _) (by omega))
  have Ht := Lib.hid ht
  have Hz := Lib.hid hz
  have CW1 := Lib.hid (fun V => within_any only 3 V h1 (by omega))
  obtain ⟨k, hk, hk3⟩ : ∃ k : Nat, withinI only 3 = (k : Int) ∧ k < 3 := ⟨(withinI only 3).toNat, by have := withinI_bd only 3 (by omega); omega, by have := withinI_bd only 3 (by omega); omega⟩
  rw [hk] at CW1
  have hw64 : -9223372036854775808 ≤ wrap64 ((k : Int) + fail) ∧ wrap64 ((k : Int) + fail) ≤ 9223372036854775807 := by unfold wrap64; omega
  obtain ⟨s, hs⟩ : ∃ s, wrap64 ((k : Int) + fail) = s := ⟨_, rfl⟩
  rw [hs] at hw64
  have CW2 := Lib.hid (fun V => within_any s 5 V hw64 (by omega))
  obtain ⟨n, hn, hn5⟩ : ∃ n : Nat, withinI s 5 = (n : Int) ∧ n < 5 := ⟨(withinI s 5).toNat, by have := withinI_bd s 5 (by omega); omega, by have := withinI_bd s 5 (by omega); omega⟩
  rw [hn] at CW2
  obtain ⟨N1, o1⟩ := one_live hk3 zs (n := n) (by omega)
  obtain ⟨p1, dn, sm, n3, al, no, few, gone⟩ := o1
  obtain ⟨x0, e0⟩ : ∃ y, decide (k = 0) = y := ⟨_, rfl⟩
  obtain ⟨x1, e1⟩ : ∃ y, decide (k = 1) = y := ⟨_, rfl⟩
  obtain ⟨x2, e2⟩ : ∃ y, decide (k = 2) = y := ⟨_, rfl⟩
  have c0 : ((k : Int) == 0) = x0 := by rw [← e0]; exact Bool.eq_iff_iff.2 (by simp)
  have c1 : ((k : Int) == 1) = x1 := by rw [← e1]; exact Bool.eq_iff_iff.2 (by simp; omega)
  have c2 : ((k : Int) == 2) = x2 := by rw [← e2]; exact Bool.eq_iff_iff.2 (by simp; omega)
  have d0 : ((k : Int) != 0) = !x0 := by rw [← c0]; rfl
  have d1 : ((k : Int) != 1) = !x1 := by rw [← c1]; rfl
  have d2 : ((k : Int) != 2) = !x2 := by rw [← c2]; rfl
  rw [e0, e1, e2] at p1 no few gone
  obtain ⟨ds, hds⟩ : ∃ ds, sectorsB zs n = ds := ⟨_, rfl⟩
  have hdl : ds.length = n := by rw [← hds]; exact sectorsB_len _ _
  rw [hds] at p1 dn al
  rw [hdl] at dn
  have CS := Lib.hid (fun (w : World) (b : Nat) (H : BH) (N : Bch) (K : List (Nat × Obj)) (R : List (Option Addr × List (List UInt8))) (S : List (Option Addr × List UInt8)) (h : KS W w b H N K R S) => ks_sectors h zs.length cl n rfl hz (by omega))
  rw [hds] at CS
  have Hdl := Lib.hid hdl
  have P1 := Lib.hid p1
  have Dn := Lib.hid dn
  have Sm := Lib.hid sm
  have N3 := Lib.hid n3
  have Al := Lib.hid al
  have No := Lib.hid no
  have Few := Lib.hid few
  have Gone := Lib.hid gone
  have k0 : (0 : Int) ≤ (k : Int) := by omega
  have k3 : (k : Int) ≤ 3 := by omega
  clear ht hz h1 h2 hk hn hw64 p1 dn sm n3 al no few gone e0 e1 e2 hds hdl
  go_enter Tryd.func4, Tryd.ntmps4
  go_wp2_with fail
  refine CN.out.mono ?_
  rintro e w ⟨b, H, rfl, hp, _, _⟩
  unfold ptr
  have K1 : Hid (KS W w b H (Bch.new 3) [] [] []) := (show KX W w b H (Bch.new 3) [] from ⟨hp, fun p hp => by cases hp⟩).ks
  clear hp CN
  go_wp2_with fail
  (with_reducible refine (CW1.out _).mono ?_); rintro e w1 ⟨rfl, rfl⟩
  go_wp2_with fail
  have K2 := Lib.hid (K1.out.add (.cells #[.bool x0, .bool x1, .bool x2] 4 (0, 0)))
  obtain ⟨gl, hgl⟩ : ∃ gl, w1.heap.size = gl := ⟨_, rfl⟩
  rw [hgl] at K2
  (with_reducible refine (CW2.out _).mono ?_); rintro e w2 ⟨rfl, rfl⟩
  go_wp2_with fail
  (with_reducible refine (CS.out _ _ _ _ _ _ _ K2.out).mono ?_); rintro e w3 ⟨A1, c1', rfl, k3'⟩
  have K3 := Lib.hid k3'
  have C3 := Lib.hid (ks_bput K3.out [x0, x1, x2] (some ⟨gl, 0, none⟩) 3 3 rfl (K3.out.lv (List.mem_cons_self ..) rfl (by simp)) 7 3 (by omega) (by omega) (A2 := A1) (ds := ds) n c1' Hdl.out (by omega) (K3.out.rx _ (List.mem_cons_self ..)) (fun i _ => by show (0 : Nat) ≤ _; omega) (by show (0 : Nat) ≤ _; omega) Ht.out)
  rw [P1.out] at C3
  clear k3' K1 K2 CW1 CW2 CS
  go_wp2_with fail
  (with_reducible refine C3.out.mono ?_); rintro e w4 ⟨rfl, H4, k4⟩
  have K4 := Lib.hid k4
  have C4 := Lib.hid (bp_writes _ _ _ _ _ K4.out.bp)
  rw [Dn.out, show ((n + 1 : Nat) : Int) = (n : Int) + 1 from rfl] at C4
  have hne : ((n : Int) + 1 != (n : Int) + 1) = false := bne_self_eq_false _
  clear k4 K3 C3
  go_wp2_with fail
  (with_reducible refine C4.out.mono ?_); rintro e w5 ⟨rfl, hq⟩
  obtain rfl : w4 = w5 := hq.symm
  clear C4
  have K5 := Lib.hid (K4.out.add (.cells #[.bool true, .bool true, .bool true] 4 (0, 0)))
  have C5 := Lib.hid (ks_bget K5.out [true, true, true] (some ⟨w4.heap.size, 0, none⟩) 3 3 rfl (K5.out.lv (List.mem_cons_self ..) rfl (by decide)) 7 3 (by omega) (by omega) Ht.out)
  rw [Al.out.1, Al.out.2, Hdl.out] at C5
  go_wp2_with fail
  (with_reducible refine C5.out.mono ?_); rintro e w6 ⟨A2, c2', rfl, k6⟩
  have K6 := Lib.hid (k6.add (.cells #[.bool !x0, .bool !x1, .bool !x2] 4 (0, 0)))
  have C6 := Lib.hid (ks_bget K6.out [!x0, !x1, !x2] (some ⟨w6.heap.size, 0, none⟩) 3 3 rfl (K6.out.lv (List.mem_cons_self ..) rfl (by simp)) 7 3 (by omega) (by omega) Ht.out)
  rw [No.out] at C6
  clear k6 C5 K5 K4
  go_wp2_with fail
  (with_reducible refine C6.out.mono ?_); rintro e w7 ⟨A3, c3', rfl, k7⟩
  have K7 := Lib.hid k7
  have L7 := Lib.hid (k7.lv (g := gl) (cs := #[.bool x0, .bool x1, .bool x2]) (t := 4) (f := (0, 0)) (lv := [x0, x1, x2]) (by simp) rfl (by simp))
  have C7 := Lib.hid (ks_bget K7.out ([x0, x1, x2].take k) (some ⟨gl, 0, none⟩) k 3 (by rw [List.length_take]; show k = min k 3; omega) (rdox_take L7.out k) 7 3 (by omega) (by omega) Ht.out)
  rw [Few.out] at C7
  clear k7 C6 K6
  go_wp2_with fail
  (with_reducible refine C7.out.mono ?_); rintro e w8 ⟨A4, c4', rfl, k8⟩
  have K8 := Lib.hid k8
  have C8 := Lib.hid (ks_fail K8.out (k : Int) (by constructor <;> omega))
  clear k8 C7 K7 L7
  go_wp2_with fail
  (with_reducible refine C8.out.mono ?_); rintro e w9 ⟨rfl, H9, k9⟩
  have K9 := Lib.hid k9
  have C9 := Lib.hid (ks_bget K9.out [x0, x1, x2] (some ⟨gl, 0, none⟩) 3 3 rfl (k9.lv (g := gl) (cs := #[.bool x0, .bool x1, .bool x2]) (t := 4) (f := (0, 0)) (lv := [x0, x1, x2]) (by simp) rfl (by simp)) 7 3 (by omega) (by omega) Ht.out)
  rw [Gone.out] at C9
  clear k9 C8 K8
  go_wp2_with fail
  (with_reducible refine C9.out.mono ?_); rintro e w10 ⟨A5, c5', rfl, k10⟩
  have K10 := Lib.hid k10
  have C10 := Lib.hid (ks_sameR K10.out (A := A2) (A' := A1) (ra := ds) (rb := ds) n n c2' c1' Hdl.out Hdl.out (by simp) (by simp))
  rw [decide_eq_true rfl] at C10
  clear k10 C9 K9
  go_wp2_with fail
  (with_reducible refine C10.out.mono ?_); rintro e w11 ⟨rfl, k11⟩
  have K11 := Lib.hid k11
  have C11 := Lib.hid (bkWakes_any w11 (Ht.out.below k11.bp.bel Ht.out.pos))
  clear k11 C10 K10
  go_wp2_with fail
  (with_reducible refine C11.out.mono ?_); rintro e w12 ⟨rfl, hb⟩
  have HB := Lib.hid (K11.out.bp.bel.trans (hb.mono K11.out.bp.bel.size))
  clear hb C11 K11
  go_wp2
  go_ret
  exact ⟨rfl, HB.out⟩
end Go.Proofs.YtjnemopocmhfkaaDoor
end
