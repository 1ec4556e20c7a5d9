/- Texts put together: BakLaw, BackupManyLaw. -/
import Derived.Test.YtjnemopocmhfkaaDoorBmat
section
set_option maxRecDepth 20000
set_option linter.unusedVariables false
set_option linter.unusedSimpArgs false
namespace Go.Proofs.YtjnemopocmhfkaaDoor
open Go.RowKit

/-- What some live disk has, and whoever has one has the same. -/
theorem got_yes {N : Bch} {lv : List Bool} {e x : Nat} {ds : List (List UInt8)} (hm : bkMay (e : Int) (x : Int) = true) {k : Nat} (hk : k < N.n) (hl : lv.getD k false = true) (hh : hitB N e x k = true) (hd : ∀ i, i < N.n → hitB N e x i = true → hitL N i = ds) : gotB N lv (e : Int) (x : Int) = true ∧ gotL N lv (e : Int) (x : Int) = ds := by
  have h1 : getB N lv e x N.n = true := getB_iff.2 ⟨k, hk, hl, hh⟩
  obtain ⟨j, hj, _, h3, h4⟩ := getL_of h1
  unfold gotB gotL
  rw [hm, if_pos rfl]
  exact ⟨h1, h4.trans (hd j hj h3)⟩
theorem bkBad_secs {e x : Int} (h : bkMay e x = true) (zs : List Int) {n : Nat} (hn : n ≤ 28) : bkBad e x (sectorsB zs n) = false := bkBad_ok h (by rw [sectorsB_len]; omega) sectorsB_mem
end Go.Proofs.YtjnemopocmhfkaaDoor
end
section
set_option maxRecDepth 20000
set_option linter.unusedVariables false
set_option linter.unusedSimpArgs false
namespace Go.Proofs.YtjnemopocmhfkaaDoor
open Go.RowKit

/-- What comes of a Put on both of two disks. -/
structure Mny (N M : Bch) (e x : Nat) (ds : List (List UInt8)) : Prop where
  put : bkS N [true, true] (e : Int) (x : Int) ds = (0, M)
  cl : Cl M 2
  done : M.done ≤ N.done + 58
  got : gotB M [true, true] (e : Int) (x : Int) = true ∧ gotL M [true, true] (e : Int) (x : Int) = ds
theorem mny {N : Bch} (h : Cl N 2) {e x : Nat} (hm : bkMay (e : Int) (x : Int) = true) (zs : List Int) {n : Nat} (hn : n ≤ 28) : ∃ M, Mny N M e x (sectorsB zs n) := by
  obtain ⟨h0, P⟩ := cl_put h (lv := [true, true]) (bkBad_secs hm zs hn)
  obtain ⟨r, hr⟩ : ∃ r, bkS N [true, true] (e : Int) (x : Int) (sectorsB zs n) = r := ⟨_, rfl⟩
  rw [hr] at h0 P
  obtain ⟨e', M⟩ := r
  have h0' : e' = 0 := h0
  subst h0'
  have P' : Cp N M 2 [true, true] (bkB e x (sectorsB zs n) :: sectorsB zs n) := P
  obtain ⟨m0, m1, m2, m3⟩ := (bkMay_iff _ _).1 hm
  have hH : ∀ i, i < 2 → Has (M.D i) e x (sectorsB zs n) := fun i hi => P'.has (by rw [sectorsB_len]; omega) hi (by obtain rfl | rfl : i = 0 ∨ i = 1 := by omega
                                                                                                                    · rfl
                                                                                                                    · rfl)
  have hhit := fun i hi => hit_has P'.cl (hH i hi) (e' := e) (x' := x) (by omega) (by omega) (by omega) (by omega)
  refine ⟨M, hr, P'.cl, ?_, ?_⟩
  · rw [P'.done]
    have := cntTo_le N [true, true] 2
    have h2 : cntTo N [true, true] 2 * ((sectorsB zs n).length + 1) ≤ 2 * 29 := Nat.mul_le_mul this (by rw [sectorsB_len]; omega)
    show N.done + cntTo N [true, true] 2 * ((sectorsB zs n).length + 1) ≤ _
    omega
  · refine got_yes hm (k := 0) (by rw [P'.cl.n]; omega) rfl (by rw [(hhit 0 (by omega)).1]; simp) fun i hi _ => (hhit i (by rw [P'.cl.n] at hi; exact hi)).2
set_option maxHeartbeats 4000000 in
theorem backupmany (nn : Int) (A : Option Addr) (zs : List Int) (cl : Nat) (epoch window : Int) (W : World) (hnn : (-9223372036854775808 ≤ nn ∧ nn ≤ 9223372036854775807)) (_ : zs.length ≤ cl) (hz : RdZ W W.heap.size A zs) (h1 : (-9223372036854775808 ≤ epoch ∧ epoch ≤ 9223372036854775807)) (h2 : (-9223372036854775808 ≤ window ∧ window ≤ 9223372036854775807)) (ht : TabOk W) :
    Calls Tryd.prog 5 #[.int .i64 nn, .slice A zs.length cl, .int .i64 epoch, .int .i64 window] W fun e w' => e = .returned (.bool true) ∧ Below W.heap.size W w' := by
  have hpn := ptr_eq
  have CN := Lib.hid (bp_new 2 W W (Below.refl _ _) (by omega))
  have Ht := Lib.hid ht
  have CW1 := Lib.hid (fun V => within_any epoch 65536 V h1 (by omega))
  obtain ⟨en, hen, hen2⟩ : ∃ k : Nat, withinI epoch 65536 = (k : Int) ∧ k < 65536 := ⟨(withinI epoch 65536).toNat, by have := withinI_bd epoch 65536 (by omega); omega, by have := withinI_bd epoch 65536 (by omega); omega⟩
  rw [hen] at CW1
  have CW2 := Lib.hid (fun V => within_any window 17 V h2 (by omega))
  obtain ⟨xn, hxn, hxn2⟩ : ∃ k : Nat, withinI window 17 = (k : Int) ∧ k < 17 := ⟨(withinI window 17).toNat, by have := withinI_bd window 17 (by omega); omega, by have := withinI_bd window 17 (by omega); omega⟩
  rw [hxn] at CW2
  have CW3 := Lib.hid (fun V => within_any nn 28 V hnn (by omega))
  obtain ⟨r, hr, hr2⟩ : ∃ k : Nat, withinI nn 28 = (k : Int) ∧ k < 28 := ⟨(withinI nn 28).toNat, by have := withinI_bd nn 28 (by omega); omega, by have := withinI_bd nn 28 (by omega); omega⟩
  rw [hr] at CW3
  have Hmay := Lib.hid (show bkMay (en : Int) (xn : Int) = true from (bkMay_iff _ _).2 (by omega))
  have CS := Lib.hid (fun (w : World) (b : Nat) (H : BH) (N : Bch) (K : List (Nat × Obj)) (R : List (Option Addr × List (List UInt8))) (S : List (Option Addr × List UInt8)) (h : KS W w b H N K R S) (n : Nat) (hn : n ≤ 1000) => ks_sectors h zs.length cl n rfl hz hn)
  clear ht hz h1 h2 hnn hen hxn hr
  go_enter Tryd.func5, Tryd.ntmps5
  go_wp2_with fail
  refine CN.out.mono ?_
  rintro e w ⟨b, H, rfl, hp, _, _⟩
  unfold ptr
  have K1 : Hid (KS W w b H (Bch.new 2) [] [] []) := (show KX W w b H (Bch.new 2) [] from ⟨hp, fun p hp => by cases hp⟩).ks
  have K2 := Lib.hid (K1.out.add (.cells #[.bool true, .bool true] 4 (0, 0)))
  obtain ⟨gl, hgl⟩ : ∃ gl, w.heap.size = gl := ⟨_, rfl⟩
  rw [hgl] at K2
  have K3 := Lib.hid (K2.out.add (.cells #[.int .i64 28, .int .i64 0, .int .i64 (r : Int)] 3 (0, 0)))
  obtain ⟨gt, hgt⟩ : ∃ gt, (w.alloc (.cells #[.bool true, .bool true] 4 (0, 0))).heap.size = gt := ⟨_, rfl⟩
  rw [hgt] at K3
  clear hp CN K1 K2
  go_wp2_with (first
    | ((with_reducible refine (CW1.out _).mono ?_); rintro e w1 ⟨rfl, rfl⟩)
    | ((with_reducible refine (CW2.out _).mono ?_); rintro e w1 ⟨rfl, rfl⟩)
    | ((with_reducible refine (CW3.out _).mono ?_); rintro e w1 ⟨rfl, rfl⟩))
  go_loopw [36] (fun i wr => ∃ (j : Nat) (H : BH) (N : Bch), j ≤ 3 ∧ i = .int .i64 j ∧ KS W wr b H N [(gt, .cells #[.int .i64 28, .int .i64 0, .int .i64 (r : Int)] 3 (0, 0)), (gl, .cells #[.bool true, .bool true] 4 (0, 0))] [] [] ∧ Cl N 2 ∧ N.done ≤ 58 * j) (fun i _ => 3 - (intOf i).toNat)
  case atStart => exact ⟨0, H, Bch.new 2, by omega, rfl, K3.out, Cl.new 2, Nat.zero_le _⟩
  case round =>
    obtain ⟨j, H1, N, hj, rfl, hk, hcl, hdn⟩ := hrel
    have HK := Lib.hid hk
    have Hcl := Lib.hid hcl
    have Hdn := Lib.hid hdn
    have HL := Lib.hid (hk.lv (g := gl) (cs := #[.bool true, .bool true]) (t := 4) (f := (0, 0)) (lv := [true, true]) (by simp) rfl (by simp))
    by_cases hlt : j < 3
    · have i0 : (0 : Int) ≤ (j : Int) := by omega
      have i1 : (j : Int) < 3 := by omega
      obtain ⟨kj, hkj, hcell⟩ : ∃ kj : Nat, kj ≤ 28 ∧ wr.cell? ⟨gt, j, none⟩ = some (.int .i64 (kj : Int)) := by
        have h1 := (hk.kx.kp _ (List.mem_cons_self ..)).1
        obtain rfl | rfl | rfl : j = 0 ∨ j = 1 ∨ j = 2 := by omega
        · exact ⟨28, by omega, cell_of_row wr gt 0 _ _ _ h1⟩
        · exact ⟨0, by omega, cell_of_row wr gt 1 _ _ _ h1⟩
        · exact ⟨r, by omega, cell_of_row wr gt 2 _ _ _ h1⟩
      obtain ⟨M, hM⟩ := mny hcl Hmay.out zs hkj
      have HM := Lib.hid hM
      have Hlen := Lib.hid (sectorsB_len zs kj)
      have C1 := Lib.hid (CS.out _ _ _ _ _ _ _ hk kj (by omega))
      generalize sectorsB zs kj = ds at HM Hlen C1
      have HmN : Hid (∀ i, i < N.n → (N.D i).ps.length ≤ 1999000) := fun i _ => by rw [hcl.ps i]; exact Nat.zero_le _
      clear hk hcl hdn hM K3
      go_wp2_with fail
      (with_reducible refine C1.out.mono ?_); rintro e w3 ⟨A1, c1, rfl, k3⟩
      have K3 := Lib.hid k3
      have C3 := Lib.hid (ks_bput K3.out [true, true] (some ⟨gl, 0, none⟩) 2 2 rfl (K3.out.lv (g := gl) (cs := #[.bool true, .bool true]) (t := 4) (f := (0, 0)) (by simp) rfl (by simp)) (en : Int) (xn : Int) (by omega) (by omega) (A2 := A1) (ds := ds) kj c1 Hlen.out (by omega) (K3.out.rx _ (List.mem_cons_self ..)) HmN.out (by have := Hdn.out; omega) Ht.out)
      rw [HM.out.put] at C3
      clear k3 C1 hcell HmN
      go_wp2_with fail
      (with_reducible refine C3.out.mono ?_); rintro e w4 ⟨rfl, H4, k4⟩
      have K4 := Lib.hid k4
      have C4 := Lib.hid (ks_bget K4.out [true, true] (some ⟨gl, 0, none⟩) 2 2 rfl (K4.out.lv (g := gl) (cs := #[.bool true, .bool true]) (t := 4) (f := (0, 0)) (by simp) rfl (by simp)) (en : Int) (xn : Int) (by omega) (by omega) Ht.out)
      rw [HM.out.got.1, HM.out.got.2, Hlen.out] at C4
      clear k4 C3 K3
      go_wp2_with fail
      (with_reducible refine C4.out.mono ?_); rintro e w5 ⟨A2, c2, rfl, k5⟩
      have K5 := Lib.hid k5
      have C5 := Lib.hid (ks_sameR K5.out (A := A2) (A' := A1) (ra := ds) (rb := ds) kj kj c2 c1 Hlen.out Hlen.out (by simp) (by simp))
      rw [decide_eq_true rfl] at C5
      clear k5 C4 K4
      go_wp2_with fail
      (with_reducible refine C5.out.mono ?_); rintro e w6 ⟨rfl, k6⟩
      have K6 := Lib.hid (k6.less (R' := []) (S' := []) (fun p hp => hp) (fun p hp => by cases hp) (fun p hp => by cases hp))
      clear k6 C5 K5
      go_wp2_with fail
      go_roundw
      case rel => exact ⟨j + 1, H4, M, by omega, by go_num, K6.out, HM.out.cl, by have := HM.out.done; have := Hdn.out; omega⟩
      case measure => simp [intOf]; omega
    · obtain rfl : j = 3 := by omega
      have Hlen := Lib.hid (sectorsB_len zs 29)
      have C1 := Lib.hid (CS.out _ _ _ _ _ _ _ hk 29 (by omega))
      rw [show ((29 : Nat) : Int) = 29 from rfl] at C1
      have HB := Lib.hid (bkS_bad (N := N) (lv := [true, true]) (bkBad_len (ds := sectorsB zs 29) Hmay.out (by rw [sectorsB_len]; omega)))
      have HmN : Hid (∀ i, i < N.n → (N.D i).ps.length ≤ 1999000) := fun i _ => by rw [hcl.ps i]; exact Nat.zero_le _
      generalize sectorsB zs 29 = ds at HB Hlen C1
      clear hk hcl hdn K3 CS
      go_wp2_with fail
      (with_reducible refine C1.out.mono ?_); rintro e w3 ⟨A1, c1, rfl, k3⟩
      have K3 := Lib.hid k3
      have C3 := Lib.hid (ks_bput K3.out [true, true] (some ⟨gl, 0, none⟩) 2 2 rfl (K3.out.lv (g := gl) (cs := #[.bool true, .bool true]) (t := 4) (f := (0, 0)) (by simp) rfl (by simp)) (en : Int) (xn : Int) (by omega) (by omega) (A2 := A1) (ds := ds) 29 c1 Hlen.out (by omega) (K3.out.rx _ (List.mem_cons_self ..)) HmN.out (by have := Hdn.out; omega) Ht.out)
      rw [HB.out] at C3
      clear k3 C1 HmN
      go_wp2_with fail
      (with_reducible refine C3.out.mono ?_); rintro e w4 ⟨rfl, H4, k4⟩
      have K4 := Lib.hid k4
      have C4 := Lib.hid (bkWakes_any w4 (Ht.out.below k4.bp.bel Ht.out.pos))
      clear k4 C3 K3
      go_wp2_with fail
      (with_reducible refine C4.out.mono ?_); rintro e w5 ⟨rfl, hb⟩
      have HBl := Lib.hid (K4.out.bp.bel.trans (hb.mono K4.out.bp.bel.size))
      clear hb C4 K4
      go_wp2
      go_ret
      exact ⟨rfl, HBl.out⟩
end Go.Proofs.YtjnemopocmhfkaaDoor
end
