/- Texts put together: BakWakes. -/
import Derived.Test.YtjnemopocmhfkaaDoorBlbi
section
set_option maxRecDepth 20000
set_option linter.unusedVariables false
set_option linter.unusedSimpArgs false
namespace Go.Proofs.YtjnemopocmhfkaaDoor
open Go.RowKit

theorem got_none {N : Bch} {lv : List Bool} {e x : Int} (h : ∀ i, i < N.n → secAt (N.D i).now 6 = List.replicate 32 0) : gotB N lv e x = false ∧ gotL N lv e x = [] := by
  have h1 : getB N lv e.toNat x.toNat N.n = false := by
    rw [Bool.eq_false_iff]
    intro q
    obtain ⟨j, hj, _, hh⟩ := getB_iff.1 q
    rw [hit_none (h j hj)] at hh
    exact absurd hh (by decide)
  unfold gotB gotL
  rw [h1, getL_none h1]
  exact ⟨Bool.and_false _, by split <;> rfl⟩
theorem bkBad_ok {e x : Int} {ds : List (List UInt8)} (h : bkMay e x = true) (h28 : ds.length ≤ 28) (h32 : ∀ y ∈ ds, y.length = 32) : bkBad e x ds = false := by
  rw [bkBad_any h (by omega), List.any_eq_false]
  intro y hy
  unfold unlB
  rw [h32 y hy]; decide
set_option maxHeartbeats 800000 in
theorem bkWakes_any (W : World) (ht : TabOk W) : Calls Tryd.prog 13 #[] W fun e w' => e = .returned (.bool true) ∧ Below W.heap.size W w' := by
  have hpn := ptr_eq
  have CN := Lib.hid (bp_new 3 W W (Below.refl _ _) (by omega))
  have Ht := Lib.hid ht
  have HG := Lib.hid (got_none (N := Bch.new 3) (lv := [true, true, true]) (e := 0) (x := 0) (fun i _ => new_sec6 3 i (by omega)))
  have HP := Lib.hid (cl_put (Cl.new 3) (lv := [true]) (bkBad_ok (e := 1) (x := 2) (ds := [sectorB 1]) (by decide) (by decide) (fun y hy => by rw [List.mem_singleton.1 hy]; exact sectorB_len 1))).1
  clear ht
  go_enter Tryd.func13, Tryd.ntmps13
  go_wp2_with fail
  refine CN.out.mono ?_
  rintro e w ⟨b, H, rfl, hp, _, _⟩
  unfold ptr
  have K1 : Hid (KS W w b H (Bch.new 3) [] [] []) := (show KX W w b H (Bch.new 3) [] from ⟨hp, fun p hp => by cases hp⟩).ks
  have K2 := Lib.hid (K1.out.add (.cells #[.bool true, .bool true, .bool true] 4 (0, 0)))
  have C2 := Lib.hid (ks_bget K2.out [true, true, true] (some ⟨w.heap.size, 0, none⟩) 3 3 rfl (K2.out.lv (List.mem_cons_self ..) rfl (by decide)) 0 0 (by omega) (by omega) Ht.out)
  rw [HG.out.1, HG.out.2] at C2
  clear hp CN
  go_wp2_with fail
  (with_reducible refine C2.out.mono ?_); rintro e w1 ⟨A, c, rfl, k3⟩
  have K3 := Lib.hid k3
  clear k3 C2 K1 K2
  go_wp2_with fail
  have K4 := Lib.hid (K3.out.add (.cells #[.bool true] 4 (0, 0)))
  (with_reducible refine (sector_any 1 _ (by omega)).mono ?_); rintro e w2 ⟨g, rfl, ho, hb⟩
  have K5 := Lib.hid (K4.out.slice hb ho.rdbf)
  have K6 := Lib.hid (K5.out.add (.cells #[.slice (some ⟨g, 0, none⟩) 32 32] 48 (0, 0)))
  clear ho hb K5 K4 K3
  have q6 := K6.out.kx.kp (w2.heap.size, .cells #[.slice (some ⟨g, 0, none⟩) 32 32] 48 (0, 0)) (List.mem_cons_self ..)
  have C6 := Lib.hid (ks_bput K6.out [true] (some ⟨w1.heap.size, 0, none⟩) 1 1 rfl (K6.out.lv (List.mem_cons_of_mem _ (List.mem_cons_self ..)) rfl (by decide)) 1 2 (by omega) (by omega) (A2 := some ⟨w2.heap.size, 0, none⟩) (ds := [sectorB 1]) 1 1 rfl (by omega) (rdrx_one q6.1 (sectorB_len 1) q6.2.1 (K6.out.sx _ (List.mem_cons_self ..))) (fun i _ => by show (0 : Nat) ≤ _; omega) (by show (0 : Nat) ≤ _; omega) Ht.out)
  rw [HP.out] at C6
  clear q6
  go_wp2_with ((with_reducible refine C6.out.mono ?_); rintro e w3 ⟨rfl, H7, k7⟩; have K7 := Lib.hid k7; clear k7)
  go_ret
  exact ⟨rfl, K7.out.bp.bel⟩
end Go.Proofs.YtjnemopocmhfkaaDoor
end
