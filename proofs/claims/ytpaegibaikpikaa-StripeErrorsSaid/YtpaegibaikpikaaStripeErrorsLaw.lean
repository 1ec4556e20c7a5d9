/- StripeErrors walked. -/
import Derived.Test.YtpaegibaikpikaaSbbh
import Derived.Test.YtpaegibaikpikaaSbaf
set_option linter.unusedVariables false
set_option linter.unusedSimpArgs false
namespace Go.Proofs.Ytpaegibaikpikaa
open Go.RowKit

set_option maxRecDepth 100000 in
set_option maxHeartbeats 3200000 in
theorem stripeerrors (n : Int) (w : World) (hn : (-9223372036854775808 ≤ n ∧ n ≤ 9223372036854775807)) :
    Calls Try.prog 4 #[.int .i64 n] w fun e w' => e = .returned (.bool true) ∧ Below w.heap.size w w' := by
  have hpn := ptr_eq
  have CW1 := Lib.hid (fun V => within_any n 1000 V hn (by omega))
  have hnb := withinI_bd n 1000 (by omega)
  generalize withinI n 1000 = n0 at CW1 hnb
  have CN := Lib.hid (bp_new 4 w w (Below.refl _ _) (by omega))
  have CSc := Lib.hid (fun V => sector_any (1 + n0) V (by omega))
  have Hx := Lib.hid (sectorB_len (1 + n0))
  generalize sectorB (1 + n0) = x at CSc Hx
  have CW2 := Lib.hid (fun V => within_any (1 + n0) 4 V (by omega) (by omega))
  have hkb := withinI_bd (1 + n0) 4 (by omega)
  obtain ⟨k, hk⟩ := Int.eq_ofNat_of_zero_le hkb.1
  rw [hk] at CW2 hkb
  have hk4 : k < 4 := by omega
  have Hlim := Lib.hid (limit4 hk4 Hx.out)
  have Hn2 := Lib.hid (fillOk_false (l := 5) (d := 4) (c := 2) (r := 0) (rs := [x, x]) (fun h => absurd (show (2 : Nat) = 3 from h.2.1) (by decide)))
  have Hn4 := Lib.hid (fillOk_false (l := 5) (d := 4) (c := 2) (r := 0) (rs := [x, x, x, x]) (fun h => absurd (show (4 : Nat) = 3 from h.2.1) (by decide)))
  have Hn9 := Lib.hid (fillOk_false (l := 5) (d := 4) (c := 2) (r := 0) (rs := [x, x, x.take 9]) (fun h => by have := h.2.2 (x.take 9) (by simp); rw [List.length_take, Hx.out] at this; omega))
  have Hr0 := Lib.hid (srdE_bad (N := Bch.new 4) (lv := [true, true, true, true]) (l := 0) (d := 0) (c := 0) (r := 0) (by decide))
  have Ho1 := Lib.hid (soneE_no (N := Bch.new 4) (lv := [true, true, true, true]) (l := 5) (d := 4) (c := 2) (n := -(1 + n0)) (plOfOk_no (by omega)))
  have Ho2 := Lib.hid (soneE_no (N := Bch.new 4) (lv := [true, true, true, true]) (l := 5) (d := 4) (c := 2) (n := 47 + (1 + n0)) (plOfOk_no (by rw [show gCap 5 4 2 = 48 from by decide]; omega)))
  have HWk := Lib.hid (fun V => wakesStp_any V)
  obtain ⟨nn, hnn⟩ : ∃ nn, 1 + n0 = nn := ⟨_, rfl⟩
  have hnnb : 1 ≤ nn ∧ nn ≤ 1000 := by omega
  have Hnn := Lib.hid hnn
  rw [hnn] at CSc CW2 Ho1 Ho2
  have h48 : (47 : Int) + nn = 47 + nn := rfl
  clear hn hk hkb
  go_enter Try.func4, Try.ntmps4
  go_wp2_with fail
  refine CN.out.mono ?_
  rintro e w1 ⟨b, H, rfl, hp, _, _⟩
  unfold ptr
  have kk : KS w w1 b H (Bch.new 4) [] [] [] := ⟨⟨hp, fun _ h => absurd h (by simp)⟩, fun _ h => absurd h (by simp), fun _ h => absurd h (by simp)⟩
  have k1 := (kk.add (.cells ([true, true, true, true].map Value.bool).toArray 4)).add (.cells #[.int .i64 5, .int .i64 4, .int .i64 2] 24)
  have hz1 : (w1.alloc (.cells ([true, true, true, true].map Value.bool).toArray 4)).heap.size = w1.heap.size + 1 := by simp
  rw [hz1] at k1
  have K1 := Lib.hid (show KS w ((w1.alloc (.cells #[.bool true, .bool true, .bool true, .bool true] 4)).alloc (.cells #[.int .i64 5, .int .i64 4, .int .i64 2] 24)) b H (Bch.new 4) [(w1.heap.size + 1, Obj.cells #[.int .i64 5, .int .i64 4, .int .i64 2] 24 (0, 0)), (w1.heap.size, Obj.cells ([true, true, true, true].map Value.bool).toArray 4 (0, 0))] [] [] from k1)
  clear kk hp k1 CN hnn hz1
  go_wp2_with fail
  (with_reducible refine (CW1.out _).mono ?_); rintro e wn ⟨rfl, rfl⟩
  generalize (w1.alloc (.cells #[.bool true, .bool true, .bool true, .bool true] 4)).alloc (.cells #[.int .i64 5, .int .i64 4, .int .i64 2] 24) = w2 at K1 ⊢
  generalize w1.heap.size + 1 = gb at K1 ⊢
  generalize w1.heap.size = gl at K1 ⊢
  go_wp2_with fail
  rw [Hnn.out]
  (with_reducible refine (CSc.out _).mono ?_); rintro e w3 ⟨gx, rfl, ho, hb3⟩
  have k3 := K1.out.slice hb3 ho.rdbf
  have k4 := k3.add (.cells #[.int .i64 (-nn), .int .i64 (15 + nn)] 3)
  have K4 := Lib.hid k4
  clear ho hb3 k3 k4 K1
  go_upto_block 0 with fail
  generalize w3.heap.size = gz at K4 ⊢
  generalize w3.alloc (.cells #[.int .i64 (-nn), .int .i64 (15 + nn)] 3) = w4 at K4 ⊢
  refine wp_block ?_
  refine seA _ _ _ _ _ _ _ _ _ _ _ _ _ _ _ _ _ _ _ _ _ _ _ _ _ _ _ _ _ _ _ _ _ _ _ _ _ _ _ _ _ _ _ _ _ _ _ _ _ _ _ _ _ _ _ _ _ _ _ _ _ _ _ _ _ _ _ _ _ _ _ _ _ _ _ _ _ _ _ _ _ _ _ _ _ _ _ _ _ _ _ _ _ _ _ _ _ _ _ _ _ _ _ _ _ _ _ _ _ _ _ _ _ _ _ _ _ _ _ _ _ _ _ _ _ _ _ _ _ _ _ _ _ _ _ _ _ _ _ _ _ _ _ _ _ _ _ _ _ _ _ _ _ _ _ _ _ _ _ _ _ _ _ _ _ _ _ _ _ _ _ _ _ _ _ _ _ _ _ _ _ _ _ _ _ _ _ _ _ _  Hx.out (z0 := -nn) (z1 := 15 + nn) (by omega) (by omega) ⟨Nat.zero_le _, K4.out⟩ (fun v2 v9 v10 v11 v47 v48 v49 v50 v51 v52 v53 v54 v55 v56 v57 v58 v59 v60 v61 v62 v63 v64 v65 v66 v67 v68 v69 v70 v71 v72 j H5 V5 hI _ => ?_)
  have k5 := hI.2
  have CR5 := ks_read k5 [true, true, true, true] (some ⟨gl, 0, none⟩) 4 4 rfl (k5.lv (g := gl) (t := 4) (f := (0, 0)) (lv := [true, true, true, true]) (by simp) rfl (by simp)) 0 0 0 0 (by omega) (by omega) (by omega) (by omega)
  rw [Hr0.out.1, Hr0.out.2] at CR5
  have CR5 := Lib.hid CR5
  have hlz : ([] : List (List UInt8)).length = 0 := rfl
  have hlb : ([] : List UInt8).length = 0 := rfl
  clear k5 hI K4
  go_wp2_with fail
  (with_reducible refine CR5.out.mono ?_); rintro e w6 ⟨A6, c6, rfl, k6, _⟩
  have CO6 := ks_one k6 [true, true, true, true] (some ⟨gl, 0, none⟩) 4 4 rfl (k6.lv (g := gl) (t := 4) (f := (0, 0)) (lv := [true, true, true, true]) (by simp) rfl (by simp)) 5 4 2 (-nn) (by omega) (by omega) (by omega) (by omega)
  rw [Ho1.out.1, Ho1.out.2] at CO6
  have CO6 := Lib.hid CO6
  obtain ⟨g1, g2, g3⟩ := k6.gat (g := gb) (l := 5) (d := 4) (c := 2) (t := 24) (f := (0, 0)) (by simp)
  clear k6 CR5
  go_wp2_with fail
  (with_reducible refine CO6.out.mono ?_); rintro e w7 ⟨A7, c7, rfl, k7, _⟩
  have CO7 := ks_one k7 [true, true, true, true] (some ⟨gl, 0, none⟩) 4 4 rfl (k7.lv (g := gl) (t := 4) (f := (0, 0)) (lv := [true, true, true, true]) (by simp) rfl (by simp)) 5 4 2 (47 + nn) (by omega) (by omega) (by omega) (by omega)
  rw [Ho2.out.1, Ho2.out.2] at CO7
  have CO7 := Lib.hid CO7
  obtain ⟨g4, g5, g6⟩ := k7.gat (g := gb) (l := 5) (d := 4) (c := 2) (t := 24) (f := (0, 0)) (by simp)
  clear k7 CO6 g1 g2 g3
  go_wp2_with fail
  (with_reducible refine CO7.out.mono ?_); rintro e w8 ⟨A8, c8, rfl, k8, _⟩
  have Kw := Lib.hid (k8.less (K' := [(gb, Obj.cells #[.int .i64 5, .int .i64 4, .int .i64 2] 24 (0, 0)), (gl, Obj.cells ([true, true, true, true].map Value.bool).toArray 4 (0, 0))]) (R' := []) (S' := [(some ⟨gx, 0, none⟩, x)]) (fun _ h => List.mem_cons_of_mem _ h) (fun _ h => absurd h (by simp)) (fun _ h => by simp at h ⊢; simp [h]))
  clear k8 CO7 g4 g5 g6
  go_wp2_with fail
  refine wp_region_noPanic (region_ord 51 [] (fun V => GAt V gb 5 4 2) (by kernel_rfl) (by kernel_rfl) (fun _ _ _ _ _ h => h) fun R => ?_)
  change anyI _ _ _ _ _ _ 51 _ _ w8.drew
  have HS0 := Lib.hid (show (fun V => GAt V gb 5 4 2) w8.drew from (Kw.out.below (Below.refl _ w8).drew).gat (g := gb) (l := 5) (d := 4) (c := 2) (t := 24) (f := (0, 0)) (by simp))
  have K0 := Lib.hid (Kw.out.below (Below.refl _ w8).drew)
  obtain ⟨V0, hV0⟩ : ∃ V, w8.drew = V := ⟨_, rfl⟩
  rw [hV0] at HS0 K0 ⊢
  clear hV0
  refine' anyI_take R 0 rfl (v := ?_) (by kernel_rfl) (by rfl) (fun V hV => ?hy) HS0.out ?_
  case hy => ((try dsimp only at hV);  obtain ⟨y0, y1, y2⟩ := hV; go_simp; try with_reducible rfl)
  try simp only [Act.put, List.getElem_toArray, List.getElem_cons_succ, List.getElem_cons_zero, List.setIfInBounds_toArray, List.set_cons_zero, List.set_cons_succ]
  refine' anyI_take R 1 rfl (v := ?_) (by kernel_rfl) (by rfl) (fun V hV => ?hy) HS0.out ?_
  case hy => ((try dsimp only at hV);  obtain ⟨y0, y1, y2⟩ := hV; go_simp; try with_reducible rfl)
  try simp only [Act.put, List.getElem_toArray, List.getElem_cons_succ, List.getElem_cons_zero, List.setIfInBounds_toArray, List.set_cons_zero, List.set_cons_succ]
  refine' anyI_take R 2 rfl (v := ?_) (by kernel_rfl) (by rfl) (fun V hV => ?hy) HS0.out ?_
  case hy => ((try dsimp only at hV);  obtain ⟨y0, y1, y2⟩ := hV; go_simp; try with_reducible rfl)
  try simp only [Act.put, List.getElem_toArray, List.getElem_cons_succ, List.getElem_cons_zero, List.setIfInBounds_toArray, List.set_cons_zero, List.set_cons_succ]
  refine' anyI_take R 3 rfl (v := ?_) (by kernel_rfl) (by rfl) (fun V hV => ?hy) HS0.out ?_
  case hy => ((try dsimp only at hV);  obtain ⟨y0, y1, y2⟩ := hV; go_simp; try with_reducible rfl)
  try simp only [Act.put, List.getElem_toArray, List.getElem_cons_succ, List.getElem_cons_zero, List.setIfInBounds_toArray, List.set_cons_zero, List.set_cons_succ]
  refine' anyI_take R 4 rfl (v := ?_) (by kernel_rfl) (by rfl) (fun V hV => ?hy) HS0.out ?_
  case hy => ((try dsimp only at hV);  obtain ⟨y0, y1, y2⟩ := hV; go_simp; try with_reducible rfl)
  try simp only [Act.put, List.getElem_toArray, List.getElem_cons_succ, List.getElem_cons_zero, List.setIfInBounds_toArray, List.set_cons_zero, List.set_cons_succ]
  refine' anyI_take R 5 rfl (v := ?_) (by kernel_rfl) (by rfl) (fun V hV => ?hy) HS0.out ?_
  case hy => ((try dsimp only at hV);  obtain ⟨y0, y1, y2⟩ := hV; go_simp; try with_reducible rfl)
  try simp only [Act.put, List.getElem_toArray, List.getElem_cons_succ, List.getElem_cons_zero, List.setIfInBounds_toArray, List.set_cons_zero, List.set_cons_succ]
  refine' anyI_take R 6 rfl (v := ?_) (by kernel_rfl) (by rfl) (fun V hV => ?hy) HS0.out ?_
  case hy => ((try dsimp only at hV);  obtain ⟨y0, y1, y2⟩ := hV; go_simp; try with_reducible rfl)
  try simp only [Act.put, List.getElem_toArray, List.getElem_cons_succ, List.getElem_cons_zero, List.setIfInBounds_toArray, List.set_cons_zero, List.set_cons_succ]
  refine' anyI_take R 7 rfl (v := ?_) (by kernel_rfl) (by rfl) (fun V hV => ?hy) HS0.out ?_
  case hy => ((try dsimp only at hV);  obtain ⟨y0, y1, y2⟩ := hV; go_simp; try with_reducible rfl)
  try simp only [Act.put, List.getElem_toArray, List.getElem_cons_succ, List.getElem_cons_zero, List.setIfInBounds_toArray, List.set_cons_zero, List.set_cons_succ]
  refine' anyI_take R 8 rfl (v := ?_) (by kernel_rfl) (by rfl) (fun V hV => ?hy) HS0.out ?_
  case hy => ((try dsimp only at hV);  obtain ⟨y0, y1, y2⟩ := hV; go_simp; try with_reducible rfl)
  try simp only [Act.put, List.getElem_toArray, List.getElem_cons_succ, List.getElem_cons_zero, List.setIfInBounds_toArray, List.set_cons_zero, List.set_cons_succ]
  refine' anyI_take R 9 rfl (v := ?_) (by kernel_rfl) (by rfl) (fun V hV => ?hy) HS0.out ?_
  case hy => ((try dsimp only at hV);  obtain ⟨y0, y1, y2⟩ := hV; go_simp; try with_reducible rfl)
  try simp only [Act.put, List.getElem_toArray, List.getElem_cons_succ, List.getElem_cons_zero, List.setIfInBounds_toArray, List.set_cons_zero, List.set_cons_succ]
  refine' anyI_take R 10 rfl (v := ?_) (by kernel_rfl) (by rfl) (fun V hV => ?hy) HS0.out ?_
  case hy => ((try dsimp only at hV);  obtain ⟨y0, y1, y2⟩ := hV; go_simp; try with_reducible rfl)
  try simp only [Act.put, List.getElem_toArray, List.getElem_cons_succ, List.getElem_cons_zero, List.setIfInBounds_toArray, List.set_cons_zero, List.set_cons_succ]
  refine' anyI_take R 11 rfl (v := ?_) (by kernel_rfl) (by rfl) (fun V hV => ?hy) HS0.out ?_
  case hy => ((try dsimp only at hV);  obtain ⟨y0, y1, y2⟩ := hV; go_simp; try with_reducible rfl)
  try simp only [Act.put, List.getElem_toArray, List.getElem_cons_succ, List.getElem_cons_zero, List.setIfInBounds_toArray, List.set_cons_zero, List.set_cons_succ]
  refine' anyI_take R 12 rfl (v := ?_) (by kernel_rfl) (by rfl) (fun V hV => ?hy) HS0.out ?_
  case hy => ((try dsimp only at hV);  obtain ⟨y0, y1, y2⟩ := hV; go_simp; try with_reducible rfl)
  try simp only [Act.put, List.getElem_toArray, List.getElem_cons_succ, List.getElem_cons_zero, List.setIfInBounds_toArray, List.set_cons_zero, List.set_cons_succ]
  refine' anyI_take R 13 rfl (v := ?_) (by kernel_rfl) (by rfl) (fun V hV => ?hy) HS0.out ?_
  case hy => ((try dsimp only at hV);  obtain ⟨y0, y1, y2⟩ := hV; go_simp; try with_reducible rfl)
  try simp only [Act.put, List.getElem_toArray, List.getElem_cons_succ, List.getElem_cons_zero, List.setIfInBounds_toArray, List.set_cons_zero, List.set_cons_succ]
  refine' anyI_take R 14 rfl (v := ?_) (by kernel_rfl) (by rfl) (fun V hV => ?hy) HS0.out ?_
  case hy => ((try dsimp only at hV);  obtain ⟨y0, y1, y2⟩ := hV; go_simp; try with_reducible rfl)
  try simp only [Act.put, List.getElem_toArray, List.getElem_cons_succ, List.getElem_cons_zero, List.setIfInBounds_toArray, List.set_cons_zero, List.set_cons_succ]
  refine' anyI_take R 15 rfl (v := ?_) (by kernel_rfl) (by rfl) (fun V hV => ?hy) HS0.out ?_
  case hy => ((try dsimp only at hV);  obtain ⟨y0, y1, y2⟩ := hV; go_simp; try with_reducible rfl)
  try simp only [Act.put, List.getElem_toArray, List.getElem_cons_succ, List.getElem_cons_zero, List.setIfInBounds_toArray, List.set_cons_zero, List.set_cons_succ]
  refine anyI_one 16 (by kernel_rfl) rfl ?_
  try simp only [List.getElem_toArray, List.getElem_cons_succ, List.getElem_cons_zero]
  refine opE_step ?_
  rw [if_pos (by rfl)]
  go_simp
  have ka := K0.out.add (.cells #[.slice (some ⟨gx, 0, none⟩) 32 32, .slice (some ⟨gx, 0, none⟩) 32 32] 46)
  have hrd : RdR (V0.alloc (.cells #[.slice (some ⟨gx, 0, none⟩) 32 32, .slice (some ⟨gx, 0, none⟩) 32 32] 46)) (V0.alloc (.cells #[.slice (some ⟨gx, 0, none⟩) 32 32, .slice (some ⟨gx, 0, none⟩) 32 32] 46)).heap.size (some ⟨V0.heap.size, 0, none⟩) [x, x] := rdr_rep (c := 32) (t := 46) (f := (0, 0)) 2 Hx.out.symm (by omega) (K0.out.sl (A := some ⟨gx, 0, none⟩) (bs := x) (by simp))
  have CW16 := Lib.hid (ks_refused ka [true, true, true, true] (some ⟨gl, 0, none⟩) 4 4 rfl (ka.lv (g := gl) (t := 4) (f := (0, 0)) (lv := [true, true, true, true]) (by simp) rfl (by simp)) (some ⟨V0.heap.size, 0, none⟩) [x, x] 2 2 rfl (by omega) hrd 5 4 2 0 (by omega) (by omega) (by omega) (by omega) (fun i hi => Nat.zero_le _) (Nat.zero_le _) Hn2.out)
  replace HS0 := Lib.hid (show GAt _ gb 5 4 2 from ka.gat (g := gb) (l := 5) (d := 4) (c := 2) (t := 24) (f := (0, 0)) (by simp))
  clear ka hrd
  try dsimp only
  refine ⟨HS0.out, ?_⟩
  try simp only [Act.put, List.getElem_toArray, List.getElem_cons_succ, List.getElem_cons_zero, List.setIfInBounds_toArray, List.set_cons_zero, List.set_cons_succ]
  refine anyI_one 17 (by kernel_rfl) rfl ?_
  try simp only [List.getElem_toArray, List.getElem_cons_succ, List.getElem_cons_zero]
  refine opE_step ?_
  rw [if_pos (by rfl)]
  go_simp
  go_at_call 14
  (with_reducible refine CW16.out.mono ?_)
  rintro e w17 ⟨rfl, H17, k17⟩
  have K17 := Lib.hid (k17.less (K' := [(gb, Obj.cells #[.int .i64 5, .int .i64 4, .int .i64 2] 24 (0, 0)), (gl, Obj.cells ([true, true, true, true].map Value.bool).toArray 4 (0, 0))]) (R' := []) (S' := [(some ⟨gx, 0, none⟩, x)]) (fun _ h => List.mem_cons_of_mem _ h) (fun _ h => absurd h (by simp)) (fun _ h => h))
  replace HS0 := Lib.hid (show GAt w17 gb 5 4 2 from K17.out.gat (g := gb) (l := 5) (d := 4) (c := 2) (t := 24) (f := (0, 0)) (by simp))
  clear k17
  try dsimp only
  refine ⟨HS0.out, ?_⟩
  try simp only [Act.put, List.getElem_toArray, List.getElem_cons_succ, List.getElem_cons_zero, List.setIfInBounds_toArray, List.set_cons_zero, List.set_cons_succ]
  refine' anyI_take R 18 rfl (v := ?_) (by kernel_rfl) (by rfl) (fun V hV => ?hy) HS0.out ?_
  case hy => ((try dsimp only at hV);  obtain ⟨y0, y1, y2⟩ := hV; go_simp; try with_reducible rfl)
  try simp only [Act.put, List.getElem_toArray, List.getElem_cons_succ, List.getElem_cons_zero, List.setIfInBounds_toArray, List.set_cons_zero, List.set_cons_succ]
  refine' anyI_take R 19 rfl (v := ?_) (by kernel_rfl) (by rfl) (fun V hV => ?hy) HS0.out ?_
  case hy => ((try dsimp only at hV);  obtain ⟨y0, y1, y2⟩ := hV; go_simp; try with_reducible rfl)
  try simp only [Act.put, List.getElem_toArray, List.getElem_cons_succ, List.getElem_cons_zero, List.setIfInBounds_toArray, List.set_cons_zero, List.set_cons_succ]
  refine' anyI_take R 20 rfl (v := ?_) (by kernel_rfl) (by rfl) (fun V hV => ?hy) HS0.out ?_
  case hy => ((try dsimp only at hV);  obtain ⟨y0, y1, y2⟩ := hV; go_simp; try with_reducible rfl)
  try simp only [Act.put, List.getElem_toArray, List.getElem_cons_succ, List.getElem_cons_zero, List.setIfInBounds_toArray, List.set_cons_zero, List.set_cons_succ]
  refine' anyI_take R 21 rfl (v := ?_) (by kernel_rfl) (by rfl) (fun V hV => ?hy) HS0.out ?_
  case hy => ((try dsimp only at hV);  obtain ⟨y0, y1, y2⟩ := hV; go_simp; try with_reducible rfl)
  try simp only [Act.put, List.getElem_toArray, List.getElem_cons_succ, List.getElem_cons_zero, List.setIfInBounds_toArray, List.set_cons_zero, List.set_cons_succ]
  refine' anyI_take R 22 rfl (v := ?_) (by kernel_rfl) (by rfl) (fun V hV => ?hy) HS0.out ?_
  case hy => ((try dsimp only at hV);  obtain ⟨y0, y1, y2⟩ := hV; go_simp; try with_reducible rfl)
  try simp only [Act.put, List.getElem_toArray, List.getElem_cons_succ, List.getElem_cons_zero, List.setIfInBounds_toArray, List.set_cons_zero, List.set_cons_succ]
  refine' anyI_take R 23 rfl (v := ?_) (by kernel_rfl) (by rfl) (fun V hV => ?hy) HS0.out ?_
  case hy => ((try dsimp only at hV);  obtain ⟨y0, y1, y2⟩ := hV; go_simp; try with_reducible rfl)
  try simp only [Act.put, List.getElem_toArray, List.getElem_cons_succ, List.getElem_cons_zero, List.setIfInBounds_toArray, List.set_cons_zero, List.set_cons_succ]
  refine' anyI_take R 24 rfl (v := ?_) (by kernel_rfl) (by rfl) (fun V hV => ?hy) HS0.out ?_
  case hy => ((try dsimp only at hV);  obtain ⟨y0, y1, y2⟩ := hV; go_simp; try with_reducible rfl)
  try simp only [Act.put, List.getElem_toArray, List.getElem_cons_succ, List.getElem_cons_zero, List.setIfInBounds_toArray, List.set_cons_zero, List.set_cons_succ]
  refine' anyI_take R 25 rfl (v := ?_) (by kernel_rfl) (by rfl) (fun V hV => ?hy) HS0.out ?_
  case hy => ((try dsimp only at hV);  obtain ⟨y0, y1, y2⟩ := hV; go_simp; try with_reducible rfl)
  try simp only [Act.put, List.getElem_toArray, List.getElem_cons_succ, List.getElem_cons_zero, List.setIfInBounds_toArray, List.set_cons_zero, List.set_cons_succ]
  refine' anyI_take R 26 rfl (v := ?_) (by kernel_rfl) (by rfl) (fun V hV => ?hy) HS0.out ?_
  case hy => ((try dsimp only at hV);  obtain ⟨y0, y1, y2⟩ := hV; go_simp; try with_reducible rfl)
  try simp only [Act.put, List.getElem_toArray, List.getElem_cons_succ, List.getElem_cons_zero, List.setIfInBounds_toArray, List.set_cons_zero, List.set_cons_succ]
  refine' anyI_take R 27 rfl (v := ?_) (by kernel_rfl) (by rfl) (fun V hV => ?hy) HS0.out ?_
  case hy => ((try dsimp only at hV);  obtain ⟨y0, y1, y2⟩ := hV; go_simp; try with_reducible rfl)
  try simp only [Act.put, List.getElem_toArray, List.getElem_cons_succ, List.getElem_cons_zero, List.setIfInBounds_toArray, List.set_cons_zero, List.set_cons_succ]
  refine anyI_one 28 (by kernel_rfl) rfl ?_
  try simp only [List.getElem_toArray, List.getElem_cons_succ, List.getElem_cons_zero]
  refine opE_step ?_
  rw [if_pos (by rfl)]
  go_simp
  have ka := K17.out.add (.cells #[.slice (some ⟨gx, 0, none⟩) 32 32, .slice (some ⟨gx, 0, none⟩) 32 32, .slice (some ⟨gx, 0, none⟩) 32 32, .slice (some ⟨gx, 0, none⟩) 32 32] 46)
  have hrd : RdR (w17.alloc (.cells #[.slice (some ⟨gx, 0, none⟩) 32 32, .slice (some ⟨gx, 0, none⟩) 32 32, .slice (some ⟨gx, 0, none⟩) 32 32, .slice (some ⟨gx, 0, none⟩) 32 32] 46)) (w17.alloc (.cells #[.slice (some ⟨gx, 0, none⟩) 32 32, .slice (some ⟨gx, 0, none⟩) 32 32, .slice (some ⟨gx, 0, none⟩) 32 32, .slice (some ⟨gx, 0, none⟩) 32 32] 46)).heap.size (some ⟨w17.heap.size, 0, none⟩) [x, x, x, x] := rdr_rep (c := 32) (t := 46) (f := (0, 0)) 4 Hx.out.symm (by omega) (K17.out.sl (A := some ⟨gx, 0, none⟩) (bs := x) (by simp))
  have CW28 := Lib.hid (ks_refused ka [true, true, true, true] (some ⟨gl, 0, none⟩) 4 4 rfl (ka.lv (g := gl) (t := 4) (f := (0, 0)) (lv := [true, true, true, true]) (by simp) rfl (by simp)) (some ⟨w17.heap.size, 0, none⟩) [x, x, x, x] 4 4 rfl (by omega) hrd 5 4 2 0 (by omega) (by omega) (by omega) (by omega) (fun i hi => Nat.zero_le _) (Nat.zero_le _) Hn4.out)
  replace HS0 := Lib.hid (show GAt _ gb 5 4 2 from ka.gat (g := gb) (l := 5) (d := 4) (c := 2) (t := 24) (f := (0, 0)) (by simp))
  clear ka hrd
  try dsimp only
  refine ⟨HS0.out, ?_⟩
  try simp only [Act.put, List.getElem_toArray, List.getElem_cons_succ, List.getElem_cons_zero, List.setIfInBounds_toArray, List.set_cons_zero, List.set_cons_succ]
  refine anyI_one 29 (by kernel_rfl) rfl ?_
  try simp only [List.getElem_toArray, List.getElem_cons_succ, List.getElem_cons_zero]
  refine opE_step ?_
  rw [if_pos (by rfl)]
  go_simp
  go_at_call 14
  (with_reducible refine CW28.out.mono ?_)
  rintro e w29 ⟨rfl, H29, k29⟩
  have K29 := Lib.hid (k29.less (K' := [(gb, Obj.cells #[.int .i64 5, .int .i64 4, .int .i64 2] 24 (0, 0)), (gl, Obj.cells ([true, true, true, true].map Value.bool).toArray 4 (0, 0))]) (R' := []) (S' := [(some ⟨gx, 0, none⟩, x)]) (fun _ h => List.mem_cons_of_mem _ h) (fun _ h => absurd h (by simp)) (fun _ h => h))
  replace HS0 := Lib.hid (show GAt w29 gb 5 4 2 from K29.out.gat (g := gb) (l := 5) (d := 4) (c := 2) (t := 24) (f := (0, 0)) (by simp))
  clear k29
  try dsimp only
  refine ⟨HS0.out, ?_⟩
  try simp only [Act.put, List.getElem_toArray, List.getElem_cons_succ, List.getElem_cons_zero, List.setIfInBounds_toArray, List.set_cons_zero, List.set_cons_succ]
  refine' anyI_take R 30 rfl (v := ?_) (by kernel_rfl) (by rfl) (fun V hV => ?hy) HS0.out ?_
  case hy => ((try dsimp only at hV);  obtain ⟨y0, y1, y2⟩ := hV; go_simp; try with_reducible rfl)
  try simp only [Act.put, List.getElem_toArray, List.getElem_cons_succ, List.getElem_cons_zero, List.setIfInBounds_toArray, List.set_cons_zero, List.set_cons_succ]
  refine' anyI_take R 31 rfl (v := ?_) (by kernel_rfl) (by rfl) (fun V hV => ?hy) HS0.out ?_
  case hy => ((try dsimp only at hV);  obtain ⟨y0, y1, y2⟩ := hV; go_simp; try with_reducible rfl)
  try simp only [Act.put, List.getElem_toArray, List.getElem_cons_succ, List.getElem_cons_zero, List.setIfInBounds_toArray, List.set_cons_zero, List.set_cons_succ]
  refine' anyI_take R 32 rfl (v := ?_) (by kernel_rfl) (by rfl) (fun V hV => ?hy) HS0.out ?_
  case hy => ((try dsimp only at hV);  obtain ⟨y0, y1, y2⟩ := hV; go_simp; try with_reducible rfl)
  try simp only [Act.put, List.getElem_toArray, List.getElem_cons_succ, List.getElem_cons_zero, List.setIfInBounds_toArray, List.set_cons_zero, List.set_cons_succ]
  refine' anyI_take R 33 rfl (v := ?_) (by kernel_rfl) (by rfl) (fun V hV => ?hy) HS0.out ?_
  case hy => ((try dsimp only at hV);  obtain ⟨y0, y1, y2⟩ := hV; go_simp; try with_reducible rfl)
  try simp only [Act.put, List.getElem_toArray, List.getElem_cons_succ, List.getElem_cons_zero, List.setIfInBounds_toArray, List.set_cons_zero, List.set_cons_succ]
  refine' anyI_take R 34 rfl (v := ?_) (by kernel_rfl) (by rfl) (fun V hV => ?hy) HS0.out ?_
  case hy => ((try dsimp only at hV);  obtain ⟨y0, y1, y2⟩ := hV; go_simp; try with_reducible rfl)
  try simp only [Act.put, List.getElem_toArray, List.getElem_cons_succ, List.getElem_cons_zero, List.setIfInBounds_toArray, List.set_cons_zero, List.set_cons_succ]
  refine' anyI_take R 35 rfl (v := ?_) (by kernel_rfl) (by rfl) (fun V hV => ?hy) HS0.out ?_
  case hy => ((try dsimp only at hV);  obtain ⟨y0, y1, y2⟩ := hV; go_simp; try with_reducible rfl)
  try simp only [Act.put, List.getElem_toArray, List.getElem_cons_succ, List.getElem_cons_zero, List.setIfInBounds_toArray, List.set_cons_zero, List.set_cons_succ]
  refine' anyI_take R 36 rfl (v := ?_) (by kernel_rfl) (by rfl) (fun V hV => ?hy) HS0.out ?_
  case hy => ((try dsimp only at hV);  obtain ⟨y0, y1, y2⟩ := hV; go_simp; try with_reducible rfl)
  try simp only [Act.put, List.getElem_toArray, List.getElem_cons_succ, List.getElem_cons_zero, List.setIfInBounds_toArray, List.set_cons_zero, List.set_cons_succ]
  refine' anyI_take R 37 rfl (v := ?_) (by kernel_rfl) (by rfl) (fun V hV => ?hy) HS0.out ?_
  case hy => ((try dsimp only at hV);  obtain ⟨y0, y1, y2⟩ := hV; go_simp; try with_reducible rfl)
  try simp only [Act.put, List.getElem_toArray, List.getElem_cons_succ, List.getElem_cons_zero, List.setIfInBounds_toArray, List.set_cons_zero, List.set_cons_succ]
  refine' anyI_take R 38 rfl (v := ?_) (by kernel_rfl) (by rfl) (fun V hV => ?hy) HS0.out ?_
  case hy => ((try dsimp only at hV);  obtain ⟨y0, y1, y2⟩ := hV; go_simp; try with_reducible rfl)
  try simp only [Act.put, List.getElem_toArray, List.getElem_cons_succ, List.getElem_cons_zero, List.setIfInBounds_toArray, List.set_cons_zero, List.set_cons_succ]
  refine' anyI_take R 39 rfl (v := ?_) (by kernel_rfl) (by rfl) (fun V hV => ?hy) HS0.out ?_
  case hy => ((try dsimp only at hV);  obtain ⟨y0, y1, y2⟩ := hV; go_simp; try with_reducible rfl)
  try simp only [Act.put, List.getElem_toArray, List.getElem_cons_succ, List.getElem_cons_zero, List.setIfInBounds_toArray, List.set_cons_zero, List.set_cons_succ]
  refine anyI_one 40 (by kernel_rfl) rfl ?_
  try simp only [List.getElem_toArray, List.getElem_cons_succ, List.getElem_cons_zero]
  refine opE_step ?_
  rw [if_pos (by rfl)]
  go_simp
  have ka := K29.out.add (.cells #[.slice (some ⟨gx, 0, none⟩) 32 32, .slice (some ⟨gx, 0, none⟩) 32 32, .slice (some ⟨gx, 0, none⟩) 9 32] 46)
  have hrd : RdR (w29.alloc (.cells #[.slice (some ⟨gx, 0, none⟩) 32 32, .slice (some ⟨gx, 0, none⟩) 32 32, .slice (some ⟨gx, 0, none⟩) 9 32] 46)) (w29.alloc (.cells #[.slice (some ⟨gx, 0, none⟩) 32 32, .slice (some ⟨gx, 0, none⟩) 32 32, .slice (some ⟨gx, 0, none⟩) 9 32] 46)).heap.size (some ⟨w29.heap.size, 0, none⟩) [x, x, x.take 9] := rdr_block3 (hp_new w29 (.cells #[.slice (some ⟨gx, 0, none⟩) 32 32, .slice (some ⟨gx, 0, none⟩) 32 32, .slice (some ⟨gx, 0, none⟩) 9 32] 46) _ rfl) Hx.out.symm Hx.out.symm (by rw [List.length_take, Hx.out]; rfl) ((K29.out.sl (A := some ⟨gx, 0, none⟩) (bs := x) (by simp)).below (below1 w29 _) (Nat.le_refl _)) ((K29.out.sl (A := some ⟨gx, 0, none⟩) (bs := x) (by simp)).below (below1 w29 _) (Nat.le_refl _)) (((K29.out.sl (A := some ⟨gx, 0, none⟩) (bs := x) (by simp)).below (below1 w29 _) (Nat.le_refl _)).take 9) (by simp)
  have CW40 := Lib.hid (ks_refused ka [true, true, true, true] (some ⟨gl, 0, none⟩) 4 4 rfl (ka.lv (g := gl) (t := 4) (f := (0, 0)) (lv := [true, true, true, true]) (by simp) rfl (by simp)) (some ⟨w29.heap.size, 0, none⟩) [x, x, x.take 9] 3 3 rfl (by omega) hrd 5 4 2 0 (by omega) (by omega) (by omega) (by omega) (fun i hi => Nat.zero_le _) (Nat.zero_le _) Hn9.out)
  replace HS0 := Lib.hid (show GAt _ gb 5 4 2 from ka.gat (g := gb) (l := 5) (d := 4) (c := 2) (t := 24) (f := (0, 0)) (by simp))
  clear ka hrd
  try dsimp only
  refine ⟨HS0.out, ?_⟩
  try simp only [Act.put, List.getElem_toArray, List.getElem_cons_succ, List.getElem_cons_zero, List.setIfInBounds_toArray, List.set_cons_zero, List.set_cons_succ]
  refine anyI_one 41 (by kernel_rfl) rfl ?_
  try simp only [List.getElem_toArray, List.getElem_cons_succ, List.getElem_cons_zero]
  refine opE_step ?_
  rw [if_pos (by rfl)]
  go_simp
  go_at_call 14
  (with_reducible refine CW40.out.mono ?_)
  rintro e w41 ⟨rfl, H41, k41⟩
  have K41 := Lib.hid (k41.less (K' := [(gb, Obj.cells #[.int .i64 5, .int .i64 4, .int .i64 2] 24 (0, 0)), (gl, Obj.cells ([true, true, true, true].map Value.bool).toArray 4 (0, 0))]) (R' := []) (S' := [(some ⟨gx, 0, none⟩, x)]) (fun _ h => List.mem_cons_of_mem _ h) (fun _ h => absurd h (by simp)) (fun _ h => h))
  replace HS0 := Lib.hid (show GAt w41 gb 5 4 2 from K41.out.gat (g := gb) (l := 5) (d := 4) (c := 2) (t := 24) (f := (0, 0)) (by simp))
  clear k41
  try dsimp only
  refine ⟨HS0.out, ?_⟩
  try simp only [Act.put, List.getElem_toArray, List.getElem_cons_succ, List.getElem_cons_zero, List.setIfInBounds_toArray, List.set_cons_zero, List.set_cons_succ]
  refine' anyI_take R 42 rfl (v := ?_) (by kernel_rfl) (by rfl) (fun V hV => ?hy) HS0.out ?_
  case hy => ((try dsimp only at hV);  obtain ⟨y0, y1, y2⟩ := hV; go_simp; try with_reducible rfl)
  try simp only [Act.put, List.getElem_toArray, List.getElem_cons_succ, List.getElem_cons_zero, List.setIfInBounds_toArray, List.set_cons_zero, List.set_cons_succ]
  refine' anyI_take R 43 rfl (v := ?_) (by kernel_rfl) (by rfl) (fun V hV => ?hy) HS0.out ?_
  case hy => ((try dsimp only at hV);  obtain ⟨y0, y1, y2⟩ := hV; go_simp; try with_reducible rfl)
  try simp only [Act.put, List.getElem_toArray, List.getElem_cons_succ, List.getElem_cons_zero, List.setIfInBounds_toArray, List.set_cons_zero, List.set_cons_succ]
  refine' anyI_take R 44 rfl (v := ?_) (by kernel_rfl) (by rfl) (fun V hV => ?hy) HS0.out ?_
  case hy => ((try dsimp only at hV);  obtain ⟨y0, y1, y2⟩ := hV; go_simp; try with_reducible rfl)
  try simp only [Act.put, List.getElem_toArray, List.getElem_cons_succ, List.getElem_cons_zero, List.setIfInBounds_toArray, List.set_cons_zero, List.set_cons_succ]
  refine' anyI_take R 45 rfl (v := ?_) (by kernel_rfl) (by rfl) (fun V hV => ?hy) HS0.out ?_
  case hy => ((try dsimp only at hV);  obtain ⟨y0, y1, y2⟩ := hV; go_simp; try with_reducible rfl)
  try simp only [Act.put, List.getElem_toArray, List.getElem_cons_succ, List.getElem_cons_zero, List.setIfInBounds_toArray, List.set_cons_zero, List.set_cons_succ]
  refine' anyI_take R 46 rfl (v := ?_) (by kernel_rfl) (by rfl) (fun V hV => ?hy) HS0.out ?_
  case hy => ((try dsimp only at hV);  obtain ⟨y0, y1, y2⟩ := hV; go_simp; try with_reducible rfl)
  try simp only [Act.put, List.getElem_toArray, List.getElem_cons_succ, List.getElem_cons_zero, List.setIfInBounds_toArray, List.set_cons_zero, List.set_cons_succ]
  refine' anyI_take R 47 rfl (v := ?_) (by kernel_rfl) (by rfl) (fun V hV => ?hy) HS0.out ?_
  case hy => ((try dsimp only at hV);  obtain ⟨y0, y1, y2⟩ := hV; go_simp; try with_reducible rfl)
  try simp only [Act.put, List.getElem_toArray, List.getElem_cons_succ, List.getElem_cons_zero, List.setIfInBounds_toArray, List.set_cons_zero, List.set_cons_succ]
  refine anyI_one 48 (by kernel_rfl) rfl ?_
  try simp only [List.getElem_toArray, List.getElem_cons_succ, List.getElem_cons_zero]
  refine opE_step ?_
  rw [if_pos (by rfl)]
  go_simp
  go_at_call 24
  (with_reducible refine (bp_writes _ _ _ _ _ K41.out.bp).mono ?_)
  rintro e w48 ⟨rfl, rfl⟩
  try dsimp only
  refine ⟨HS0.out, ?_⟩
  try simp only [Act.put, List.getElem_toArray, List.getElem_cons_succ, List.getElem_cons_zero, List.setIfInBounds_toArray, List.set_cons_zero, List.set_cons_succ]
  refine' anyI_take R 49 rfl (v := ?_) (by kernel_rfl) (by rfl) (fun V hV => ?hy) HS0.out ?_
  case hy => ((try dsimp only at hV);  obtain ⟨y0, y1, y2⟩ := hV; go_simp; try with_reducible rfl)
  try simp only [Act.put, List.getElem_toArray, List.getElem_cons_succ, List.getElem_cons_zero, List.setIfInBounds_toArray, List.set_cons_zero, List.set_cons_succ]
  refine' anyI_take R 50 rfl (v := ?_) (by kernel_rfl) (by rfl) (fun V hV => ?hy) HS0.out ?_
  case hy => ((try dsimp only at hV);  obtain ⟨y0, y1, y2⟩ := hV; go_simp; try with_reducible rfl)
  try simp only [Act.put, List.getElem_toArray, List.getElem_cons_succ, List.getElem_cons_zero, List.setIfInBounds_toArray, List.set_cons_zero, List.set_cons_succ]
  refine anyI_tail (by kernel_rfl) ?_
  try simp only [List.drop_succ_cons, List.drop_zero]
  clear R
  go_wp2_with fail
  refine NoPanic.normal ?_
  go_wp2_with fail
  refine wp_region_noPanic (region_ord 6 [] (fun V => GAt V gb 5 4 2) (by kernel_rfl) (by kernel_rfl) (fun _ _ _ _ _ h => h) fun R => ?_)
  change anyI _ _ _ _ _ _ 6 _ _ w48.drew
  have HS0 := Lib.hid (show (fun V => GAt V gb 5 4 2) w48.drew from (K41.out.below (Below.refl _ w48).drew).gat (g := gb) (l := 5) (d := 4) (c := 2) (t := 24) (f := (0, 0)) (by simp))
  have CLi := Lib.hid (ks_limit (K41.out.below (Below.refl _ w48).drew) (k : Int) ⟨by omega, by omega⟩)
  obtain ⟨V20, hV20⟩ : ∃ V, w48.drew = V := ⟨_, rfl⟩
  rw [hV20] at CLi HS0 ⊢
  clear hV20
  refine' anyI_take R 0 rfl (v := ?_) (by kernel_rfl) (by rfl) (fun V hV => ?hy) HS0.out ?_
  case hy => ((try dsimp only at hV);  go_simp; try with_reducible rfl)
  try simp only [Act.put, List.getElem_toArray, List.getElem_cons_succ, List.getElem_cons_zero, List.setIfInBounds_toArray, List.set_cons_zero, List.set_cons_succ]
  refine' anyI_take R 1 rfl (v := ?_) (by kernel_rfl) (by rfl) (fun V hV => ?hy) HS0.out ?_
  case hy => ((try dsimp only at hV);  go_simp; try with_reducible rfl)
  try simp only [Act.put, List.getElem_toArray, List.getElem_cons_succ, List.getElem_cons_zero, List.setIfInBounds_toArray, List.set_cons_zero, List.set_cons_succ]
  refine' anyI_take R 2 rfl (v := ?_) (by kernel_rfl) (by rfl) (fun V hV => ?hy) HS0.out ?_
  case hy => ((try dsimp only at hV);  go_simp; try with_reducible rfl)
  try simp only [Act.put, List.getElem_toArray, List.getElem_cons_succ, List.getElem_cons_zero, List.setIfInBounds_toArray, List.set_cons_zero, List.set_cons_succ]
  refine' anyI_take R 3 rfl (v := ?_) (by kernel_rfl) (by rfl) (fun V hV => ?hy) HS0.out ?_
  case hy => ((try dsimp only at hV);  go_simp; try with_reducible rfl)
  try simp only [Act.put, List.getElem_toArray, List.getElem_cons_succ, List.getElem_cons_zero, List.setIfInBounds_toArray, List.set_cons_zero, List.set_cons_succ]
  refine anyI_one 4 (by kernel_rfl) rfl ?_
  try simp only [List.getElem_toArray, List.getElem_cons_succ, List.getElem_cons_zero]
  refine opE_step ?_
  rw [if_pos (by rfl)]
  go_simp
  go_at_call 11
  (with_reducible refine (CW2.out _).mono ?_)
  rintro e wn ⟨rfl, rfl⟩
  try dsimp only
  refine ⟨HS0.out, ?_⟩
  try simp only [Act.put, List.getElem_toArray, List.getElem_cons_succ, List.getElem_cons_zero, List.setIfInBounds_toArray, List.set_cons_zero, List.set_cons_succ]
  refine anyI_one 5 (by kernel_rfl) rfl ?_
  try simp only [List.getElem_toArray, List.getElem_cons_succ, List.getElem_cons_zero]
  refine opE_step ?_
  rw [if_pos (by rfl)]
  go_simp
  go_at_call 25
  (with_reducible refine CLi.out.mono ?_)
  rintro e w21 ⟨rfl, H21, k21⟩
  have K21 := Lib.hid k21
  replace HS0 := Lib.hid (show GAt w21 gb 5 4 2 from K21.out.gat (g := gb) (l := 5) (d := 4) (c := 2) (t := 24) (f := (0, 0)) (by simp))
  clear k21
  try dsimp only
  refine ⟨HS0.out, ?_⟩
  try simp only [Act.put, List.getElem_toArray, List.getElem_cons_succ, List.getElem_cons_zero, List.setIfInBounds_toArray, List.set_cons_zero, List.set_cons_succ]
  refine anyI_tail (by kernel_rfl) ?_
  try simp only [List.drop_succ_cons, List.drop_zero]
  clear R
  go_wp2_with fail
  refine NoPanic.normal ?_
  have hD21 : ((Bch.new 4).limit (k : Int)).D = (Bch.new 4).D := by unfold Bch.limit; split <;> rfl
  have hd21 : ((Bch.new 4).limit (k : Int)).done = 0 := by unfold Bch.limit; split <;> rfl
  obtain ⟨N1, hN1, hdn1, hn1, hs1⟩ := Hlim.out
  have HN1 := Lib.hid (And.intro hdn1 (And.intro hn1 hs1))
  have ka := K21.out.add (.cells #[.slice (some ⟨gx, 0, none⟩) 32 32, .slice (some ⟨gx, 0, none⟩) 32 32, .slice (some ⟨gx, 0, none⟩) 32 32] 46)
  have hrd : RdR (w21.alloc (.cells #[.slice (some ⟨gx, 0, none⟩) 32 32, .slice (some ⟨gx, 0, none⟩) 32 32, .slice (some ⟨gx, 0, none⟩) 32 32] 46)) (w21.alloc (.cells #[.slice (some ⟨gx, 0, none⟩) 32 32, .slice (some ⟨gx, 0, none⟩) 32 32, .slice (some ⟨gx, 0, none⟩) 32 32] 46)).heap.size (some ⟨w21.heap.size, 0, none⟩) [x, x, x] := rdr_rep (c := 32) (t := 46) (f := (0, 0)) 3 Hx.out.symm (by omega) (K21.out.sl (A := some ⟨gx, 0, none⟩) (bs := x) (by simp))
  have CWx := ks_write ka [true, true, true, true] (some ⟨gl, 0, none⟩) 4 4 rfl (ka.lv (g := gl) (t := 4) (f := (0, 0)) (lv := [true, true, true, true]) (by simp) rfl (by simp)) (some ⟨w21.heap.size, 0, none⟩) [x, x, x] 3 3 rfl (by omega) hrd 5 4 2 0 (by omega) (by omega) (by omega) (by omega) (fun i hi => by rw [hD21]; exact Nat.zero_le _) (by rw [hd21]; omega)
  rw [hN1] at CWx
  have CWx := Lib.hid CWx
  obtain ⟨g1, g2, g3⟩ := K21.out.gat (g := gb) (l := 5) (d := 4) (c := 2) (t := 24) (f := (0, 0)) (by simp)
  clear ka hrd hN1 hdn1 hn1 hs1 hD21 hd21 Hlim
  go_wp2_with fail
  (with_reducible refine CWx.out.mono ?_); rintro e w22 ⟨rfl, H22, k22⟩
  have CR22 := ks_read k22 [true, true, true, true] (some ⟨gl, 0, none⟩) 4 4 rfl (k22.lv (g := gl) (t := 4) (f := (0, 0)) (lv := [true, true, true, true]) (by simp) rfl (by simp)) 5 4 2 0 (by omega) (by omega) (by omega) (by omega)
  rw [(down_read HN1.out.1 HN1.out.2.2).1, (down_read HN1.out.1 HN1.out.2.2).2] at CR22
  have CR22 := Lib.hid CR22
  obtain ⟨g4, g5, g6⟩ := k22.gat (g := gb) (l := 5) (d := 4) (c := 2) (t := 24) (f := (0, 0)) (by simp)
  clear k22 CWx g1 g2 g3
  go_wp2_with fail
  (with_reducible refine CR22.out.mono ?_); rintro e w23 ⟨A23, c23, rfl, k23, _⟩
  have CO23 := ks_one k23 [true, true, true, true] (some ⟨gl, 0, none⟩) 4 4 rfl (k23.lv (g := gl) (t := 4) (f := (0, 0)) (lv := [true, true, true, true]) (by simp) rfl (by simp)) 5 4 2 0 (by omega) (by omega) (by omega) (by omega)
  rw [(down_one HN1.out.1 HN1.out.2.2).1, (down_one HN1.out.1 HN1.out.2.2).2] at CO23
  have CO23 := Lib.hid CO23
  obtain ⟨g1, g2, g3⟩ := k23.gat (g := gb) (l := 5) (d := 4) (c := 2) (t := 24) (f := (0, 0)) (by simp)
  clear k23 CR22 g4 g5 g6
  go_wp2_with fail
  (with_reducible refine CO23.out.mono ?_); rintro e w24 ⟨A24, c24, rfl, k24, _⟩
  have CF24 := ks_flush k24 [true, true, true, true] (some ⟨gl, 0, none⟩) 4 4 rfl (k24.lv (g := gl) (t := 4) (f := (0, 0)) (lv := [true, true, true, true]) (by simp) rfl (by simp))
  rw [down_flush HN1.out.1 HN1.out.2.1 rfl] at CF24
  have CF24 := Lib.hid CF24
  clear k24 CO23 g1 g2 g3
  go_wp2_with fail
  (with_reducible refine CF24.out.mono ?_); rintro e w25 ⟨rfl, H25, k25⟩
  have F25 := k25.bp.bel
  clear k25
  go_wp2_with fail
  (with_reducible refine (HWk.out _).mono ?_); rintro e w26 ⟨rfl, hb26⟩
  have F26 := F25.trans (hb26.mono F25.size)
  go_wp2_with fail
  go_ret
  exact ⟨rfl, F26⟩
end Go.Proofs.Ytpaegibaikpikaa
