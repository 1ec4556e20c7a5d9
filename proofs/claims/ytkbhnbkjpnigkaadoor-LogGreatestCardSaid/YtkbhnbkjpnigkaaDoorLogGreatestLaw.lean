/- LogGreatest walked. -/
import Derived.Test.YtkbhnbkjpnigkaaDoorLogGreatestLoops
set_option linter.unusedVariables false
set_option linter.unusedSimpArgs false
namespace Go.Proofs.YtkbhnbkjpnigkaaDoor
open Go.RowKit

/-- What is found stays, and what is asked of it. -/
def GrS (w0 : World) (p sg g c j : Nat) (s : Int) (V : World) : Prop := V.cell? ⟨p, 0, none⟩ = some (.int .i64 s) ∧ V.cell? ⟨p, 1, none⟩ = some (.slice (some ⟨g, 0, none⟩) 1 c) ∧ V.cell? ⟨sg, j, none⟩ = some (.int .i64 s) ∧ V.cell? ⟨g, 0, none⟩ = some (.int .i64 (j : Int)) ∧ j < 3 ∧ Below w0.heap.size w0 V
theorem GrS.later {w0 V V' : World} {p sg g c j : Nat} {s : Int} (h : GrS w0 p sg g c j s V) (hb : Below V.heap.size V V') : GrS w0 p sg g c j s V' := by
  obtain ⟨h1, h2, h3, h4, h5, h6⟩ := h
  exact ⟨(hb.cell (World.block_lt_of_cell? _ _ h1)).trans h1, (hb.cell (World.block_lt_of_cell? _ _ h2)).trans h2, (hb.cell (World.block_lt_of_cell? _ _ h3)).trans h3, (hb.cell (World.block_lt_of_cell? _ _ h4)).trans h4, h5, h6.trans (hb.mono h6.size)⟩
theorem GrS.drew {w0 V : World} {p sg g c j : Nat} {s : Int} (h : GrS w0 p sg g c j s V) : GrS w0 p sg g c j s V.drew := h.later (Below.refl _ _).drew
set_option maxRecDepth 100000 in
set_option maxHeartbeats 8000000 in
theorem loggreatest (a e3 c3 : Int) (x y z : Bool) (w : World) (ha : (-9223372036854775808 ≤ a ∧ a ≤ 9223372036854775807)) (hb : (-9223372036854775808 ≤ e3 ∧ e3 ≤ 9223372036854775807)) (hc : (-9223372036854775808 ≤ c3 ∧ c3 ≤ 9223372036854775807)) (ht : TabOk w) :
    Calls Tryd.prog 6 #[.int .i64 a, .int .i64 e3, .int .i64 c3, .bool x, .bool y, .bool z] w fun e w' => e = .returned (.bool true) ∧ Below w.heap.size w w' := by
  have hpn := ptr_eq
  have Ht := Lib.hid ht
  have CN := Lib.hid (bp_new 3 w w (Below.refl _ _) (by omega))
  have WA := Lib.hid (fun V => within_any a 4 V ha (by omega))
  have WB := Lib.hid (fun V => within_any e3 4 V hb (by omega))
  have WC := Lib.hid (fun V => within_any c3 4 V hc (by omega))
  have ba := withinI_bd a 4 (by omega)
  have bb := withinI_bd e3 4 (by omega)
  have bc := withinI_bd c3 4 (by omega)
  generalize withinI a 4 = qa at *
  generalize withinI e3 4 = qb at *
  generalize withinI c3 4 = qc at *
  have k1 : IntKind.i64.wrap (1 + qa) = 1 + qa := by rw [IntKind.wrap_i64]; omega
  have k2 : IntKind.i64.wrap (1 + qb) = 1 + qb := by rw [IntKind.wrap_i64]; omega
  have k3 : IntKind.i64.wrap (1 + qc) = 1 + qc := by rw [IntKind.wrap_i64]; omega
  obtain ⟨q, hq⟩ : ∃ q : Nat → Int, q = fun j => if j = 0 then 1 + qa else if j = 1 then 1 + qb else 1 + qc := ⟨_, rfl⟩
  have Hq3 := Lib.hid (show (#[.int .i64 (1 + qa), .int .i64 (1 + qb), .int .i64 (1 + qc)] : Array Value) = (q3 q).toArray by rw [hq]; rfl)
  have Hq := Lib.hid (show ∀ j, j < 3 → 1 ≤ q j ∧ q j ≤ 4 from fun j hj => by
    rw [hq]; dsimp only; (repeat' split) <;> omega)
  clear hq ht ha hb hc
  go_enter Tryd.func6, Tryd.ntmps6
  go_wp2_with fail
  refine CN.out.mono ?_
  rintro e w1 ⟨b, H, rfl, hp, _, _⟩
  unfold ptr
  have K1 : Hid (KX w w1 b H (Bch.new 3) []) := ⟨hp, fun p hp => by cases hp⟩
  have K2 := Lib.hid (K1.out.add (.cells #[.int .i64 (1 + qa), .int .i64 (1 + qb), .int .i64 (1 + qc)] 3 (0, 0)))
  rw [Hq3.out] at K2
  clear hp CN
  go_wp2_with (first
    | (go_at_call 9; (with_reducible refine (WA.out _).mono ?_); rintro e w2 ⟨rfl, h2⟩; obtain rfl : w1 = w2 := h2.symm)
    | (go_at_call 9; (with_reducible refine (WB.out _).mono ?_); rintro e w2 ⟨rfl, h2⟩; obtain rfl : w1 = w2 := h2.symm)
    | (go_at_call 9; (with_reducible refine (WC.out _).mono ?_); rintro e w2 ⟨rfl, h2⟩; obtain rfl : w1 = w2 := h2.symm))
  rw [Hq3.out]
  refine lgA (w0 := w) (b := b) (sg := w1.heap.size) (q := q) _ _ _ _ _ _ _ _ _ _ _ _ _ _ _ _ _ _ _ _ _ _ _ _ _ _ _ _ _ _ _ _ _ _ _ _ _ _ _ _ _ _ _ _ _ _ _ _ _ _ _ _ _ _ _ _ _ _ _ _ _ _ _ _ _ _ _ _ _ _ _ _ _ _ _ _ _ _ _ _ _ _ _ _ _ _ _ _ _ _ _ _ _ _ _ _ _ _ _ _ _ _ _ _ _ _ _ _ _ _ _ _ _ _ _ _ _ _ _ _ _ _ _ _ _ _ _ _ _ _ _ _ _ _ _ _ _ _ _ _ _ _ _ _ _ _ _ _ _ Ht.out Hq.out ⟨by omega, K2.out, gg_new q⟩ (fun v12 v16 v17 v18 v19 v49 v50 v51 v52 v53 v54 v55 v56 v57 v58 v59 v60 v61 v62 v63 v64 v65 v66 v67 v68 v69 v70 v71 d H3 N3 V hI hx => ?_)
  obtain ⟨_, hK, hG⟩ := hI
  subst hx
  have G3 := Lib.hid hG
  have K3 := hK.add (.cells #[.bool x, .bool y, .bool z] 4 (0, 0))
  have R3 := Lib.hid (K3.rdo (List.mem_cons_self ..) (lv := [x, y, z]) rfl (by simp))
  have Hs := Lib.hid (fun j (hj : j < 3) => show (V.alloc (.cells #[.bool x, .bool y, .bool z] 4 (0, 0))).cell? ⟨w1.heap.size, j, none⟩ = some (.int .i64 (q j)) by
    rw [cell_of_row _ _ j _ _ _ (K3.kp _ (List.mem_cons_of_mem _ (List.mem_cons_self ..))).1, List.getElem?_toArray]; exact q3_get q hj)
  have Hl := Lib.hid (fun j (hj : j < 3) => show (V.alloc (.cells #[.bool x, .bool y, .bool z] 4 (0, 0))).cell? ⟨V.heap.size, j, none⟩ = some (.bool ([x, y, z].getD j false)) by
    rw [cell_of_row _ _ j _ _ _ (K3.kp _ (List.mem_cons_self ..)).1]
    have : j = 0 ∨ j = 1 ∨ j = 2 := by omega
    rcases this with rfl | rfl | rfl <;> rfl)
  have HK3 := Lib.hid K3
  clear hK hG K1 K2 K3 WA WB WC
  go_wp2_with fail
  refine lgB (w0 := V.alloc (.cells #[.bool x, .bool y, .bool z] 4 (0, 0))) (b := b) (sg := w1.heap.size) (gl := V.heap.size) (q := q) (lv := [x, y, z]) _ _ _ _ _ _ _ _ _ _ _ _ _ _ _ _ _ _ _ _ _ _ _ _ _ _ _ _ _ _ _ _ _ _ _ _ _ _ _ _ _ _ _ _ _ _ _ _ _ _ _ _ _ _ _ _ _ _ _ _ _ _ _ _ _ _ _ _ _ _ _ _ _ _ _ _ _ _ _ _ _ _ _ _ _ _ _ _ _ _ _ _ _ _ _ _ _ _ _ _ _ _ _ _ _ _ _ _ _ _ _ _ _ _ _ _ _ _ _ _ _ _ _ _ _ _ _ _ _ _ _ _ _ _ _ _ _ _ _ _ _ _ _ _ _ _ _ Hs.out Hl.out ⟨by omega, rfl, rfl⟩ (fun v22 v23 v79 v80 v81 v82 v83 v84 v85 v86 v87 v88 v89 v90 v91 v92 v93 v94 v95 v96 v97 v98 v99 v100 d k V5 hI hx => ?_)
  obtain ⟨_, hk, hV⟩ := hI
  subst hx
  obtain rfl := hV
  have hgs := bst_get (lv := [x, y, z]) G3.out (fun j hj => (Hq.out j hj).1) 3 (by omega)
  have hbl := bst_le q [x, y, z] 3
  rw [← hk] at hgs hbl
  have Hgs := Lib.hid (show getS N3 [x, y, z] = if k < 0 then (0, []) else (q k.toNat, [mkI k.toNat]) by unfold getS; rw [G3.out.n]; exact hgs)
  clear hgs hk Hl
  by_cases h0 : k < 0
  · rw [if_pos h0] at Hgs
    clear Hs
    go_wp2_with (go_at_call 13; refine (kx_get HK3.out Ht.out [x, y, z] (some ⟨V.heap.size, 0, none⟩) 3 3 rfl R3.out 0 [] Hgs.out).mono ?_; rintro e w7 ⟨A, c, rfl, _, _, k7, _⟩; have K7 := Lib.hid k7; clear k7)
    have B8 := Lib.hid ((K7.out.below (below1 w7 (.cells #[.int .i64 0, .slice A 0 c] 29 (0, 0)))).bp.bel)
    go_wp2_with (go_at_call 11; refine (wakesLg_any _ (Ht.out.below B8.out Ht.out.pos)).mono ?_; rintro e w9 ⟨rfl, hb9⟩)
    go_ret
    exact ⟨rfl, B8.out.trans (hb9.mono B8.out.size)⟩
  · obtain ⟨j, rfl⟩ := Int.eq_ofNat_of_zero_le (show 0 ≤ k by omega)
    rw [if_neg h0] at Hgs
    rw [show ((j : Int)).toNat = j from rfl] at Hgs
    have hj3 : j < 3 := by omega
    have j0 : (0 : Int) ≤ (j : Int) := by omega
    have j1 : (j : Int) < 3 := by omega
    have Hc := Lib.hid (Hs.out j hj3)
    have hqj := Hq.out j hj3
    have HD := Lib.hid (show decide (0 < q j) = true from decide_eq_true (by omega))
    generalize hs : q j = s at *
    clear hs h0 Hs hbl
    go_wp2_with (go_at_call 13; refine (kx_get HK3.out Ht.out [x, y, z] (some ⟨V.heap.size, 0, none⟩) 3 3 rfl R3.out s [mkI j] Hgs.out).mono ?_; rintro e w7 ⟨A, c, rfl, hcap, ho7, k7, hb7⟩; rw [HD.out])
    obtain ⟨_, hri⟩ := ho7.rdS.2.2
    obtain ⟨g, rfl, hg, hcl⟩ := hri (by simp)
    obtain ⟨D, cd, hrp, _⟩ := hcl 0 (by simp)
    have hc0 : w7.cell? ⟨g, 0, none⟩ = some (.int .i64 (j : Int)) := by have := hrp 0 _ rfl; exact this
    have hc1 := (hb7.cell (World.block_lt_of_cell? _ _ Hc.out)).trans Hc.out
    have B8 := below1 w7 (.cells #[.int .i64 s, .slice (some ⟨g, 0, none⟩) 1 c] 29)
    have q8 := fun i => cell_of_row _ _ i _ _ _ (heap_alloc_new w7 (.cells #[.int .i64 s, .slice (some ⟨g, 0, none⟩) 1 c] 29))
    have S8 : GrS w w7.heap.size w1.heap.size g c j s (w7.alloc (.cells #[.int .i64 s, .slice (some ⟨g, 0, none⟩) 1 c] 29)) := ⟨q8 0, q8 1, (B8.cell (World.block_lt_of_cell? _ _ hc1)).trans hc1, (B8.cell (World.block_lt_of_cell? _ _ hc0)).trans hc0, hj3, (k7.below B8).bp.bel⟩
    have hcap1 : (1 : Int) ≤ (c : Int) := by simp at hcap; omega
    clear hcl hrp hri ho7 k7 hb7 hc0 hc1 B8 q8 Hc hcap
    generalize w7.heap.size = p at S8 ⊢
    generalize w1.heap.size = sg at S8 ⊢
    generalize hw8 : w7.alloc (.cells #[.int .i64 s, .slice (some ⟨g, 0, none⟩) 1 c] 29) = w8 at S8
    go_wp2_with fail
    refine wp_region_noPanic (region_ord 29 [] (fun V => GrS w p sg g c j s V) (by kernel_rfl) (by kernel_rfl) (fun _ _ _ _ _ h => h) fun R => ?_)
    change anyI _ _ _ _ _ _ 29 _ _ w8.drew
    have HS0 := Lib.hid (show (fun V => GrS w p sg g c j s V) w8.drew from S8.drew)
    refine' anyI_take R 0 rfl (v := ?_) (by kernel_rfl) (by rfl) (fun V hV => ?hy) HS0.out ?_
    case hy => ((try dsimp only at hV);  obtain ⟨q0, q1, q2, q3, q4, _⟩ := hV; go_simp; try with_reducible rfl)
    try simp only [Act.put, List.getElem_toArray, List.getElem_cons_succ, List.getElem_cons_zero, List.setIfInBounds_toArray, List.set_cons_zero, List.set_cons_succ]
    refine' anyI_take R 1 rfl (v := ?_) (by kernel_rfl) (by rfl) (fun V hV => ?hy) HS0.out ?_
    case hy => ((try dsimp only at hV);  obtain ⟨q0, q1, q2, q3, q4, _⟩ := hV; go_simp; try with_reducible rfl)
    try simp only [Act.put, List.getElem_toArray, List.getElem_cons_succ, List.getElem_cons_zero, List.setIfInBounds_toArray, List.set_cons_zero, List.set_cons_succ]
    refine' anyI_take R 2 rfl (v := ?_) (by kernel_rfl) (by rfl) (fun V hV => ?hy) HS0.out ?_
    case hy => ((try dsimp only at hV);  obtain ⟨q0, q1, q2, q3, q4, _⟩ := hV; go_simp; try with_reducible rfl)
    try simp only [Act.put, List.getElem_toArray, List.getElem_cons_succ, List.getElem_cons_zero, List.setIfInBounds_toArray, List.set_cons_zero, List.set_cons_succ]
    refine' anyI_take R 3 rfl (v := ?_) (by kernel_rfl) (by rfl) (fun V hV => ?hy) HS0.out ?_
    case hy => ((try dsimp only at hV);  obtain ⟨q0, q1, q2, q3, q4, _⟩ := hV; go_simp; try with_reducible rfl)
    try simp only [Act.put, List.getElem_toArray, List.getElem_cons_succ, List.getElem_cons_zero, List.setIfInBounds_toArray, List.set_cons_zero, List.set_cons_succ]
    refine' anyI_take R 4 rfl (v := ?_) (by kernel_rfl) (by rfl) (fun V hV => ?hy) HS0.out ?_
    case hy => ((try dsimp only at hV);  obtain ⟨q0, q1, q2, q3, q4, _⟩ := hV; go_simp; try with_reducible rfl)
    try simp only [Act.put, List.getElem_toArray, List.getElem_cons_succ, List.getElem_cons_zero, List.setIfInBounds_toArray, List.set_cons_zero, List.set_cons_succ]
    refine' anyI_take R 5 rfl (v := ?_) (by kernel_rfl) (by rfl) (fun V hV => ?hy) HS0.out ?_
    case hy => ((try dsimp only at hV);  obtain ⟨q0, q1, q2, q3, q4, _⟩ := hV; go_simp; try with_reducible rfl)
    try simp only [Act.put, List.getElem_toArray, List.getElem_cons_succ, List.getElem_cons_zero, List.setIfInBounds_toArray, List.set_cons_zero, List.set_cons_succ]
    refine' anyI_take R 6 rfl (v := ?_) (by kernel_rfl) (by rfl) (fun V hV => ?hy) HS0.out ?_
    case hy => ((try dsimp only at hV);  obtain ⟨q0, q1, q2, q3, q4, _⟩ := hV; go_simp; try with_reducible rfl)
    try simp only [Act.put, List.getElem_toArray, List.getElem_cons_succ, List.getElem_cons_zero, List.setIfInBounds_toArray, List.set_cons_zero, List.set_cons_succ]
    refine' anyI_take R 7 rfl (v := ?_) (by kernel_rfl) (by rfl) (fun V hV => ?hy) HS0.out ?_
    case hy => ((try dsimp only at hV);  obtain ⟨q0, q1, q2, q3, q4, _⟩ := hV; go_simp; try with_reducible rfl)
    try simp only [Act.put, List.getElem_toArray, List.getElem_cons_succ, List.getElem_cons_zero, List.setIfInBounds_toArray, List.set_cons_zero, List.set_cons_succ]
    refine' anyI_take R 8 rfl (v := ?_) (by kernel_rfl) (by rfl) (fun V hV => ?hy) HS0.out ?_
    case hy => ((try dsimp only at hV);  obtain ⟨q0, q1, q2, q3, q4, _⟩ := hV; go_simp; try with_reducible rfl)
    try simp only [Act.put, List.getElem_toArray, List.getElem_cons_succ, List.getElem_cons_zero, List.setIfInBounds_toArray, List.set_cons_zero, List.set_cons_succ]
    refine' anyI_take R 9 rfl (v := ?_) (by kernel_rfl) (by rfl) (fun V hV => ?hy) HS0.out ?_
    case hy => ((try dsimp only at hV);  obtain ⟨q0, q1, q2, q3, q4, _⟩ := hV; go_simp; try with_reducible rfl)
    try simp only [Act.put, List.getElem_toArray, List.getElem_cons_succ, List.getElem_cons_zero, List.setIfInBounds_toArray, List.set_cons_zero, List.set_cons_succ]
    refine' anyI_take R 10 rfl (v := ?_) (by kernel_rfl) (by rfl) (fun V hV => ?hy) HS0.out ?_
    case hy => ((try dsimp only at hV);  obtain ⟨q0, q1, q2, q3, q4, _⟩ := hV; go_simp; try with_reducible rfl)
    try simp only [Act.put, List.getElem_toArray, List.getElem_cons_succ, List.getElem_cons_zero, List.setIfInBounds_toArray, List.set_cons_zero, List.set_cons_succ]
    refine' anyI_take R 11 rfl (v := ?_) (by kernel_rfl) (by rfl) (fun V hV => ?hy) HS0.out ?_
    case hy => ((try dsimp only at hV);  obtain ⟨q0, q1, q2, q3, q4, _⟩ := hV; go_simp; try with_reducible rfl)
    try simp only [Act.put, List.getElem_toArray, List.getElem_cons_succ, List.getElem_cons_zero, List.setIfInBounds_toArray, List.set_cons_zero, List.set_cons_succ]
    refine' anyI_take R 12 rfl (v := ?_) (by kernel_rfl) (by rfl) (fun V hV => ?hy) HS0.out ?_
    case hy => ((try dsimp only at hV);  obtain ⟨q0, q1, q2, q3, q4, _⟩ := hV; go_simp; try with_reducible rfl)
    try simp only [Act.put, List.getElem_toArray, List.getElem_cons_succ, List.getElem_cons_zero, List.setIfInBounds_toArray, List.set_cons_zero, List.set_cons_succ]
    refine' anyI_take R 13 rfl (v := ?_) (by kernel_rfl) (by rfl) (fun V hV => ?hy) HS0.out ?_
    case hy => ((try dsimp only at hV);  obtain ⟨q0, q1, q2, q3, q4, _⟩ := hV; go_simp; try with_reducible rfl)
    try simp only [Act.put, List.getElem_toArray, List.getElem_cons_succ, List.getElem_cons_zero, List.setIfInBounds_toArray, List.set_cons_zero, List.set_cons_succ]
    refine' anyI_take R 14 rfl (v := ?_) (by kernel_rfl) (by rfl) (fun V hV => ?hy) HS0.out ?_
    case hy => ((try dsimp only at hV);  obtain ⟨q0, q1, q2, q3, q4, _⟩ := hV; go_simp; try with_reducible rfl)
    try simp only [Act.put, List.getElem_toArray, List.getElem_cons_succ, List.getElem_cons_zero, List.setIfInBounds_toArray, List.set_cons_zero, List.set_cons_succ]
    refine' anyI_take R 15 rfl (v := ?_) (by kernel_rfl) (by rfl) (fun V hV => ?hy) HS0.out ?_
    case hy => ((try dsimp only at hV);  obtain ⟨q0, q1, q2, q3, q4, _⟩ := hV; go_simp; try with_reducible rfl)
    try simp only [Act.put, List.getElem_toArray, List.getElem_cons_succ, List.getElem_cons_zero, List.setIfInBounds_toArray, List.set_cons_zero, List.set_cons_succ]
    refine' anyI_take R 16 rfl (v := ?_) (by kernel_rfl) (by rfl) (fun V hV => ?hy) HS0.out ?_
    case hy => ((try dsimp only at hV);  obtain ⟨q0, q1, q2, q3, q4, _⟩ := hV; go_simp; try with_reducible rfl)
    try simp only [Act.put, List.getElem_toArray, List.getElem_cons_succ, List.getElem_cons_zero, List.setIfInBounds_toArray, List.set_cons_zero, List.set_cons_succ]
    refine' anyI_take R 17 rfl (v := ?_) (by kernel_rfl) (by rfl) (fun V hV => ?hy) HS0.out ?_
    case hy => ((try dsimp only at hV);  obtain ⟨q0, q1, q2, q3, q4, _⟩ := hV; go_simp; try with_reducible rfl)
    try simp only [Act.put, List.getElem_toArray, List.getElem_cons_succ, List.getElem_cons_zero, List.setIfInBounds_toArray, List.set_cons_zero, List.set_cons_succ]
    refine' anyI_take R 18 rfl (v := ?_) (by kernel_rfl) (by rfl) (fun V hV => ?hy) HS0.out ?_
    case hy => ((try dsimp only at hV);  obtain ⟨q0, q1, q2, q3, q4, _⟩ := hV; go_simp; try with_reducible rfl)
    try simp only [Act.put, List.getElem_toArray, List.getElem_cons_succ, List.getElem_cons_zero, List.setIfInBounds_toArray, List.set_cons_zero, List.set_cons_succ]
    refine' anyI_take R 19 rfl (v := ?_) (by kernel_rfl) (by rfl) (fun V hV => ?hy) HS0.out ?_
    case hy => ((try dsimp only at hV);  obtain ⟨q0, q1, q2, q3, q4, _⟩ := hV; go_simp; try with_reducible rfl)
    try simp only [Act.put, List.getElem_toArray, List.getElem_cons_succ, List.getElem_cons_zero, List.setIfInBounds_toArray, List.set_cons_zero, List.set_cons_succ]
    refine' anyI_take R 20 rfl (v := ?_) (by kernel_rfl) (by rfl) (fun V hV => ?hy) HS0.out ?_
    case hy => ((try dsimp only at hV);  obtain ⟨q0, q1, q2, q3, q4, _⟩ := hV; go_simp; try with_reducible rfl)
    try simp only [Act.put, List.getElem_toArray, List.getElem_cons_succ, List.getElem_cons_zero, List.setIfInBounds_toArray, List.set_cons_zero, List.set_cons_succ]
    refine' anyI_take R 21 rfl (v := ?_) (by kernel_rfl) (by rfl) (fun V hV => ?hy) HS0.out ?_
    case hy => ((try dsimp only at hV);  obtain ⟨q0, q1, q2, q3, q4, _⟩ := hV; go_simp; try with_reducible rfl)
    try simp only [Act.put, List.getElem_toArray, List.getElem_cons_succ, List.getElem_cons_zero, List.setIfInBounds_toArray, List.set_cons_zero, List.set_cons_succ]
    refine' anyI_take R 22 rfl (v := ?_) (by kernel_rfl) (by rfl) (fun V hV => ?hy) HS0.out ?_
    case hy => ((try dsimp only at hV);  obtain ⟨q0, q1, q2, q3, q4, _⟩ := hV; go_simp; try with_reducible rfl)
    try simp only [Act.put, List.getElem_toArray, List.getElem_cons_succ, List.getElem_cons_zero, List.setIfInBounds_toArray, List.set_cons_zero, List.set_cons_succ]
    refine' anyI_take R 23 rfl (v := ?_) (by kernel_rfl) (by rfl) (fun V hV => ?hy) HS0.out ?_
    case hy => ((try dsimp only at hV);  obtain ⟨q0, q1, q2, q3, q4, _⟩ := hV; go_simp; try with_reducible rfl)
    try simp only [Act.put, List.getElem_toArray, List.getElem_cons_succ, List.getElem_cons_zero, List.setIfInBounds_toArray, List.set_cons_zero, List.set_cons_succ]
    refine' anyI_take R 24 rfl (v := ?_) (by kernel_rfl) (by rfl) (fun V hV => ?hy) HS0.out ?_
    case hy => ((try dsimp only at hV);  obtain ⟨q0, q1, q2, q3, q4, _⟩ := hV; go_simp; try with_reducible rfl)
    try simp only [Act.put, List.getElem_toArray, List.getElem_cons_succ, List.getElem_cons_zero, List.setIfInBounds_toArray, List.set_cons_zero, List.set_cons_succ]
    refine' anyI_take R 25 rfl (v := ?_) (by kernel_rfl) (by rfl) (fun V hV => ?hy) HS0.out ?_
    case hy => ((try dsimp only at hV);  obtain ⟨q0, q1, q2, q3, q4, _⟩ := hV; go_simp; try with_reducible rfl)
    try simp only [Act.put, List.getElem_toArray, List.getElem_cons_succ, List.getElem_cons_zero, List.setIfInBounds_toArray, List.set_cons_zero, List.set_cons_succ]
    refine anyI_one 26 (by kernel_rfl) rfl ?_
    try simp only [List.getElem_toArray, List.getElem_cons_succ, List.getElem_cons_zero]
    refine opE_step ?_
    rw [if_pos (by rfl)]
    go_simp
    go_at_call 11
    refine (wakesLg_any _ (Ht.out.below HS0.out.2.2.2.2.2 Ht.out.pos)).mono ?_
    rintro e wW ⟨rfl, hbW⟩
    replace HS0 := Lib.hid (GrS.later HS0.out hbW)
    clear hbW
    try dsimp only
    refine ⟨HS0.out, ?_⟩
    try simp only [Act.put, List.getElem_toArray, List.getElem_cons_succ, List.getElem_cons_zero, List.setIfInBounds_toArray, List.set_cons_zero, List.set_cons_succ]
    refine' anyI_take R 27 rfl (v := ?_) (by kernel_rfl) (by rfl) (fun V hV => ?hy) HS0.out ?_
    case hy => ((try dsimp only at hV);  obtain ⟨q0, q1, q2, q3, q4, _⟩ := hV; go_simp; try with_reducible rfl)
    try simp only [Act.put, List.getElem_toArray, List.getElem_cons_succ, List.getElem_cons_zero, List.setIfInBounds_toArray, List.set_cons_zero, List.set_cons_succ]
    refine' anyI_take R 28 rfl (v := ?_) (by kernel_rfl) (by rfl) (fun V hV => ?hy) HS0.out ?_
    case hy => ((try dsimp only at hV);  obtain ⟨q0, q1, q2, q3, q4, _⟩ := hV; go_simp; try with_reducible rfl)
    try simp only [Act.put, List.getElem_toArray, List.getElem_cons_succ, List.getElem_cons_zero, List.setIfInBounds_toArray, List.set_cons_zero, List.set_cons_succ]
    refine anyI_tail (by kernel_rfl) ?_
    try simp only [List.drop_succ_cons, List.drop_zero]
    clear R
    go_wp2_with fail
    refine NoPanic.normal ?_
    go_wp2_with fail
    go_ret
    exact ⟨rfl, HS0.out.2.2.2.2.2⟩
end Go.Proofs.YtkbhnbkjpnigkaaDoor
