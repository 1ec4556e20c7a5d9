/- PlanSafe walked. -/
import Derived.Test.YtabeadbnoifedaaPlanSafeLoops
set_option linter.unusedVariables false
set_option linter.unusedSimpArgs false
namespace Go.Proofs.Ytabeadbnoifedaa
open Go.RowKit

set_option maxRecDepth 100000 in
set_option maxHeartbeats 3200000 in
theorem plansafe (m n : Int) (w : World) (hm : (-9223372036854775808 ≤ m ∧ m ≤ 9223372036854775807)) (hn : (-9223372036854775808 ≤ n ∧ n ≤ 9223372036854775807)) :
    Calls Try.prog 6 #[.int .i64 m, .int .i64 n] w fun e w' => e = .returned (.bool true) ∧ Below w.heap.size w w' := by
  have CP := Lib.hid (fun V => playPair_can m n V hm hn)
  go_enter Try.func6, Try.ntmps6
  go_wp2_with fail
  (with_reducible refine (CP.out _).mono ?_); rintro e w1 ⟨l, d, c, l', d', c', rfl, hcan, hb⟩
  obtain ⟨R, Wn, wa, wb, P⟩ := pn_of hcan
  have S0 := gs2_pair hb l d c l' d' c' 23 23 (0, 0) (0, 0)
  obtain ⟨gb, hgb⟩ : ∃ gb : Nat, w1.heap.size = gb := ⟨_, rfl⟩
  clear CP hcan hb
  have HP := Lib.hid P
  clear P
  have HR := Lib.hid (fun V => HP.out.prows V)
  have HW := Lib.hid (fun V => HP.out.pwins V)
  have Hwk := Lib.hid (fun V => wakesPlan_any V)
  have HCa := Lib.hid (fun V => HP.out.rcapA V)
  have HCb := Lib.hid (fun V => HP.out.rcapB V)
  have hR := HP.out.rows
  have HCu := Lib.hid (fun V => HP.out.pcur (k := Wn) (by omega) (Int.le_refl _) V)
  rw [HP.out.curK] at HCu
  have hnb := HP.out.n_bd
  have hWN : Wn * (R * wb) = wb * 16 := by rw [Int.mul_comm, hnb.2.2]; omega
  have HWN := Lib.hid hWN
  have hgc := (gOk_yes HP.out.a).2.2
  have hgc' := (gOk_yes HP.out.b).2.2
  have hwb := HP.out.wc'
  have hwa := HP.out.wc
  have c0 : ¬ c = 0 := by omega
  have c0' : ¬ c' = 0 := by omega
  have r1 : decide (R < 1) = false := decide_eq_false (by omega)
  have r2 : decide (4 < R) = false := decide_eq_false (by omega)
  have r3 : (R * Wn != 16) = false := by rw [hR.2.2.1]; rfl
  have r30 : 0 ≤ R * Wn ∧ R * Wn ≤ 16 := by omega
  have t1 : R.tmod c = 0 := by rw [Int.tmod_eq_emod_of_nonneg (by omega)]; exact hR.2.2.2.1
  have t2 : R.tmod c' = 0 := by rw [Int.tmod_eq_emod_of_nonneg (by omega)]; exact hR.2.2.2.2.1
  have t3 : R % c = 0 := hR.2.2.2.1
  have t4 : R % c' = 0 := hR.2.2.2.2.1
  have HhR := Lib.hid hR
  clear hR hWN hnb hgc hgc'
  obtain ⟨g1, g2, g3, g4, g5, g6, F⟩ := S0
  go_wp2_with fail
  rw [hgb] at *
  rename World => wy0
  generalize (wy0.alloc (Obj.cells #[.int .i64 l, .int .i64 d, .int .i64 c] 23)).alloc (Obj.cells #[.int .i64 l', .int .i64 d', .int .i64 c'] 23) = wy at *
  have SH : GS2 w w.heap.size gb (gb + 1) l d c l' d' c' wy := ⟨g1, g2, g3, g4, g5, g6, F⟩
  clear g1 g2 g3 g4 g5 g6 F
  go_region_held3 (GS2 w w.heap.size gb (gb + 1) l d c l' d' c')
    (first | assumption | exact GS2.drew ‹_›)
    (first
      | (go_at_call 8; (with_reducible refine (HR.out _).mono ?_); rintro e wq0 ⟨rfl, hb0⟩; have SQ0 : GS2 w w.heap.size gb (gb + 1) l d c l' d' c' wq0 := GS2.later (by first | assumption | exact GS2.drew ‹_›) hb0; clear hb0)
      | (go_at_call 9; (with_reducible refine (HW.out _).mono ?_); rintro e wq1 ⟨rfl, hb1⟩; have SQ1 : GS2 w w.heap.size gb (gb + 1) l d c l' d' c' wq1 := GS2.later (by first | assumption | exact GS2.drew ‹_›) hb1; clear hb1))
  obtain ⟨g1, g2, g3, g4, g5, g6, F⟩ := SQ1
  clear SH SQ0
  go_upto_block 0 with fail
  refine wp_block ?_
  refine psA _ _ _ _ _ _ _ _ _ _ _ _ _ _ _ _ _ _ _ _ _ _ _ _ _ _ _ _ _ _ _ _ _ _ _ _ _ _ _ _ _ _ _ _ _ _ _ _ _ _ _ _ _ _ _ _ _ _ _ _ _ _ _ _ _ _ _ _ _ _ _ _ _ _ _ _ _ _ _ _ _ _ _ _ _ _ _ _ _ _ _ _ _ _ _ _ _ _ _ _ _ _ _ _ _ _ _ _ _ _ _ _ _ _ _ _ _ _ _ _ _ _ _ _ _ _ _ _ _ _ _ _ _ _ _ _ _ _ _ _ _ _ _ _ _ HP.out ⟨by have := HhR.out; omega, by simp, ⟨g1, g2, g3, g4, g5, g6, F⟩⟩ (fun v4 v11 v12 v13 v15 v17 v56 v57 v58 v59 v60 v61 v62 v63 v64 v65 v66 v67 v68 v69 v70 v71 v72 v73 v74 v75 v76 v77 v78 v79 v80 v81 v82 v83 v84 v85 v86 v87 v88 v89 v90 v91 v92 v93 v94 v95 v96 v97 v98 v99 v100 v101 v102 v103 v104 v105 v106 v107 v108 v109 v110 v111 v112 v113 v114 v115 v116 v117 v118 v119 v120 v121 v122 v123 v124 v125 v126 v127 v128 v129 v130 v131 v132 v133 k av V2 hI hx => ?_)
  obtain ⟨_, hav, hS2⟩ := hI
  rw [hx, HWN.out] at hav
  subst hav
  clear g1 g2 g3 g4 g5 g6 F hx
  obtain ⟨g1, g2, g3, g4, g5, g6, F⟩ := hS2
  clear r1 r2 r3 r30 t1 t2 t3 t4 c0 c0'
  have w1b : wb * 16 ≤ 112 := by omega
  have w1a : wa * 16 ≤ 112 := by omega
  generalize wb * 16 = cb at *
  generalize wa * 16 = ca at *
  go_wp2_with fail
  have SH : GS2 w w.heap.size gb (gb + 1) l d c l' d' c' V2 := ⟨g1, g2, g3, g4, g5, g6, F⟩
  clear g1 g2 g3 g4 g5 g6 F
  go_region_held3 (GS2 w w.heap.size gb (gb + 1) l d c l' d' c')
    (first | assumption | exact GS2.drew ‹_›)
    (first
      | (go_at_call_of 19 (Value.agg #[.int .i64 l', .int .i64 d', .int .i64 c']); (with_reducible refine (HCb.out _).mono ?_); rintro e wq0 ⟨rfl, hb0⟩; have SQ0 : GS2 w w.heap.size gb (gb + 1) l d c l' d' c' wq0 := GS2.later (by first | assumption | exact GS2.drew ‹_›) hb0; clear hb0)
      | (go_at_call 11; (with_reducible refine (HCu.out _).mono ?_); rintro e wq1 ⟨rfl, hb1⟩; have SQ1 : GS2 w w.heap.size gb (gb + 1) l d c l' d' c' wq1 := GS2.later (by first | assumption | exact GS2.drew ‹_›) hb1; clear hb1)
      | (go_at_call_of 19 (Value.agg #[.int .i64 l, .int .i64 d, .int .i64 c]); (with_reducible refine (HCa.out _).mono ?_); rintro e wq2 ⟨rfl, hb2⟩; have SQ2 : GS2 w w.heap.size gb (gb + 1) l d c l' d' c' wq2 := GS2.later (by first | assumption | exact GS2.drew ‹_›) hb2; clear hb2)
      | (go_at_call 12; (with_reducible refine (Hwk.out _).mono ?_); rintro e wq3 ⟨rfl, hb3⟩; have SQ3 : GS2 w w.heap.size gb (gb + 1) l d c l' d' c' wq3 := GS2.later (by first | assumption | exact GS2.drew ‹_›) hb3; clear hb3))
  all_goals
    go_wp2_with fail
    go_ret
    exact ⟨rfl, SQ3.2.2.2.2.2.2⟩
end Go.Proofs.Ytabeadbnoifedaa
