/- PlanCovers walked. -/
import Derived.Test.YtabeadbnoifedaaPlanCoversLoops
set_option linter.unusedVariables false
set_option linter.unusedSimpArgs false
namespace Go.Proofs.Ytabeadbnoifedaa
open Go.RowKit

set_option maxRecDepth 100000 in
set_option maxHeartbeats 3200000 in
theorem plancovers (m n : Int) (w : World) (hm : (-9223372036854775808 ≤ m ∧ m ≤ 9223372036854775807)) (hn : (-9223372036854775808 ≤ n ∧ n ≤ 9223372036854775807)) :
    Calls Try.prog 7 #[.int .i64 m, .int .i64 n] w fun e w' => e = .returned (.bool true) ∧ Below w.heap.size w w' := by
  have CP := Lib.hid (fun V => playPair_can m n V hm hn)
  go_enter Try.func7, Try.ntmps7
  go_wp2_with fail
  (with_reducible refine (CP.out _).mono ?_); rintro e w1 ⟨l, d, c, l', d', c', rfl, hcan, hb⟩
  obtain ⟨R, Wn, wa, wb, P⟩ := pn_of hcan
  have S0 := gs2_pair hb l d c l' d' c' 23 23 (0, 0) (0, 0)
  obtain ⟨gb, hgb⟩ : ∃ gb : Nat, w1.heap.size = gb := ⟨_, rfl⟩
  clear CP hcan hb
  have HP := Lib.hid P
  clear P
  have HR := Lib.hid (fun V => HP.out.prows V)
  have Hwk := Lib.hid (fun V => wakesPlan_any V)
  have hR := HP.out.rows
  have hR4 : R ≤ 16 := by omega
  have e1 : decide (R ≤ 16) = true := decide_eq_true hR4
  clear hR hR4
  obtain ⟨g1, g2, g3, g4, g5, g6, F⟩ := S0
  go_wp2_with fail
  (with_reducible refine (HR.out _).mono ?_); rintro e wk8 ⟨rfl, hb⟩
  have SK8 := GS2.later (w0 := w) (B := w.heap.size) ⟨g1, g2, g3, g4, g5, g6, F⟩ hb
  clear hb g1 g2 g3 g4 g5 g6 F
  obtain ⟨g1, g2, g3, g4, g5, g6, F⟩ := SK8
  rw [hgb] at *
  go_upto_block 0 with fail
  refine wp_block ?_
  refine pcA _ _ _ _ _ _ _ _ _ _ _ _ _ _ _ _ _ _ _ _ _ _ _ _ _ _ _ _ _ _ _ _ _ _ _ _ _ _ _ _ _ _ _ _ _ _ _ _ _ _ _ _ _ _ _ _ _ _ _ _ _ _ _ _ _ _ _ _ _ _ _ _ _ _ _ _ _ _ _ _ _ _ _ _ _ _ _ _ HP.out ⟨by omega, ⟨g1, g2, g3, g4, g5, g6, F⟩⟩ (fun v9 v10 v11 v12 v13 v14 v15 v16 v26 v27 v28 v29 v30 v31 v32 v33 v34 v35 v36 v37 v38 v39 v40 v41 v42 v43 v44 v45 v46 v47 v48 v49 v50 v51 v52 v53 v54 v55 v56 v57 v58 v59 v60 v61 v62 v63 v64 v65 v66 v67 v68 v69 v70 v71 v72 v73 v74 v75 v76 v77 v78 v79 v80 v81 v82 v83 v84 v85 v86 k V2 hI hx => ?_)
  obtain ⟨_, hS2⟩ := hI
  clear g1 g2 g3 g4 g5 g6 F
  obtain ⟨g1, g2, g3, g4, g5, g6, F⟩ := hS2
  go_wp2_with fail
  (with_reducible refine (Hwk.out _).mono ?_); rintro e wk9 ⟨rfl, hb⟩
  have SK9 := GS2.later (w0 := w) (B := w.heap.size) ⟨g1, g2, g3, g4, g5, g6, F⟩ hb
  clear hb g1 g2 g3 g4 g5 g6 F
  obtain ⟨g1, g2, g3, g4, g5, g6, F⟩ := SK9
  go_wp2_with fail
  go_ret
  exact ⟨rfl, F⟩
end Go.Proofs.Ytabeadbnoifedaa
