/- PlanRises walked. -/
import Derived.Test.YtabeadbnoifedaaPlanRisesLoop
set_option linter.unusedVariables false
set_option linter.unusedSimpArgs false
namespace Go.Proofs.Ytabeadbnoifedaa
open Go.RowKit

set_option maxRecDepth 100000 in
set_option maxHeartbeats 3200000 in
theorem planrises (m n : Int) (w : World) (hm : (-9223372036854775808 ≤ m ∧ m ≤ 9223372036854775807)) (hn : (-9223372036854775808 ≤ n ∧ n ≤ 9223372036854775807)) :
    Calls Try.prog 4 #[.int .i64 m, .int .i64 n] w fun e w' => e = .returned (.bool true) ∧ Below w.heap.size w w' := by
  have CP := Lib.hid (fun V => playPair_can m n V hm hn)
  go_enter Try.func4, Try.ntmps4
  go_wp2_with fail
  (with_reducible refine (CP.out _).mono ?_); rintro e w1 ⟨l, d, c, l', d', c', rfl, hcan, hb⟩
  obtain ⟨R, Wn, wa, wb, P⟩ := pn_of hcan
  have S0 := gs2_pair hb l d c l' d' c' 23 23 (0, 0) (0, 0)
  obtain ⟨gb, hgb⟩ : ∃ gb : Nat, w1.heap.size = gb := ⟨_, rfl⟩
  clear CP hcan hb
  have HP := Lib.hid P
  clear P
  have HW := Lib.hid (fun V => HP.out.pwins V)
  have Hwk := Lib.hid (fun V => wakesPlan_any V)
  have Hbd := Lib.hid HP.out.bd
  have hK := HP.out.rows
  have hcK := HP.out.curK
  have hnb := HP.out.n_bd
  have hew := HP.out.ew
  have hew' := HP.out.ew'
  have hwc := HP.out.wc
  have hwc' := HP.out.wc'
  obtain ⟨g1, g2, g3, g4, g5, g6, F⟩ := S0
  go_wp2_with fail
  (with_reducible refine (HW.out _).mono ?_); rintro e wk7 ⟨rfl, hb⟩
  have SK7 := GS2.later (w0 := w) (B := w.heap.size) ⟨g1, g2, g3, g4, g5, g6, F⟩ hb
  clear hb g1 g2 g3 g4 g5 g6 F
  obtain ⟨g1, g2, g3, g4, g5, g6, F⟩ := SK7
  rw [hgb] at *
  have HhK := Lib.hid (And.intro hK (And.intro hcK (And.intro hnb (And.intro hew (And.intro hew' (And.intro hwc hwc'))))))
  clear hK hcK hnb hew hew' hwc hwc'
  go_upto_block 0 with fail
  refine wp_block ?_
  refine pri _ _ _ _ _ _ _ _ _ _ _ _ _ _ _ _ _ _ _ _ _ _ _ _ _ _ _ _ _ _ _ _ _ _ _ _ _ _ _ _ _ _ _ _ _ _ _ _ _ _ _ _ _ _ _ _ _ _ _ _ _ _ _ _ _ _ _ _ _ _ _ _ _ _ _ _ _ _ _ _ _ _ _ _ _ HP.out ⟨by have := HhK.out.1; omega, fun _ => rfl, fun h => absurd h (by omega), fun h => absurd h (by omega), ⟨g1, g2, g3, g4, g5, g6, F⟩⟩ (fun v11 v12 v13 v23 v24 v25 v26 v27 v28 v29 v30 v31 v32 v33 v34 v35 v36 v37 v38 v39 v40 v41 v42 v43 v44 v45 v46 v47 v48 v49 v50 v51 v52 v53 v54 v55 v56 v57 v58 v59 v60 v61 v62 v63 v64 v65 k la sz V2 hI hx => ?_)
  obtain ⟨hk, _, hla, hsz, hS2⟩ := hI
  clear g1 g2 g3 g4 g5 g6 F
  obtain ⟨g1, g2, g3, g4, g5, g6, F⟩ := hS2
  obtain ⟨hK, hcK, hnb, hew, hew', hwc, hwc'⟩ := HhK.out
  have hla2 : la = wa * 16 := by rw [hla (by omega), show (k : Int) - 1 = Wn by omega]; exact hcK
  have hsz2 : sz * Wn = wb * 16 := by rw [hsz (by omega), hnb.2.2]; omega
  have hsz3 := hsz (by omega)
  have hb := Hbd.out
  have hb1 : 0 ≤ sz ∧ sz ≤ 28 := by omega
  have hb2 : 0 ≤ la ∧ la ≤ 112 := by omega
  have hb3 : 0 ≤ sz * Wn ∧ sz * Wn ≤ 112 := by omega
  have hb4 : 3 ≤ d ∧ d ≤ 8 ∧ 5 ≤ l ∧ l ≤ 6 := by have := gOk_bd HP.out.a; omega
  have hb5 : 3 ≤ d' ∧ d' ≤ 8 ∧ 5 ≤ l' ∧ l' ≤ 6 := by have := gOk_bd HP.out.b; omega
  have e1 : (la == (d - l + 4) * 16) = true := by simp; omega
  have e2 : (sz * Wn == (d' - l' + 4) * 16) = true := by simp; omega
  clear hla2 hsz2 hsz3 hew hew' hnb hcK hla hsz hk hx hK hwc hwc'
  go_wp2_with fail
  (with_reducible refine (Hwk.out _).mono ?_); rintro e wk8 ⟨rfl, hb⟩
  have SK8 := GS2.later (w0 := w) (B := w.heap.size) ⟨g1, g2, g3, g4, g5, g6, F⟩ hb
  clear hb g1 g2 g3 g4 g5 g6 F
  obtain ⟨g1, g2, g3, g4, g5, g6, F⟩ := SK8
  go_wp2_with fail
  go_ret
  exact ⟨rfl, F⟩
end Go.Proofs.Ytabeadbnoifedaa
