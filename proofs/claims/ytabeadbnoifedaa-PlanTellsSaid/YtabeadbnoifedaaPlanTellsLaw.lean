/- PlanTells walked. -/
import Derived.Test.YtabeadbnoifedaaPlanTellsLoop
import Derived.Test.YtabeadbnoifedaaPlayGood
set_option linter.unusedVariables false
set_option linter.unusedSimpArgs false
namespace Go.Proofs.Ytabeadbnoifedaa
open Go.RowKit

/-- Two boxes of some geometries. -/
def TP2 (w : World) (gb : Nat) (W : World) : Prop := ∃ l d c l' d' c' : Int, (-9223372036854775808 ≤ l ∧ l ≤ 9223372036854775807) ∧ (-9223372036854775808 ≤ d ∧ d ≤ 9223372036854775807) ∧ (-9223372036854775808 ≤ c ∧ c ≤ 9223372036854775807) ∧ (-9223372036854775808 ≤ l' ∧ l' ≤ 9223372036854775807) ∧ (-9223372036854775808 ≤ d' ∧ d' ≤ 9223372036854775807) ∧ (-9223372036854775808 ≤ c' ∧ c' ≤ 9223372036854775807) ∧ GS2 w w.heap.size gb (gb + 1) l d c l' d' c' W
set_option maxRecDepth 100000 in
set_option maxHeartbeats 3200000 in
theorem plantells (m n k : Int) (pair : Bool) (w : World) (hm : (-9223372036854775808 ≤ m ∧ m ≤ 9223372036854775807)) (hn : (-9223372036854775808 ≤ n ∧ n ≤ 9223372036854775807)) (hk : (-9223372036854775808 ≤ k ∧ k ≤ 9223372036854775807)) :
    Calls Try.prog 5 #[.int .i64 m, .int .i64 n, .int .i64 k, .bool pair] w fun e w' => e = .returned (.bool true) ∧ Below w.heap.size w w' := by
  have HM := Lib.hid (fun W => playGeom_any m W hm)
  have HN := Lib.hid (fun W => playGeom_any n W hn)
  have Hb := Lib.hid (And.intro (pg_bd m) (pg_bd n))
  have CP := Lib.hid (fun V => playPair_can m n V hm hn)
  generalize pgL m = L at HM Hb
  generalize pgD m = D at HM Hb
  generalize pgC m = C at HM Hb
  generalize pgL n = L' at HN Hb
  generalize pgD n = D' at HN Hb
  generalize pgC n = C' at HN Hb
  go_enter Try.func5, Try.ntmps5
  go_wp2_with fail
  (with_reducible refine (HM.out _).mono ?_); rintro e w1 ⟨rfl, hb1⟩
  go_wp2_with fail
  (with_reducible refine (HN.out _).mono ?_); rintro e w2 ⟨rfl, hb2⟩
  have hb := hb1.trans (hb2.mono hb1.size)
  have S0 := gs2_pair hb L D C L' D' C' 23 23 (0, 0) (0, 0)
  have hsz : w.heap.size ≤ w2.heap.size := hb.size
  clear hb hb1 hb2 HM HN
  have O1 := Lib.hid (show ((w2.alloc (Obj.cells #[.int .i64 L, .int .i64 D, .int .i64 C] 23)).alloc (Obj.cells #[.int .i64 L', .int .i64 D', .int .i64 C'] 23)).heap[w2.heap.size]? = some (Obj.cells #[.int .i64 L, .int .i64 D, .int .i64 C] 23 (0, 0)) from (hp_old _ _ _ (by simp)).trans (hp_new _ _ _ rfl))
  have O2 := Lib.hid (show ((w2.alloc (Obj.cells #[.int .i64 L, .int .i64 D, .int .i64 C] 23)).alloc (Obj.cells #[.int .i64 L', .int .i64 D', .int .i64 C'] 23)).heap[w2.heap.size + 1]? = some (Obj.cells #[.int .i64 L', .int .i64 D', .int .i64 C'] 23 (0, 0)) from hp_new _ _ _ (by simp))
  have Z0 := Lib.hid (show w2.heap.size + 1 < ((w2.alloc (Obj.cells #[.int .i64 L, .int .i64 D, .int .i64 C] 23)).alloc (Obj.cells #[.int .i64 L', .int .i64 D', .int .i64 C'] 23)).heap.size by simp)
  go_upto_if 24 with fail
  generalize ((w2.alloc (Obj.cells #[.int .i64 L, .int .i64 D, .int .i64 C] 23)).alloc (Obj.cells #[.int .i64 L', .int .i64 D', .int .i64 C'] 23)) = wx at *
  generalize w2.heap.size = gb at *
  go_cut [24] (fun _ W => TP2 w gb W)
  case first =>
    cases pair
    · go_wp2_with fail
      go_meet
      have hB := Hb.out
      exact ⟨L, D, C, L', D', C', by omega, by omega, by omega, by omega, by omega, by omega, S0⟩
    · go_wp2_with fail
      (with_reducible refine (CP.out _).mono ?_); rintro e w3 ⟨l, d, c, l', d', c', rfl, hcan, hb⟩
      obtain ⟨Rr, Kk, wa, wb, P⟩ := pn_of hcan
      have hB := P.bd
      have S3 := S0.later hb
      have q1 := (hb.block _ (Nat.lt_of_succ_lt Z0.out)).trans O1.out
      have q2 := (hb.block _ Z0.out).trans O2.out
      have f1 := frozen_row0 q1
      have f2 := frozen_row0 q2
      have hne : ¬ gb + 1 = gb := by omega
      have T := Lib.hid (gs2_set S3 (by omega) hsz (by omega) l d c l' d' c')
      obtain ⟨g1, g2, g3, g4, g5, g6, F⟩ := S3
      clear hcan hb P S0 O1 O2 q1 q2
      go_wp2_with fail
      go_meet
      exact ⟨l, d, c, l', d', c', hB.1, hB.2.1, hB.2.2.1, hB.2.2.2.1, hB.2.2.2.2.1, hB.2.2.2.2.2, T.out⟩
  case rest =>
    clear S0 O1 O2 Z0 Hb CP hm hn
    obtain ⟨l, d, c, l', d', c', hl, hd, hc, hl', hd', hc', S1⟩ := hcut
    have A1 := Lib.hid (fun W => planRows_any l d c l' d' c' W hl hd hc hl' hd' hc')
    have A2 := Lib.hid (fun W => refRows_any l d c l' d' c' W hl hd hc hl' hd' hc')
    have A3 := Lib.hid (fun W => planWindows_any l d c l' d' c' W hl hd hc hl' hd' hc')
    have A4 := Lib.hid (fun W => refWindows_any l d c l' d' c' W hl hd hc hl' hd' hc')
    have Hwk := Lib.hid (fun W => wakesPlan_any W)
    generalize pnR l d c l' d' c' = R at A1 A2
    generalize pnW l d c l' d' c' = Wn at A3 A4
    rename World => wy
    obtain ⟨g1, g2, g3, g4, g5, g6, F⟩ := S1
    go_wp2_with fail
    have SH : GS2 w w.heap.size gb (gb + 1) l d c l' d' c' wy := ⟨g1, g2, g3, g4, g5, g6, F⟩
    clear g1 g2 g3 g4 g5 g6 F
    go_region_held3 (GS2 w w.heap.size gb (gb + 1) l d c l' d' c')
      (first | assumption | exact GS2.drew ‹_›)
      (first
        | (go_at_call 8; (with_reducible refine (A1.out _).mono ?_); rintro e wq0 ⟨rfl, hb0⟩; have SQ0 : GS2 w w.heap.size gb (gb + 1) l d c l' d' c' wq0 := GS2.later (by first | assumption | exact GS2.drew ‹_›) hb0; clear hb0)
        | (go_at_call 15; (with_reducible refine (A2.out _).mono ?_); rintro e wq1 ⟨rfl, hb1⟩; have SQ1 : GS2 w w.heap.size gb (gb + 1) l d c l' d' c' wq1 := GS2.later (by first | assumption | exact GS2.drew ‹_›) hb1; clear hb1)
        | (go_at_call 9; (with_reducible refine (A3.out _).mono ?_); rintro e wq2 ⟨rfl, hb2⟩; have SQ2 : GS2 w w.heap.size gb (gb + 1) l d c l' d' c' wq2 := GS2.later (by first | assumption | exact GS2.drew ‹_›) hb2; clear hb2)
        | (go_at_call 16; (with_reducible refine (A4.out _).mono ?_); rintro e wq3 ⟨rfl, hb3⟩; have SQ3 : GS2 w w.heap.size gb (gb + 1) l d c l' d' c' wq3 := GS2.later (by first | assumption | exact GS2.drew ‹_›) hb3; clear hb3))
    all_goals
      obtain ⟨g1, g2, g3, g4, g5, g6, F⟩ := SQ3
      clear SH SQ0 SQ1 SQ2
      go_upto_block 0 with fail
      refine wp_block ?_
      refine ptl _ _ _ _ _ _ _ _ _ _ _ _ _ _ _ _ _ _ _ _ _ _ _ _ _ _ _ _ _ _ _ _ _ _ _ _ _ _ _ _ _ _ _ _ _ _ _ _ _ _ _ _ _ _ _ _ _ _ _ _ _ _ _ _ _ _ _ _ _ _ _ _ _ _ _ _ _ _ _ _ _ _ _ _ _ _ _ _ _ _ _ _ _ _ _ _ _ _ _ _ _ _ _ _ _ _ _ _ _ _ _ _ _ _ _ _ _ hl hd hc hl' hd' hc' ⟨by omega, by omega, ⟨g1, g2, g3, g4, g5, g6, F⟩⟩ (fun v8 v12 v13 v14 v15 v47 v48 v49 v50 v51 v52 v53 v54 v55 v56 v57 v58 v59 v60 v61 v62 v63 v64 v65 v66 v67 v68 v69 v70 v71 v72 v73 v74 v75 v76 v77 v78 v79 v80 v81 v82 v83 i V2 hI hx => ?_)
      obtain ⟨_, _, hS2⟩ := hI
      clear g1 g2 g3 g4 g5 g6 F
      obtain ⟨g1, g2, g3, g4, g5, g6, F⟩ := hS2
      have C1 := Lib.hid (fun W => planSpan_any l d c l' d' c' k W hl hd hc hl' hd' hc' hk)
      have C2 := Lib.hid (fun W => refSpan_any l d c l' d' c' k W hl hd hc hl' hd' hc' hk)
      have C3 := Lib.hid (fun W => planCursor_any l d c l' d' c' k W hl hd hc hl' hd' hc' hk)
      have C4 := Lib.hid (fun W => refCursor_any l d c l' d' c' k W hl hd hc hl' hd' hc' hk)
      generalize pnF l d c l' d' c' k = x at C1 C2
      generalize pnT l d c l' d' c' k = y at C1 C2
      generalize pnC l d c l' d' c' k = z at C3 C4
      clear hl hd hc hl' hd' hc'
      go_wp2_with fail
      (with_reducible refine (C1.out _).mono ?_); rintro e wk3 ⟨rfl, hb⟩
      have SK3 := GS2.later (w0 := w) (B := w.heap.size) ⟨g1, g2, g3, g4, g5, g6, F⟩ hb
      clear hb g1 g2 g3 g4 g5 g6 F
      obtain ⟨g1, g2, g3, g4, g5, g6, F⟩ := SK3
      go_wp2_with fail
      (with_reducible refine (C2.out _).mono ?_); rintro e wk4 ⟨rfl, hb⟩
      have SK4 := GS2.later (w0 := w) (B := w.heap.size) ⟨g1, g2, g3, g4, g5, g6, F⟩ hb
      clear hb g1 g2 g3 g4 g5 g6 F
      obtain ⟨g1, g2, g3, g4, g5, g6, F⟩ := SK4
      go_wp2_with fail
      rename World => wv
      have SH : GS2 w w.heap.size gb (gb + 1) l d c l' d' c' wv := ⟨g1, g2, g3, g4, g5, g6, F⟩
      clear g1 g2 g3 g4 g5 g6 F
      go_region_held3 (GS2 w w.heap.size gb (gb + 1) l d c l' d' c')
        (first | assumption | exact GS2.drew ‹_›)
        (first
          | (go_at_call 11; (with_reducible refine (C3.out _).mono ?_); rintro e wq0 ⟨rfl, hb0⟩; have SQ0 : GS2 w w.heap.size gb (gb + 1) l d c l' d' c' wq0 := GS2.later (by first | assumption | exact GS2.drew ‹_›) hb0; clear hb0)
          | (go_at_call 18; (with_reducible refine (C4.out _).mono ?_); rintro e wq1 ⟨rfl, hb1⟩; have SQ1 : GS2 w w.heap.size gb (gb + 1) l d c l' d' c' wq1 := GS2.later (by first | assumption | exact GS2.drew ‹_›) hb1; clear hb1)
          | (go_at_call 12; (with_reducible refine (Hwk.out _).mono ?_); rintro e wq2 ⟨rfl, hb2⟩; have SQ2 : GS2 w w.heap.size gb (gb + 1) l d c l' d' c' wq2 := GS2.later (by first | assumption | exact GS2.drew ‹_›) hb2; clear hb2))
      all_goals
        go_wp2_with fail
        go_ret
        exact ⟨rfl, SQ2.2.2.2.2.2.2⟩
end Go.Proofs.Ytabeadbnoifedaa
