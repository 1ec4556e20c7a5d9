/- GeomTells walked. -/
import Derived.Test.YtpbambmjkhadgaaRefCan
import Derived.Test.YtpbambmjkhadgaaPlayGood
import Derived.Test.YtpbambmjkhadgaaOrdSkip
set_option linter.unusedVariables false
set_option linter.unusedSimpArgs false
namespace Go.Proofs.Ytpbambmjkhadgaa
open Go.RowKit

theorem wakesGeom_any (w : World) : Calls Try.prog 11 #[] w fun e w' => e = .returned (.bool true) ∧ Below w.heap.size w w' := by
  have H := Lib.hid (show gCap 5 3 1 = 32 by decide)
  go_enter Try.func11, Try.ntmps11
  go_wp2_with fail
  (with_reducible refine (capacity_any 5 3 1 _ (by omega) (by omega) (by omega)).mono ?_); rintro e w1 ⟨rfl, hb⟩
  rw [H.out]
  go_wp2_with fail
  go_ret
  exact ⟨rfl, hb⟩
theorem gat_set {W : World} {b : Nat} {x0 x1 x2 : Value} {l d c : Int} (h : W.cell? ⟨b, 0, none⟩ = some x0 ∧ W.cell? ⟨b, 1, none⟩ = some x1 ∧ W.cell? ⟨b, 2, none⟩ = some x2) :
    GAt (((W.setCell ⟨b, 0, none⟩ (.int .i64 l)).setCell ⟨b, 1, none⟩ (.int .i64 d)).setCell ⟨b, 2, none⟩ (.int .i64 c)) b l d c := by
  obtain ⟨h0, h1, h2⟩ := h
  refine ⟨?_, ?_, ?_⟩ <;> simp [go_sem, h0, h1, h2]
theorem gat_far {W : World} {b b' : Nat} {l d c : Int} {v0 v1 v2 : Value} (h : GAt W b l d c) (hne : b' ≠ b) : GAt (((W.setCell ⟨b', 0, none⟩ v0).setCell ⟨b', 1, none⟩ v1).setCell ⟨b', 2, none⟩ v2) b l d c := by
  obtain ⟨h0, h1, h2⟩ := h
  refine ⟨?_, ?_, ?_⟩ <;> (rw [World.cell?_setCell_far _ _ _ _ (by exact hne), World.cell?_setCell_far _ _ _ _ (by exact hne), World.cell?_setCell_far _ _ _ _ (by exact hne)]; assumption)
theorem gs2_set {w0 W : World} {B b b' : Nat} {l d c l' d' c' : Int} (h : GS2 w0 B b b' l d c l' d' c' W) (hne : b ≠ b') (h1 : B ≤ b) (h2 : B ≤ b') (L D C L' D' C' : Int) :
    GS2 w0 B b b' L D C L' D' C' ((((((W.setCell ⟨b, 0, none⟩ (.int .i64 L)).setCell ⟨b, 1, none⟩ (.int .i64 D)).setCell ⟨b, 2, none⟩ (.int .i64 C)).setCell ⟨b', 0, none⟩ (.int .i64 L')).setCell ⟨b', 1, none⟩ (.int .i64 D')).setCell ⟨b', 2, none⟩ (.int .i64 C')) := by
  obtain ⟨g1, g2, g3, k1, k2, k3, F⟩ := h
  obtain ⟨a1, a2, a3⟩ := gat_far (v0 := .int .i64 L') (v1 := .int .i64 D') (v2 := .int .i64 C') (gat_set (l := L) (d := D) (c := C) ⟨g1, g2, g3⟩) (Ne.symm hne)
  have K := gat_far (v0 := .int .i64 L) (v1 := .int .i64 D) (v2 := .int .i64 C) (show GAt W b' l' d' c' from ⟨k1, k2, k3⟩) hne
  obtain ⟨c1, c2, c3⟩ := gat_set (l := L') (d := D') (c := C') K
  exact ⟨a1, a2, a3, c1, c2, c3, (((((F.setCell (by exact h1) _).setCell (by exact h1) _).setCell (by exact h1) _).setCell (by exact h2) _).setCell (by exact h2) _).setCell (by exact h2) _⟩
/-- Two boxes of some geometries. -/
def TL (w W : World) : Prop := ∃ l d c l' d' c' : Int, (-9223372036854775808 ≤ l ∧ l ≤ 9223372036854775807) ∧ (-9223372036854775808 ≤ d ∧ d ≤ 9223372036854775807) ∧ (-9223372036854775808 ≤ c ∧ c ≤ 9223372036854775807) ∧
  (-9223372036854775808 ≤ l' ∧ l' ≤ 9223372036854775807) ∧ (-9223372036854775808 ≤ d' ∧ d' ≤ 9223372036854775807) ∧ (-9223372036854775808 ≤ c' ∧ c' ≤ 9223372036854775807) ∧ GS2 w w.heap.size w.heap.size (w.heap.size + 1) l d c l' d' c' W
set_option maxRecDepth 100000 in
set_option maxHeartbeats 3200000 in
theorem geomtells (l d c l' d' c' m n : Int) (raw : Bool) (w : World) (hl : -9223372036854775808 ≤ l ∧ l ≤ 9223372036854775807) (hd : -9223372036854775808 ≤ d ∧ d ≤ 9223372036854775807) (hc : -9223372036854775808 ≤ c ∧ c ≤ 9223372036854775807) (hl' : -9223372036854775808 ≤ l' ∧ l' ≤ 9223372036854775807) (hd' : -9223372036854775808 ≤ d' ∧ d' ≤ 9223372036854775807) (hc' : -9223372036854775808 ≤ c' ∧ c' ≤ 9223372036854775807) (hm : -9223372036854775808 ≤ m ∧ m ≤ 9223372036854775807) (hn : -9223372036854775808 ≤ n ∧ n ≤ 9223372036854775807) :
    Calls Try.prog 4 #[.agg #[.int .i64 l, .int .i64 d, .int .i64 c], .agg #[.int .i64 l', .int .i64 d', .int .i64 c'], .int .i64 m, .int .i64 n, .bool raw] w fun e w' => e = .returned (.bool true) ∧ Below w.heap.size w w' := by
  have S0 := gs2_start w l d c l' d' c' 25 25 (0, 0) (0, 0)
  go_enter Try.func4, Try.ntmps4
  go_upto_if 13 with fail
  go_cut [13] (fun _ W => TL w W)
  case first =>
    cases raw
    · have HM := Lib.hid (fun W => playGeom_any m W hm)
      have HN := Lib.hid (fun W => playGeom_any n W hn)
      have Hb := Lib.hid (And.intro (pg_bd m) (pg_bd n))
      generalize pgL m = L at HM Hb
      generalize pgD m = D at HM Hb
      generalize pgC m = C at HM Hb
      generalize pgL n = L' at HN Hb
      generalize pgD n = D' at HN Hb
      generalize pgC n = C' at HN Hb
      go_wp2_with fail
      (with_reducible refine (HM.out _).mono ?_); rintro e w1 ⟨rfl, hb⟩
      have S1 := S0.later hb
      obtain ⟨hc1, hf1⟩ := bcells hb
      have hz1 : w.heap.size + 1 < w1.heap.size := by have := hb.size; simp at this; omega
      have hz0 : w.heap.size < w1.heap.size := by omega
      clear hb S0
      go_wp2_with fail
      (with_reducible refine (HN.out _).mono ?_); rintro e w2 ⟨rfl, hb⟩
      have S2 := S1.later hb
      obtain ⟨hc2, hf2⟩ := bcells hb
      clear hb S1
      have T := gs2_set S2 (by omega) (by omega) (by omega) L D C L' D' C'
      obtain ⟨g1, g2, g3, g4, g5, g6, F⟩ := S2
      go_wp2_with fail
      go_meet
      have hB := Hb.out
      exact ⟨L, D, C, L', D', C', by omega, by omega, by omega, by omega, by omega, by omega, T⟩
    · go_wp2_with fail
      go_meet
      exact ⟨l, d, c, l', d', c', hl, hd, hc, hl', hd', hc', S0⟩
  case rest =>
    clear S0 hl hd hc hl' hd' hc' hm hn
    obtain ⟨l, d, c, l', d', c', hl, hd, hc, hl', hd', hc', S1⟩ := hcut
    have C0 := Lib.hid (fun W => refCheck_any l d c W hl hd hc)
    have C1 := Lib.hid (fun W => check_any l d c W hl hd hc)
    have C2 := Lib.hid (fun W => budget_any l d c W hl hd hc)
    have C3 := Lib.hid (fun W => refBudget_any l d c W hl hd hc)
    have C4 := Lib.hid (fun W => width_any l d c W hl hd hc)
    have C5 := Lib.hid (fun W => refWidth_any l d c W hl hd hc)
    have C6 := Lib.hid (fun W => capacity_any l d c W hl hd hc)
    have C7 := Lib.hid (fun W => refCapacity_any l d c W hl hd hc)
    have C8 := Lib.hid (fun W => can_any l d c l' d' c' W hl hd hc hl' hd' hc')
    have C9 := Lib.hid (fun W => refCan_any l d c l' d' c' W hl hd hc hl' hd' hc')
    have C10 := Lib.hid (fun W => wakesGeom_any W)
    have HX := Lib.hid (show gErr l d c = if gOk l d c = true then 0 else 1 from rfl)
    clear hl hd hc hl' hd' hc'
    generalize gErr l d c = X at C1 HX
    generalize gOk l d c = ok at C0 HX
    generalize gBud l d c = Bd at C2 C3
    generalize gWid l d c = Wd at C4 C5
    generalize gCap l d c = Cp at C6 C7
    generalize gCan l d c l' d' c' = Cn at C8 C9
    obtain ⟨g1, g2, g3, g4, g5, g6, F⟩ := S1
    go_wp2_with fail
    (with_reducible refine (C0.out _).mono ?_); rintro e w3 ⟨rfl, hb⟩
    have S3 := GS2.later ⟨g1, g2, g3, g4, g5, g6, F⟩ hb
    clear hb g1 g2 g3 g4 g5 g6 F
    go_upto_if 20 with fail
    go_cut [11] (fun v W => v = .int .i64 X ∧ GS2 w w.heap.size w.heap.size (w.heap.size + 1) l d c l' d' c' W)
    case first =>
      cases ok
      · obtain rfl : X = 1 := HX.out
        go_wp2_with fail
        go_meet
        exact ⟨rfl, S3⟩
      · obtain rfl : X = 0 := HX.out
        go_wp2_with fail
        go_meet
        exact ⟨rfl, S3⟩
    case rest =>
      clear S3
      obtain ⟨rfl, S4⟩ := hcut
      rename World => wz
      go_wp2_with fail
      refine wp_region_noPanic (region_ord 38 [] (fun V => GS2 w w.heap.size w.heap.size (w.heap.size + 1) l d c l' d' c' V) (by kernel_rfl) (by kernel_rfl) (fun _ _ _ _ _ h => h) fun R => ?_)
      change anyI _ _ _ _ _ _ 38 _ _ wz.drew
      have HS0 := Lib.hid (show (fun V => GS2 w w.heap.size w.heap.size (w.heap.size + 1) l d c l' d' c' V) wz.drew from GS2.drew S4)
      refine' anyI_take R 0 rfl (v := ?_) (by kernel_rfl) (by rfl) (fun V hV => ?hy) HS0.out ?_
      case hy => ((try dsimp only at hV);  obtain ⟨q1, q2, q3, q4, q5, q6, _⟩ := hV; go_simp; try with_reducible rfl)
      try simp only [Act.put, List.getElem_toArray, List.getElem_cons_succ, List.getElem_cons_zero, List.setIfInBounds_toArray, List.set_cons_zero, List.set_cons_succ]
      refine' anyI_take R 2 rfl (v := ?_) (by kernel_rfl) (by rfl) (fun V hV => ?hy) HS0.out ?_
      case hy => ((try dsimp only at hV);  obtain ⟨q1, q2, q3, q4, q5, q6, _⟩ := hV; go_simp; try with_reducible rfl)
      try simp only [Act.put, List.getElem_toArray, List.getElem_cons_succ, List.getElem_cons_zero, List.setIfInBounds_toArray, List.set_cons_zero, List.set_cons_succ]
      refine anyI_one 1 (by kernel_rfl) rfl ?_
      try simp only [List.getElem_toArray, List.getElem_cons_succ, List.getElem_cons_zero]
      refine opE_step ?_
      rw [if_pos (by rfl)]
      go_simp
      go_at_call 6
      refine (C1.out _).mono ?_
      rintro e w1 ⟨rfl, hb⟩
      replace HS0 := Lib.hid (GS2.later HS0.out hb)
      clear hb
      dsimp only
      refine ⟨HS0.out, ?_⟩
      try simp only [Act.put, List.getElem_toArray, List.getElem_cons_succ, List.getElem_cons_zero, List.setIfInBounds_toArray, List.set_cons_zero, List.set_cons_succ]
      refine' anyI_take R 3 rfl (v := ?_) (by kernel_rfl) (by rfl) (fun V hV => ?hy) HS0.out ?_
      case hy => ((try dsimp only at hV);  obtain ⟨q1, q2, q3, q4, q5, q6, _⟩ := hV; go_simp; try with_reducible rfl)
      try simp only [Act.put, List.getElem_toArray, List.getElem_cons_succ, List.getElem_cons_zero, List.setIfInBounds_toArray, List.set_cons_zero, List.set_cons_succ]
      refine' anyI_take R 4 rfl (v := ?_) (by kernel_rfl) (by rfl) (fun V hV => ?hy) HS0.out ?_
      case hy => ((try dsimp only at hV);  obtain ⟨q1, q2, q3, q4, q5, q6, _⟩ := hV; go_simp; try with_reducible rfl)
      try simp only [Act.put, List.getElem_toArray, List.getElem_cons_succ, List.getElem_cons_zero, List.setIfInBounds_toArray, List.set_cons_zero, List.set_cons_succ]
      refine' anyI_take R 5 rfl (v := ?_) (by kernel_rfl) (by rfl) (fun V hV => ?hy) HS0.out ?_
      case hy => ((try dsimp only at hV);  obtain ⟨q1, q2, q3, q4, q5, q6, _⟩ := hV; go_simp; try with_reducible rfl)
      try simp only [Act.put, List.getElem_toArray, List.getElem_cons_succ, List.getElem_cons_zero, List.setIfInBounds_toArray, List.set_cons_zero, List.set_cons_succ]
      refine' anyI_take R 7 rfl (v := ?_) (by kernel_rfl) (by rfl) (fun V hV => ?hy) HS0.out ?_
      case hy => ((try dsimp only at hV);  obtain ⟨q1, q2, q3, q4, q5, q6, _⟩ := hV; go_simp; try with_reducible rfl)
      try simp only [Act.put, List.getElem_toArray, List.getElem_cons_succ, List.getElem_cons_zero, List.setIfInBounds_toArray, List.set_cons_zero, List.set_cons_succ]
      refine anyI_one 6 (by kernel_rfl) rfl ?_
      try simp only [List.getElem_toArray, List.getElem_cons_succ, List.getElem_cons_zero]
      refine opE_step ?_
      rw [if_pos (by rfl)]
      go_simp
      go_at_call 7
      refine (C2.out _).mono ?_
      rintro e w6 ⟨rfl, hb⟩
      replace HS0 := Lib.hid (GS2.later HS0.out hb)
      clear hb
      dsimp only
      refine ⟨HS0.out, ?_⟩
      try simp only [Act.put, List.getElem_toArray, List.getElem_cons_succ, List.getElem_cons_zero, List.setIfInBounds_toArray, List.set_cons_zero, List.set_cons_succ]
      refine anyI_one 8 (by kernel_rfl) rfl ?_
      try simp only [List.getElem_toArray, List.getElem_cons_succ, List.getElem_cons_zero]
      refine opE_step ?_
      rw [if_pos (by rfl)]
      go_simp
      go_at_call 14
      refine (C3.out _).mono ?_
      rintro e w8 ⟨rfl, hb⟩
      replace HS0 := Lib.hid (GS2.later HS0.out hb)
      clear hb
      dsimp only
      refine ⟨HS0.out, ?_⟩
      try simp only [Act.put, List.getElem_toArray, List.getElem_cons_succ, List.getElem_cons_zero, List.setIfInBounds_toArray, List.set_cons_zero, List.set_cons_succ]
      refine' anyI_take R 9 rfl (v := ?_) (by kernel_rfl) (by rfl) (fun V hV => ?hy) HS0.out ?_
      case hy => ((try dsimp only at hV);  obtain ⟨q1, q2, q3, q4, q5, q6, _⟩ := hV; go_simp; try with_reducible rfl)
      try simp only [Act.put, List.getElem_toArray, List.getElem_cons_succ, List.getElem_cons_zero, List.setIfInBounds_toArray, List.set_cons_zero, List.set_cons_succ]
      refine' anyI_take R 10 rfl (v := ?_) (by kernel_rfl) (by rfl) (fun V hV => ?hy) HS0.out ?_
      case hy => ((try dsimp only at hV);  obtain ⟨q1, q2, q3, q4, q5, q6, _⟩ := hV; go_simp; try with_reducible rfl)
      try simp only [Act.put, List.getElem_toArray, List.getElem_cons_succ, List.getElem_cons_zero, List.setIfInBounds_toArray, List.set_cons_zero, List.set_cons_succ]
      refine' anyI_take R 11 rfl (v := ?_) (by kernel_rfl) (by rfl) (fun V hV => ?hy) HS0.out ?_
      case hy => ((try dsimp only at hV);  obtain ⟨q1, q2, q3, q4, q5, q6, _⟩ := hV; go_simp; try with_reducible rfl)
      try simp only [Act.put, List.getElem_toArray, List.getElem_cons_succ, List.getElem_cons_zero, List.setIfInBounds_toArray, List.set_cons_zero, List.set_cons_succ]
      refine' anyI_take R 12 rfl (v := ?_) (by kernel_rfl) (by rfl) (fun V hV => ?hy) HS0.out ?_
      case hy => ((try dsimp only at hV);  obtain ⟨q1, q2, q3, q4, q5, q6, _⟩ := hV; go_simp; try with_reducible rfl)
      try simp only [Act.put, List.getElem_toArray, List.getElem_cons_succ, List.getElem_cons_zero, List.setIfInBounds_toArray, List.set_cons_zero, List.set_cons_succ]
      refine' anyI_take R 14 rfl (v := ?_) (by kernel_rfl) (by rfl) (fun V hV => ?hy) HS0.out ?_
      case hy => ((try dsimp only at hV);  obtain ⟨q1, q2, q3, q4, q5, q6, _⟩ := hV; go_simp; try with_reducible rfl)
      try simp only [Act.put, List.getElem_toArray, List.getElem_cons_succ, List.getElem_cons_zero, List.setIfInBounds_toArray, List.set_cons_zero, List.set_cons_succ]
      refine anyI_one 13 (by kernel_rfl) rfl ?_
      try simp only [List.getElem_toArray, List.getElem_cons_succ, List.getElem_cons_zero]
      refine opE_step ?_
      rw [if_pos (by rfl)]
      go_simp
      go_at_call 8
      refine (C4.out _).mono ?_
      rintro e w13 ⟨rfl, hb⟩
      replace HS0 := Lib.hid (GS2.later HS0.out hb)
      clear hb
      dsimp only
      refine ⟨HS0.out, ?_⟩
      try simp only [Act.put, List.getElem_toArray, List.getElem_cons_succ, List.getElem_cons_zero, List.setIfInBounds_toArray, List.set_cons_zero, List.set_cons_succ]
      refine anyI_one 15 (by kernel_rfl) rfl ?_
      try simp only [List.getElem_toArray, List.getElem_cons_succ, List.getElem_cons_zero]
      refine opE_step ?_
      rw [if_pos (by rfl)]
      go_simp
      go_at_call 15
      refine (C5.out _).mono ?_
      rintro e w15 ⟨rfl, hb⟩
      replace HS0 := Lib.hid (GS2.later HS0.out hb)
      clear hb
      dsimp only
      refine ⟨HS0.out, ?_⟩
      try simp only [Act.put, List.getElem_toArray, List.getElem_cons_succ, List.getElem_cons_zero, List.setIfInBounds_toArray, List.set_cons_zero, List.set_cons_succ]
      refine' anyI_take R 16 rfl (v := ?_) (by kernel_rfl) (by rfl) (fun V hV => ?hy) HS0.out ?_
      case hy => ((try dsimp only at hV);  obtain ⟨q1, q2, q3, q4, q5, q6, _⟩ := hV; go_simp; try with_reducible rfl)
      try simp only [Act.put, List.getElem_toArray, List.getElem_cons_succ, List.getElem_cons_zero, List.setIfInBounds_toArray, List.set_cons_zero, List.set_cons_succ]
      refine' anyI_take R 17 rfl (v := ?_) (by kernel_rfl) (by rfl) (fun V hV => ?hy) HS0.out ?_
      case hy => ((try dsimp only at hV);  obtain ⟨q1, q2, q3, q4, q5, q6, _⟩ := hV; go_simp; try with_reducible rfl)
      try simp only [Act.put, List.getElem_toArray, List.getElem_cons_succ, List.getElem_cons_zero, List.setIfInBounds_toArray, List.set_cons_zero, List.set_cons_succ]
      refine' anyI_take R 18 rfl (v := ?_) (by kernel_rfl) (by rfl) (fun V hV => ?hy) HS0.out ?_
      case hy => ((try dsimp only at hV);  obtain ⟨q1, q2, q3, q4, q5, q6, _⟩ := hV; go_simp; try with_reducible rfl)
      try simp only [Act.put, List.getElem_toArray, List.getElem_cons_succ, List.getElem_cons_zero, List.setIfInBounds_toArray, List.set_cons_zero, List.set_cons_succ]
      refine' anyI_take R 19 rfl (v := ?_) (by kernel_rfl) (by rfl) (fun V hV => ?hy) HS0.out ?_
      case hy => ((try dsimp only at hV);  obtain ⟨q1, q2, q3, q4, q5, q6, _⟩ := hV; go_simp; try with_reducible rfl)
      try simp only [Act.put, List.getElem_toArray, List.getElem_cons_succ, List.getElem_cons_zero, List.setIfInBounds_toArray, List.set_cons_zero, List.set_cons_succ]
      refine' anyI_take R 21 rfl (v := ?_) (by kernel_rfl) (by rfl) (fun V hV => ?hy) HS0.out ?_
      case hy => ((try dsimp only at hV);  obtain ⟨q1, q2, q3, q4, q5, q6, _⟩ := hV; go_simp; try with_reducible rfl)
      try simp only [Act.put, List.getElem_toArray, List.getElem_cons_succ, List.getElem_cons_zero, List.setIfInBounds_toArray, List.set_cons_zero, List.set_cons_succ]
      refine anyI_one 20 (by kernel_rfl) rfl ?_
      try simp only [List.getElem_toArray, List.getElem_cons_succ, List.getElem_cons_zero]
      refine opE_step ?_
      rw [if_pos (by rfl)]
      go_simp
      go_at_call 9
      refine (C6.out _).mono ?_
      rintro e w20 ⟨rfl, hb⟩
      replace HS0 := Lib.hid (GS2.later HS0.out hb)
      clear hb
      dsimp only
      refine ⟨HS0.out, ?_⟩
      try simp only [Act.put, List.getElem_toArray, List.getElem_cons_succ, List.getElem_cons_zero, List.setIfInBounds_toArray, List.set_cons_zero, List.set_cons_succ]
      refine anyI_one 22 (by kernel_rfl) rfl ?_
      try simp only [List.getElem_toArray, List.getElem_cons_succ, List.getElem_cons_zero]
      refine opE_step ?_
      rw [if_pos (by rfl)]
      go_simp
      go_at_call 16
      refine (C7.out _).mono ?_
      rintro e w22 ⟨rfl, hb⟩
      replace HS0 := Lib.hid (GS2.later HS0.out hb)
      clear hb
      dsimp only
      refine ⟨HS0.out, ?_⟩
      try simp only [Act.put, List.getElem_toArray, List.getElem_cons_succ, List.getElem_cons_zero, List.setIfInBounds_toArray, List.set_cons_zero, List.set_cons_succ]
      refine' anyI_take R 23 rfl (v := ?_) (by kernel_rfl) (by rfl) (fun V hV => ?hy) HS0.out ?_
      case hy => ((try dsimp only at hV);  obtain ⟨q1, q2, q3, q4, q5, q6, _⟩ := hV; go_simp; try with_reducible rfl)
      try simp only [Act.put, List.getElem_toArray, List.getElem_cons_succ, List.getElem_cons_zero, List.setIfInBounds_toArray, List.set_cons_zero, List.set_cons_succ]
      refine' anyI_take R 24 rfl (v := ?_) (by kernel_rfl) (by rfl) (fun V hV => ?hy) HS0.out ?_
      case hy => ((try dsimp only at hV);  obtain ⟨q1, q2, q3, q4, q5, q6, _⟩ := hV; go_simp; try with_reducible rfl)
      try simp only [Act.put, List.getElem_toArray, List.getElem_cons_succ, List.getElem_cons_zero, List.setIfInBounds_toArray, List.set_cons_zero, List.set_cons_succ]
      refine' anyI_take R 25 rfl (v := ?_) (by kernel_rfl) (by rfl) (fun V hV => ?hy) HS0.out ?_
      case hy => ((try dsimp only at hV);  obtain ⟨q1, q2, q3, q4, q5, q6, _⟩ := hV; go_simp; try with_reducible rfl)
      try simp only [Act.put, List.getElem_toArray, List.getElem_cons_succ, List.getElem_cons_zero, List.setIfInBounds_toArray, List.set_cons_zero, List.set_cons_succ]
      refine' anyI_take R 26 rfl (v := ?_) (by kernel_rfl) (by rfl) (fun V hV => ?hy) HS0.out ?_
      case hy => ((try dsimp only at hV);  obtain ⟨q1, q2, q3, q4, q5, q6, _⟩ := hV; go_simp; try with_reducible rfl)
      try simp only [Act.put, List.getElem_toArray, List.getElem_cons_succ, List.getElem_cons_zero, List.setIfInBounds_toArray, List.set_cons_zero, List.set_cons_succ]
      refine' anyI_take R 27 rfl (v := ?_) (by kernel_rfl) (by rfl) (fun V hV => ?hy) HS0.out ?_
      case hy => ((try dsimp only at hV);  obtain ⟨q1, q2, q3, q4, q5, q6, _⟩ := hV; go_simp; try with_reducible rfl)
      try simp only [Act.put, List.getElem_toArray, List.getElem_cons_succ, List.getElem_cons_zero, List.setIfInBounds_toArray, List.set_cons_zero, List.set_cons_succ]
      refine' anyI_take R 29 rfl (v := ?_) (by kernel_rfl) (by rfl) (fun V hV => ?hy) HS0.out ?_
      case hy => ((try dsimp only at hV);  obtain ⟨q1, q2, q3, q4, q5, q6, _⟩ := hV; go_simp; try with_reducible rfl)
      try simp only [Act.put, List.getElem_toArray, List.getElem_cons_succ, List.getElem_cons_zero, List.setIfInBounds_toArray, List.set_cons_zero, List.set_cons_succ]
      refine' anyI_take R 30 rfl (v := ?_) (by kernel_rfl) (by rfl) (fun V hV => ?hy) HS0.out ?_
      case hy => ((try dsimp only at hV);  obtain ⟨q1, q2, q3, q4, q5, q6, _⟩ := hV; go_simp; try with_reducible rfl)
      try simp only [Act.put, List.getElem_toArray, List.getElem_cons_succ, List.getElem_cons_zero, List.setIfInBounds_toArray, List.set_cons_zero, List.set_cons_succ]
      refine anyI_one 28 (by kernel_rfl) rfl ?_
      try simp only [List.getElem_toArray, List.getElem_cons_succ, List.getElem_cons_zero]
      refine opE_step ?_
      rw [if_pos (by rfl)]
      go_simp
      go_at_call 10
      refine (C8.out _).mono ?_
      rintro e w28 ⟨rfl, hb⟩
      replace HS0 := Lib.hid (GS2.later HS0.out hb)
      clear hb
      dsimp only
      refine ⟨HS0.out, ?_⟩
      try simp only [Act.put, List.getElem_toArray, List.getElem_cons_succ, List.getElem_cons_zero, List.setIfInBounds_toArray, List.set_cons_zero, List.set_cons_succ]
      refine anyI_one 31 (by kernel_rfl) rfl ?_
      try simp only [List.getElem_toArray, List.getElem_cons_succ, List.getElem_cons_zero]
      refine opE_step ?_
      rw [if_pos (by rfl)]
      go_simp
      go_at_call 17
      refine (C9.out _).mono ?_
      rintro e w31 ⟨rfl, hb⟩
      replace HS0 := Lib.hid (GS2.later HS0.out hb)
      clear hb
      dsimp only
      refine ⟨HS0.out, ?_⟩
      try simp only [Act.put, List.getElem_toArray, List.getElem_cons_succ, List.getElem_cons_zero, List.setIfInBounds_toArray, List.set_cons_zero, List.set_cons_succ]
      refine' anyI_take R 32 rfl (v := ?_) (by kernel_rfl) (by rfl) (fun V hV => ?hy) HS0.out ?_
      case hy => ((try dsimp only at hV);  obtain ⟨q1, q2, q3, q4, q5, q6, _⟩ := hV; go_simp; try with_reducible rfl)
      try simp only [Act.put, List.getElem_toArray, List.getElem_cons_succ, List.getElem_cons_zero, List.setIfInBounds_toArray, List.set_cons_zero, List.set_cons_succ]
      refine' anyI_take R 33 rfl (v := ?_) (by kernel_rfl) (by rfl) (fun V hV => ?hy) HS0.out ?_
      case hy => ((try dsimp only at hV);  obtain ⟨q1, q2, q3, q4, q5, q6, _⟩ := hV; go_simp; try with_reducible rfl)
      try simp only [Act.put, List.getElem_toArray, List.getElem_cons_succ, List.getElem_cons_zero, List.setIfInBounds_toArray, List.set_cons_zero, List.set_cons_succ]
      refine' anyI_take R 34 rfl (v := ?_) (by kernel_rfl) (by rfl) (fun V hV => ?hy) HS0.out ?_
      case hy => ((try dsimp only at hV);  obtain ⟨q1, q2, q3, q4, q5, q6, _⟩ := hV; go_simp; try with_reducible rfl)
      try simp only [Act.put, List.getElem_toArray, List.getElem_cons_succ, List.getElem_cons_zero, List.setIfInBounds_toArray, List.set_cons_zero, List.set_cons_succ]
      refine anyI_one 35 (by kernel_rfl) rfl ?_
      try simp only [List.getElem_toArray, List.getElem_cons_succ, List.getElem_cons_zero]
      refine opE_step ?_
      rw [if_pos (by rfl)]
      go_simp
      go_at_call 11
      refine (C10.out _).mono ?_
      rintro e w35 ⟨rfl, hb⟩
      replace HS0 := Lib.hid (GS2.later HS0.out hb)
      clear hb
      dsimp only
      refine ⟨HS0.out, ?_⟩
      try simp only [Act.put, List.getElem_toArray, List.getElem_cons_succ, List.getElem_cons_zero, List.setIfInBounds_toArray, List.set_cons_zero, List.set_cons_succ]
      refine' anyI_take R 36 rfl (v := ?_) (by kernel_rfl) (by rfl) (fun V hV => ?hy) HS0.out ?_
      case hy => ((try dsimp only at hV);  obtain ⟨q1, q2, q3, q4, q5, q6, _⟩ := hV; go_simp; try with_reducible rfl)
      try simp only [Act.put, List.getElem_toArray, List.getElem_cons_succ, List.getElem_cons_zero, List.setIfInBounds_toArray, List.set_cons_zero, List.set_cons_succ]
      refine' anyI_take R 37 rfl (v := ?_) (by kernel_rfl) (by rfl) (fun V hV => ?hy) HS0.out ?_
      case hy => ((try dsimp only at hV);  obtain ⟨q1, q2, q3, q4, q5, q6, _⟩ := hV; go_simp; try with_reducible rfl)
      try simp only [Act.put, List.getElem_toArray, List.getElem_cons_succ, List.getElem_cons_zero, List.setIfInBounds_toArray, List.set_cons_zero, List.set_cons_succ]
      refine anyI_tail (by kernel_rfl) ?_
      try simp only [List.drop_succ_cons, List.drop_zero]
      clear R
      go_wp2_with fail
      refine NoPanic.normal ?_
      go_wp2_with fail
      go_ret
      exact ⟨rfl, HS0.out.2.2.2.2.2.2⟩
end Go.Proofs.Ytpbambmjkhadgaa
