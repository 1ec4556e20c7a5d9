/- The document's own places: Of. -/
import Derived.Test.YtabeadbnoifedaaRefGeoCap
import Derived.Test.YtabeadbnoifedaaRefPlace
set_option linter.unusedVariables false
set_option linter.unusedSimpArgs false
namespace Go.Proofs.Ytabeadbnoifedaa
open Go.RowKit

theorem refOf_any (l d c n : Int) (w : World) (hl : (-9223372036854775808 ≤ l ∧ l ≤ 9223372036854775807)) (hd : (-9223372036854775808 ≤ d ∧ d ≤ 9223372036854775807)) (hc : (-9223372036854775808 ≤ c ∧ c ≤ 9223372036854775807)) (hn : (-9223372036854775808 ≤ n ∧ n ≤ 9223372036854775807)) :
    Calls Try.prog 21 #[.agg #[.int .i64 l, .int .i64 d, .int .i64 c], .int .i64 n] w fun e w' => e = .returned (.tuple #[.int .i64 (plOfD l d c n), .int .i64 (plOfR l d c n), .bool (plOfOk l d c n)]) ∧ Below w.heap.size w w' := by
  have G := gat_new w l d c 23 (0, 0)
  have HD : Hid (∀ b, plOfOk l d c n = b → plOfD l d c n = if b = true then plD l d c (plRow l d c n) (n / c % (d - (l - 4))) else 0) := Lib.hid (fun b h => by subst h; rfl)
  have HR : Hid (∀ b, plOfOk l d c n = b → plOfR l d c n = if b = true then plRow l d c n else 0) := Lib.hid (fun b h => by subst h; rfl)
  have HC := Lib.hid (fun W => refCapacity_any l d c W hl hd hc)
  have hb7 := gCap_bd l d c
  cases hG : gOk l d c
  · have H := Lib.hid (plOfOk_no (l := l) (d := d) (c := c) (n := n) (by rw [gCap_no hG]; omega))
    have H1 := Lib.hid ((HD.out false H.out).trans (if_neg (by decide)))
    have H2 := Lib.hid ((HR.out false H.out).trans (if_neg (by decide)))
    have HG := Lib.hid hG
    clear hG
    go_enter Try.func21, Try.ntmps21
    go_wp2_with fail
    (with_reducible refine (refCheck_no l d c _ HG hl hd hc).mono ?_); rintro e w1 ⟨rfl, hb⟩
    have F := (below1 w _).trans (hb.mono (by simp))
    clear hb
    go_wp2_with fail
    go_ret3
    exact ⟨by rw [H.out, H1.out, H2.out]; rfl, F⟩
  · have HG := Lib.hid hG
    clear hG
    by_cases h0 : n < 0
    · have H := Lib.hid (plOfOk_no (l := l) (d := d) (c := c) (n := n) (by omega))
      have H1 := Lib.hid ((HD.out false H.out).trans (if_neg (by decide)))
      have H2 := Lib.hid ((HR.out false H.out).trans (if_neg (by decide)))
      have e0 : decide (n < 0) = true := decide_eq_true h0
      go_enter Try.func21, Try.ntmps21
      go_wp2_with fail
      (with_reducible refine (refCheck_yes l d c _ HG hl hd hc).mono ?_); rintro e w1 ⟨rfl, hb⟩
      have F := (below1 w _).trans (hb.mono (by simp))
      clear hb
      go_wp2_with fail
      go_ret3
      exact ⟨by rw [H.out, H1.out, H2.out]; rfl, F⟩
    · have e0 : decide (n < 0) = false := decide_eq_false h0
      by_cases h1 : gCap l d c ≤ n
      · have H := Lib.hid (plOfOk_no (l := l) (d := d) (c := c) (n := n) (by omega))
        have H1 := Lib.hid ((HD.out false H.out).trans (if_neg (by decide)))
        have H2 := Lib.hid ((HR.out false H.out).trans (if_neg (by decide)))
        clear HD HR
        generalize gCap l d c = cp at HC h1 hb7
        have e1 : decide (cp ≤ n) = true := decide_eq_true h1
        go_enter Try.func21, Try.ntmps21
        go_wp2_with fail
        (with_reducible refine (refCheck_yes l d c _ HG hl hd hc).mono ?_); rintro e w1 ⟨rfl, hb⟩
        have S1 := GS.later (w0 := w) (B := w.heap.size) ⟨G.1, G.2.1, G.2.2, below1 w _⟩ hb
        clear hb G
        obtain ⟨g1, g2, g3, F⟩ := S1
        go_wp2_with fail
        (with_reducible refine (HC.out _).mono ?_); rintro e w2 ⟨rfl, hb⟩
        have S2 := GS.later (w0 := w) (B := w.heap.size) ⟨g1, g2, g3, F⟩ hb
        clear hb g1 g2 g3 F
        go_wp2_with fail
        go_ret3
        exact ⟨by rw [H.out, H1.out, H2.out]; rfl, S2.2.2.2⟩
      · have hok : plOfOk l d c n = true := decide_eq_true (by omega)
        have H := Lib.hid hok
        have hg := plOfOk_ok hok
        have hb6 := gOk_bd hg
        have hcp := gCap_yes hg
        have hgw := gWid_yes hg
        have H1 := Lib.hid ((HD.out true hok).trans (if_pos rfl))
        have H2 := Lib.hid ((HR.out true hok).trans (if_pos rfl))
        have HW := Lib.hid (fun W => refWidth_any l d c W hl hd hc)
        have hw := gWid_bd l d c
        rw [← hgw] at H1
        have H3 : Hid (plRow l d c n = n / c / gWid l d c * c + n % c) := by rw [hgw]; rfl
        generalize plRow l d c n = row at H1 H2 H3
        have hcw : gCap l d c = gWid l d c * 16 := rfl
        generalize gWid l d c = wd at HW hw H1 H3 hgw hcw
        rw [hcw] at HC h1 hb7
        have hch := quo_bd 112 (show 0 ≤ n by omega) (show n < 112 by omega) (show 1 ≤ c by omega)
        have e1 : decide (wd * 16 ≤ n) = false := decide_eq_false h1
        generalize hqq : n / c = ch at H1 H3 hch
        have hst := quo_bd 112 hch.1 hch.2 (show 1 ≤ wd by omega)
        have hk := rem_bd ch (show 1 ≤ wd by omega)
        have hm := rem_bd n (show 1 ≤ c by omega)
        have hx : 0 ≤ ch / wd * c ∧ ch / wd * c ≤ 112 * 4 := ⟨Int.mul_nonneg hst.1 (by omega), Int.mul_le_mul (by omega) (by omega) (by omega) (by omega)⟩
        have hrow : 0 ≤ row ∧ row ≤ 1000 := by rw [H3.out]; omega
        have HK := Lib.hid (fun W => refDisk_any l d c row (ch % wd) W hl hd hc (by omega) (by omega))
        have t1 : n.tdiv c = ch := by rw [Int.tdiv_eq_ediv_of_nonneg (by omega)]; exact hqq
        have t3 : n.tmod c = n % c := Int.tmod_eq_emod_of_nonneg (by omega)
        have t4 : ch.tdiv wd = ch / wd := Int.tdiv_eq_ediv_of_nonneg hch.1
        have n1 : ¬ c = 0 := by omega
        have n2 : ¬ wd = 0 := by omega
        have i0 : 0 ≤ n := by omega
        have z0 : IntKind.i64.wrap ch = ch := IntWalk.i64_in _ (by omega)
        have z1 : IntKind.i64.wrap (ch / wd) = ch / wd := IntWalk.i64_in _ (by omega)
        have z2 : IntKind.i64.wrap (ch / wd * c) = ch / wd * c := IntWalk.i64_in _ (by omega)
        have z3 : IntKind.i64.wrap (ch / wd * c + n % c) = row := by rw [← H3.out]; exact IntWalk.i64_in _ (by omega)
        have t2 : ch.tmod wd = ch % wd := Int.tmod_eq_emod_of_nonneg hch.1
        have Q1 := Lib.hid hqq
        clear HD HR hok hg hcp h0 h1 hgw hcw hqq
        go_enter Try.func21, Try.ntmps21
        go_wp2_with fail
        (with_reducible refine (refCheck_yes l d c _ HG hl hd hc).mono ?_); rintro e w1 ⟨rfl, hb⟩
        have S1 := GS.later (w0 := w) (B := w.heap.size) ⟨G.1, G.2.1, G.2.2, below1 w _⟩ hb
        clear hb G
        obtain ⟨g1, g2, g3, F⟩ := S1
        go_wp2_with fail
        (with_reducible refine (HC.out _).mono ?_); rintro e w2 ⟨rfl, hb⟩
        have S2 := GS.later (w0 := w) (B := w.heap.size) ⟨g1, g2, g3, F⟩ hb
        clear hb g1 g2 g3 F
        obtain ⟨g1, g2, g3, F⟩ := S2
        go_wp2_with fail
        try rw [Q1.out]
        have S0 : GS w w.heap.size w.heap.size l d c w2 := ⟨g1, g2, g3, F⟩
        clear g1 g2 g3 F
        go_region_held3 (GS w w.heap.size w.heap.size l d c)
          (first | assumption | exact GS.drew ‹_›)
          ((go_at_call 28; (with_reducible refine (HW.out _).mono ?_); rintro e w3 ⟨rfl, hb⟩; have S3 := (GS.drew S0).later hb))
        clear S0 hb
        obtain ⟨g1, g2, g3, F⟩ := S3
        go_wp2_with fail
        have S0 : GS w w.heap.size w.heap.size l d c w3 := ⟨g1, g2, g3, F⟩
        clear g1 g2 g3 F H3
        go_region_held3 (GS w w.heap.size w.heap.size l d c)
          (first | assumption | exact GS.drew ‹_›)
          (first
            | (go_at_call 28; (with_reducible refine (HW.out _).mono ?_); rintro e w4 ⟨rfl, hb⟩; have S4 := (GS.drew S0).later hb; clear hb)
            | (go_at_call 31; (with_reducible refine (HK.out _).mono ?_); rintro e w5 ⟨rfl, hb⟩; have S5 := S4.later hb))
        go_wp2
        go_ret3
        exact ⟨by rw [H.out, H1.out, H2.out]; rfl, S5.2.2.2⟩
end Go.Proofs.Ytabeadbnoifedaa
