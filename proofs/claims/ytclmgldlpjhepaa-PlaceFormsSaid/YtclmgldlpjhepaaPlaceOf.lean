/- Where a sector is, and what stands at a place: Of, Back. -/
import Derived.Test.YtclmgldlpjhepaaPlaceDisk
set_option linter.unusedVariables false
set_option linter.unusedSimpArgs false
namespace Go.Proofs.Ytclmgldlpjhepaa
open Go.RowKit

theorem ibeq_ne {a b : Int} (h : a ≠ b) : (a == b) = false := by simpa using h
theorem of_any (l d c n : Int) (w : World) (hl : (-9223372036854775808 ≤ l ∧ l ≤ 9223372036854775807)) (hd : (-9223372036854775808 ≤ d ∧ d ≤ 9223372036854775807)) (hc : (-9223372036854775808 ≤ c ∧ c ≤ 9223372036854775807)) (hn : (-9223372036854775808 ≤ n ∧ n ≤ 9223372036854775807)) :
    Calls Try.prog 11 #[.agg #[.int .i64 l, .int .i64 d, .int .i64 c], .int .i64 n] w fun e w' => e = .returned (.tuple #[.int .i64 (plOfD l d c n), .int .i64 (plOfR l d c n), .bool (plOfOk l d c n)]) ∧ Below w.heap.size w w' := by
  have G := gat_new w l d c 23 (0, 0)
  have HD : Hid (∀ b, plOfOk l d c n = b → plOfD l d c n = if b = true then plD l d c (plRow l d c n) (n / c % (d - (l - 4))) else 0) := Lib.hid (fun b h => by subst h; rfl)
  have HR : Hid (∀ b, plOfOk l d c n = b → plOfR l d c n = if b = true then plRow l d c n else 0) := Lib.hid (fun b h => by subst h; rfl)
  have HC := Lib.hid (fun W => capacity_any l d c W hl hd hc)
  have hb7 := gCap_bd l d c
  by_cases h0 : n < 0
  · have H := Lib.hid (plOfOk_no (l := l) (d := d) (c := c) (n := n) (by omega))
    have H1 := Lib.hid ((HD.out false H.out).trans (if_neg (by decide)))
    have H2 := Lib.hid ((HR.out false H.out).trans (if_neg (by decide)))
    have e0 : decide (n < 0) = true := decide_eq_true h0
    go_enter Try.func11, Try.ntmps11
    go_wp2_with fail
    go_ret3
    exact ⟨by rw [H.out, H1.out, H2.out]; rfl, below1 _ _⟩
  · have e0 : decide (n < 0) = false := decide_eq_false h0
    by_cases h1 : gCap l d c ≤ n
    · have H := Lib.hid (plOfOk_no (l := l) (d := d) (c := c) (n := n) (by omega))
      have H1 := Lib.hid ((HD.out false H.out).trans (if_neg (by decide)))
      have H2 := Lib.hid ((HR.out false H.out).trans (if_neg (by decide)))
      clear HD HR
      generalize gCap l d c = cp at HC h1 hb7
      have e1 : decide (cp ≤ n) = true := decide_eq_true h1
      go_enter Try.func11, Try.ntmps11
      go_wp2_with fail
      (with_reducible refine (HC.out _).mono ?_); rintro e w1 ⟨rfl, hb⟩
      have F := (below1 w _).trans (hb.mono (by simp))
      clear hb
      go_wp2_with fail
      go_ret3
      exact ⟨by rw [H.out, H1.out, H2.out]; rfl, F⟩
    · have hok : plOfOk l d c n = true := decide_eq_true (by omega)
      have H := Lib.hid hok
      have hg := plOfOk_ok hok
      have hb6 := gOk_bd hg
      have hcp := gCap_yes hg
      have hgw := gWid_yes hg
      have H1 := Lib.hid ((HD.out true hok).trans (if_pos rfl))
      have H2 := Lib.hid ((HR.out true hok).trans (if_pos rfl))
      have HW := Lib.hid (fun W => width_any l d c W hl hd hc)
      have hw := gWid_bd l d c
      rw [← hgw] at H1
      have H3 : Hid (plRow l d c n = n / c / gWid l d c * c + n % c) := by rw [hgw]; rfl
      generalize plRow l d c n = row at H1 H2 H3
      have hcw : gCap l d c = gWid l d c * 16 := rfl
      generalize gWid l d c = wd at HW hw H1 H3 hgw hcw
      rw [hcw] at HC h1 hb7
      have hch := quo_bd 112 (show 0 ≤ n by omega) (show n < 112 by omega) (show 1 ≤ c by omega)
      have e1 : decide (wd * 16 ≤ n) = false := decide_eq_false h1
      generalize hqq : n / c = ch at H1 H3 hch
      have hst := quo_bd 112 hch.1 hch.2 (show 1 ≤ wd by omega)
      have hk := rem_bd ch (show 1 ≤ wd by omega)
      have hm := rem_bd n (show 1 ≤ c by omega)
      have t1 : n.tdiv c = ch := by rw [Int.tdiv_eq_ediv_of_nonneg (by omega)]; exact hqq
      have hx : 0 ≤ ch / wd * c ∧ ch / wd * c ≤ 112 * 4 := ⟨Int.mul_nonneg hst.1 (by omega), Int.mul_le_mul (by omega) (by omega) (by omega) (by omega)⟩
      have hrow : 0 ≤ row ∧ row ≤ 1000 := by rw [H3.out]; omega
      have HK := Lib.hid (fun W => disk_any l d c row (ch % wd) W hl hd hc (by omega) (by omega))
      have n1 : ¬ c = 0 := by omega
      have n2 : ¬ wd = 0 := by omega
      have i0 : 0 ≤ n := by omega
      have z0 : IntKind.i64.wrap ch = ch := IntWalk.i64_in _ (by omega)
      clear hqq HD HR hok hg hcp h0 h1 hgw hcw
      go_enter Try.func11, Try.ntmps11
      go_wp2_with fail
      (with_reducible refine (HC.out _).mono ?_); rintro e w1 ⟨rfl, hb⟩
      have S1 := GS.later (w0 := w) (B := w.heap.size) ⟨G.1, G.2.1, G.2.2, below1 w _⟩ hb
      clear hb G
      obtain ⟨g1, g2, g3, F⟩ := S1
      go_wp2_with fail
      have S0 : GS w w.heap.size w.heap.size l d c w1 := ⟨g1, g2, g3, F⟩
      clear g1 g2 g3 F
      go_region_held3 (GS w w.heap.size w.heap.size l d c)
        (first | assumption | exact GS.drew ‹_›)
        ((go_at_call 24; (with_reducible refine (HW.out _).mono ?_); rintro e w2 ⟨rfl, hb⟩; have S2 := (GS.drew S0).later hb))
      obtain ⟨g1, g2, g3, F⟩ := S2
      clear S0 hb
      go_wp2_with fail
      go_quiet (fail)
      go_wp2_with fail
      rw [← H3.out]
      have S0 : GS w w.heap.size w.heap.size l d c (w2.drewN nq) := ⟨g1, g2, g3, F.trans (belowN _ _ _)⟩
      have t2 : ch.tmod wd = ch % wd := Int.tmod_eq_emod_of_nonneg hch.1
      clear g1 g2 g3 F
      generalize w2.drewN nq = w4 at S0 ⊢
      clear H3
      go_region_held3 (GS w w.heap.size w.heap.size l d c)
        (first | assumption | exact GS.drew ‹_›)
        ((go_at_call 12; (with_reducible refine (HK.out _).mono ?_); rintro e w3 ⟨rfl, hb⟩; have S3 := (GS.drew S0).later hb))
      go_wp2
      go_ret3
      exact ⟨by rw [H.out, H1.out, H2.out]; rfl, S3.2.2.2⟩
theorem back_any (l d c i r : Int) (w : World) (hl : (-9223372036854775808 ≤ l ∧ l ≤ 9223372036854775807)) (hd : (-9223372036854775808 ≤ d ∧ d ≤ 9223372036854775807)) (hc : (-9223372036854775808 ≤ c ∧ c ≤ 9223372036854775807)) (hi : (-9223372036854775808 ≤ i ∧ i ≤ 9223372036854775807)) (hr : (-9223372036854775808 ≤ r ∧ r ≤ 9223372036854775807)) :
    Calls Try.prog 14 #[.agg #[.int .i64 l, .int .i64 d, .int .i64 c], .int .i64 i, .int .i64 r] w fun e w' => e = .returned (.tuple #[.int .i64 (plBk l d c i r), .int .i64 (plBn l d c i r), .bool (plBOk l d c i r)]) ∧ Below w.heap.size w w' := by
  have G := gat_new w l d c 23 (0, 0)
  have HK : Hid (∀ b, plBOk l d c i r = b → plBk l d c i r = if b = true then (if i = plP l d c r then 1 else if i = plQ l d c r then 2 else 0) else 0) := Lib.hid (fun b h => by subst h; rfl)
  have HN : Hid (∀ b, plBOk l d c i r = b → plBn l d c i r = if b = true then (if i = plP l d c r then 0 else if i = plQ l d c r then 0 else plN l d c r (plK l d c i r)) else 0) := Lib.hid (fun b h => by subst h; rfl)
  cases hT : plOk l d c r
  · have H := Lib.hid (plBOk_no (l := l) (d := d) (c := c) (i := i) (r := r) (by rw [hT]; simp))
    have H1 := Lib.hid ((HK.out false H.out).trans (if_neg (by decide)))
    have H2 := Lib.hid ((HN.out false H.out).trans (if_neg (by decide)))
    have HT := Lib.hid hT
    clear hT
    go_enter Try.func14, Try.ntmps14
    go_wp2_with fail
    (with_reducible refine (there_no l d c r _ HT hl hd hc hr).mono ?_); rintro e w1 ⟨rfl, hb⟩
    have F := (below1 w _).trans (hb.mono (by simp))
    clear hb
    go_wp2_with fail
    go_ret3
    exact ⟨by rw [H.out, H1.out, H2.out]; rfl, F⟩
  · have HT := Lib.hid hT
    by_cases h0 : i < 0
    · have H := Lib.hid (plBOk_no (l := l) (d := d) (c := c) (i := i) (r := r) (by omega))
      have H1 := Lib.hid ((HK.out false H.out).trans (if_neg (by decide)))
      have H2 := Lib.hid ((HN.out false H.out).trans (if_neg (by decide)))
      have e0 : decide (i < 0) = true := decide_eq_true h0
      clear hT
      go_enter Try.func14, Try.ntmps14
      go_wp2_with fail
      (with_reducible refine (there_yes l d c r _ HT hl hd hc hr).mono ?_); rintro e w1 ⟨rfl, hb⟩
      have F := (below1 w _).trans (hb.mono (by simp))
      clear hb
      go_wp2_with fail
      go_ret3
      exact ⟨by rw [H.out, H1.out, H2.out]; rfl, F⟩
    · have e0 : decide (i < 0) = false := decide_eq_false h0
      by_cases h1 : d ≤ i
      · have H := Lib.hid (plBOk_no (l := l) (d := d) (c := c) (i := i) (r := r) (by omega))
        have H1 := Lib.hid ((HK.out false H.out).trans (if_neg (by decide)))
        have H2 := Lib.hid ((HN.out false H.out).trans (if_neg (by decide)))
        have e1 : decide (d ≤ i) = true := decide_eq_true h1
        clear hT
        go_enter Try.func14, Try.ntmps14
        go_wp2_with fail
        (with_reducible refine (there_yes l d c r _ HT hl hd hc hr).mono ?_); rintro e w1 ⟨rfl, hb⟩
        have S1 := GS.later (w0 := w) (B := w.heap.size) ⟨G.1, G.2.1, G.2.2, below1 w _⟩ hb
        clear hb G
        obtain ⟨g1, g2, g3, F⟩ := S1
        go_wp2_with fail
        go_ret3
        exact ⟨by rw [H.out, H1.out, H2.out]; rfl, F⟩
      · have e1 : decide (d ≤ i) = false := decide_eq_false h1
        have hok : plBOk l d c i r = true := by unfold plBOk; rw [hT, decide_eq_true (by omega)]; rfl
        have H := Lib.hid hok
        have K1 := Lib.hid ((HK.out true H.out).trans (if_pos rfl))
        have K2 := Lib.hid ((HN.out true H.out).trans (if_pos rfl))
        obtain ⟨hg, h00, h11⟩ := plOk_yes hT
        have hb6 := gOk_bd hg
        have hf := plF_bd l c r (show 1 ≤ d by omega)
        have HP := Lib.hid (fun W => parity_any l d c r W hl hd hc hr)
        have HF := Lib.hid (fun W => first_any l d c r W HT hl hd hc hr)
        have hkb : 0 ≤ plK l d c i r ∧ plK l d c i r < 8 := by have := rem_bd (i - plF l d c r + d) (show 1 ≤ d by omega); unfold plK; omega
        have HNm := Lib.hid (fun W => number_any l d c r (plK l d c i r) W HT hkb hl hd hc hr)
        have HKK : Hid (plK l d c i r = (i - plF l d c r + d) % d) := rfl
        have n1 : ¬ d = 0 := by omega
        generalize plP l d c r = p at HP K1 K2
        generalize plQ l d c r = q at HP K1 K2
        generalize plF l d c r = f at HF hf HKK
        generalize plN l d c r (plK l d c i r) = nn at HNm K2
        generalize plK l d c i r = kk at HNm HKK hkb
        have z1 : IntKind.i64.wrap (i - f) = i - f := IntWalk.i64_in _ (by omega)
        have z2 : IntKind.i64.wrap (i - f + d) = i - f + d := IntWalk.i64_in _ (by omega)
        have t2 : (i - f + d).tmod d = kk := by rw [Int.tmod_eq_emod_of_nonneg (by omega)]; exact HKK.out.symm
        clear hT hg h00 h11 HK HN h0 h1 HKK hok
        by_cases hp : i = p
        · have H1 := Lib.hid (K1.out.trans (if_pos hp))
          have H2 := Lib.hid (K2.out.trans (if_pos hp))
          have ep : (i == p) = true := beq_iff_eq.2 hp
          clear hp
          go_enter Try.func14, Try.ntmps14
          go_wp2_with fail
          (with_reducible refine (there_yes l d c r _ HT hl hd hc hr).mono ?_); rintro e w1 ⟨rfl, hb⟩
          have S1 := GS.later (w0 := w) (B := w.heap.size) ⟨G.1, G.2.1, G.2.2, below1 w _⟩ hb
          clear hb G
          obtain ⟨g1, g2, g3, F⟩ := S1
          go_wp2_with fail
          (with_reducible refine (HP.out _).mono ?_); rintro e w2 ⟨rfl, hb⟩
          have S2 := GS.later (w0 := w) (B := w.heap.size) ⟨g1, g2, g3, F⟩ hb
          clear hb g1 g2 g3 F
          go_wp2_with fail
          go_ret3
          exact ⟨by rw [H.out, H1.out, H2.out]; rfl, S2.2.2.2⟩
        · have L1 := Lib.hid (K1.out.trans (if_neg hp))
          have L2 := Lib.hid (K2.out.trans (if_neg hp))
          have ep : (i == p) = false := ibeq_ne hp
          clear hp
          by_cases hq : i = q
          · have H1 := Lib.hid (L1.out.trans (if_pos hq))
            have H2 := Lib.hid (L2.out.trans (if_pos hq))
            have eq : (i == q) = true := beq_iff_eq.2 hq
            clear hq
            go_enter Try.func14, Try.ntmps14
            go_wp2_with fail
            (with_reducible refine (there_yes l d c r _ HT hl hd hc hr).mono ?_); rintro e w1 ⟨rfl, hb⟩
            have S1 := GS.later (w0 := w) (B := w.heap.size) ⟨G.1, G.2.1, G.2.2, below1 w _⟩ hb
            clear hb G
            obtain ⟨g1, g2, g3, F⟩ := S1
            go_wp2_with fail
            (with_reducible refine (HP.out _).mono ?_); rintro e w2 ⟨rfl, hb⟩
            have S2 := GS.later (w0 := w) (B := w.heap.size) ⟨g1, g2, g3, F⟩ hb
            clear hb g1 g2 g3 F
            go_wp2_with fail
            go_ret3
            exact ⟨by rw [H.out, H1.out, H2.out]; rfl, S2.2.2.2⟩
          · have H1 := Lib.hid (L1.out.trans (if_neg hq))
            have H2 := Lib.hid (L2.out.trans (if_neg hq))
            have eq : (i == q) = false := ibeq_ne hq
            clear hq
            go_enter Try.func14, Try.ntmps14
            go_wp2_with fail
            (with_reducible refine (there_yes l d c r _ HT hl hd hc hr).mono ?_); rintro e w1 ⟨rfl, hb⟩
            have S1 := GS.later (w0 := w) (B := w.heap.size) ⟨G.1, G.2.1, G.2.2, below1 w _⟩ hb
            clear hb G
            obtain ⟨g1, g2, g3, F⟩ := S1
            go_wp2_with fail
            (with_reducible refine (HP.out _).mono ?_); rintro e w2 ⟨rfl, hb⟩
            have S2 := GS.later (w0 := w) (B := w.heap.size) ⟨g1, g2, g3, F⟩ hb
            clear hb g1 g2 g3 F
            obtain ⟨g1, g2, g3, F⟩ := S2
            go_wp2_with fail
            have S0 : GS w w.heap.size w.heap.size l d c w2 := ⟨g1, g2, g3, F⟩
            clear g1 g2 g3 F
            go_region_held3 (GS w w.heap.size w.heap.size l d c)
              (first | assumption | exact GS.drew ‹_›)
              ((go_at_call 27; (with_reducible refine (HF.out _).mono ?_); rintro e w3 ⟨rfl, hb⟩; have S3 := (GS.drew S0).later hb))
            obtain ⟨g1, g2, g3, F⟩ := S3
            clear S0 hb
            go_wp2_with fail
            (with_reducible refine (HNm.out _).mono ?_); rintro e w4 ⟨rfl, hb⟩
            have S4 := GS.later (w0 := w) (B := w.heap.size) ⟨g1, g2, g3, F⟩ hb
            clear hb g1 g2 g3 F
            go_wp2_with fail
            go_ret3
            exact ⟨by rw [H.out, H1.out, H2.out]; rfl, S4.2.2.2⟩
end Go.Proofs.Ytclmgldlpjhepaa
