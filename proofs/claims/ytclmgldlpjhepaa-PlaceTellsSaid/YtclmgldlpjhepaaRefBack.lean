/- The document's own places: Back. -/
import Derived.Test.YtclmgldlpjhepaaRefNums
set_option linter.unusedVariables false
set_option linter.unusedSimpArgs false
namespace Go.Proofs.Ytclmgldlpjhepaa
open Go.RowKit

set_option maxHeartbeats 1000000 in
theorem refBack_any (l d c i r : Int) (w : World) (hl : (-9223372036854775808 ≤ l ∧ l ≤ 9223372036854775807)) (hd : (-9223372036854775808 ≤ d ∧ d ≤ 9223372036854775807)) (hc : (-9223372036854775808 ≤ c ∧ c ≤ 9223372036854775807)) (hi : (-9223372036854775808 ≤ i ∧ i ≤ 9223372036854775807)) (hr : (-9223372036854775808 ≤ r ∧ r ≤ 9223372036854775807)) :
    Calls Try.prog 22 #[.agg #[.int .i64 l, .int .i64 d, .int .i64 c], .int .i64 i, .int .i64 r] w fun e w' => e = .returned (.tuple #[.int .i64 (plBk l d c i r), .int .i64 (plBn l d c i r), .bool (plBOk l d c i r)]) ∧ Below w.heap.size w w' := by
  have G := gat_new w l d c 23 (0, 0)
  have HK : Hid (∀ b, plBOk l d c i r = b → plBk l d c i r = if b = true then (if i = plP l d c r then 1 else if i = plQ l d c r then 2 else 0) else 0) := Lib.hid (fun b h => by subst h; rfl)
  have HN : Hid (∀ b, plBOk l d c i r = b → plBn l d c i r = if b = true then (if i = plP l d c r then 0 else if i = plQ l d c r then 0 else plN l d c r (plK l d c i r)) else 0) := Lib.hid (fun b h => by subst h; rfl)
  cases hT : plOk l d c r
  · have H := Lib.hid (plBOk_no (l := l) (d := d) (c := c) (i := i) (r := r) (by rw [hT]; simp))
    have H1 := Lib.hid ((HK.out false H.out).trans (if_neg (by decide)))
    have H2 := Lib.hid ((HN.out false H.out).trans (if_neg (by decide)))
    have HT := Lib.hid hT
    clear hT
    go_enter Try.func22, Try.ntmps22
    go_wp2_with fail
    (with_reducible refine (refFine_no l d c r _ HT hl hd hc hr).mono ?_); rintro e w1 ⟨rfl, hb⟩
    have F := (below1 w _).trans (hb.mono (by simp))
    clear hb
    go_wp2_with fail
    go_ret3
    exact ⟨by rw [H.out, H1.out, H2.out]; rfl, F⟩
  · have HT := Lib.hid hT
    by_cases h0 : i < 0
    · have H := Lib.hid (plBOk_no (l := l) (d := d) (c := c) (i := i) (r := r) (by omega))
      have H1 := Lib.hid ((HK.out false H.out).trans (if_neg (by decide)))
      have H2 := Lib.hid ((HN.out false H.out).trans (if_neg (by decide)))
      have e0 : decide (i < 0) = true := decide_eq_true h0
      clear hT
      go_enter Try.func22, Try.ntmps22
      go_wp2_with fail
      (with_reducible refine (refFine_yes l d c r _ HT hl hd hc hr).mono ?_); rintro e w1 ⟨rfl, hb⟩
      have F := (below1 w _).trans (hb.mono (by simp))
      clear hb
      go_wp2_with fail
      go_ret3
      exact ⟨by rw [H.out, H1.out, H2.out]; rfl, F⟩
    · have e0 : decide (i < 0) = false := decide_eq_false h0
      by_cases h1 : d ≤ i
      · have H := Lib.hid (plBOk_no (l := l) (d := d) (c := c) (i := i) (r := r) (by omega))
        have H1 := Lib.hid ((HK.out false H.out).trans (if_neg (by decide)))
        have H2 := Lib.hid ((HN.out false H.out).trans (if_neg (by decide)))
        have e1 : decide (d ≤ i) = true := decide_eq_true h1
        clear hT
        go_enter Try.func22, Try.ntmps22
        go_wp2_with fail
        (with_reducible refine (refFine_yes l d c r _ HT hl hd hc hr).mono ?_); rintro e w1 ⟨rfl, hb⟩
        have S1 := GS.later (w0 := w) (B := w.heap.size) ⟨G.1, G.2.1, G.2.2, below1 w _⟩ hb
        clear hb G
        obtain ⟨g1, g2, g3, F⟩ := S1
        go_wp2_with fail
        go_ret3
        exact ⟨by rw [H.out, H1.out, H2.out]; rfl, F⟩
      · have e1 : decide (d ≤ i) = false := decide_eq_false h1
        have hok : plBOk l d c i r = true := by unfold plBOk; rw [hT, decide_eq_true (by omega)]; rfl
        have H := Lib.hid hok
        have K1 := Lib.hid ((HK.out true H.out).trans (if_pos rfl))
        have K2 := Lib.hid ((HN.out true H.out).trans (if_pos rfl))
        obtain ⟨hg, h00, h11⟩ := plOk_yes hT
        have hw := gWid_bd l d c
        have HP := Lib.hid (fun W => refParity_any l d c r W hl hd hc hr)
        have HNm := Lib.hid (fun W => refNumbers_any l d c r W hl hd hc hr)
        have HD := Lib.hid (fun (k : Nat) (hk : k ≤ 7) W => refDisk_any l d c r (k : Int) W hl hd hc hr (by omega))
        obtain ⟨n, hn⟩ : ∃ n : Nat, gWid l d c = n := ⟨(gWid l d c).toNat, by omega⟩
        have hlen : (plNums l d c r).length = n := by rw [plNums_len hT, hn]; rfl
        have HS := Lib.hid (fun hp hq => plK_spec (l := l) (d := d) (c := c) (i := i) (r := r) hok hp hq)
        have HO := Lib.hid (fun (k : Nat) (hk : k < n) (he : plD l d c r (k : Int) = i) => plK_only (l := l) (d := d) (c := c) (i := i) (r := r) (k := (k : Int)) (by unfold plDok; rw [hT, decide_eq_true (by omega)]; rfl) he)
        have HG := Lib.hid (fun (k : Nat) (hk : k < n) => plNums_get hT (k := k) (by omega))
        generalize plP l d c r = p at HP K1 K2 HS
        generalize plQ l d c r = q at HP K1 K2 HS
        clear hT hg h00 h11 HK HN h0 h1 hok
        by_cases hp : i = p
        · have H1 := Lib.hid (K1.out.trans (if_pos hp))
          have H2 := Lib.hid (K2.out.trans (if_pos hp))
          have ep : (i == p) = true := beq_iff_eq.2 hp
          clear hp hn
          go_enter Try.func22, Try.ntmps22
          go_wp2_with fail
          (with_reducible refine (refFine_yes l d c r _ HT hl hd hc hr).mono ?_); rintro e w1 ⟨rfl, hb⟩
          have S1 := GS.later (w0 := w) (B := w.heap.size) ⟨G.1, G.2.1, G.2.2, below1 w _⟩ hb
          clear hb G
          obtain ⟨g1, g2, g3, F⟩ := S1
          go_wp2_with fail
          (with_reducible refine (HP.out _).mono ?_); rintro e w2 ⟨rfl, hb⟩
          have S2 := GS.later (w0 := w) (B := w.heap.size) ⟨g1, g2, g3, F⟩ hb
          clear hb g1 g2 g3 F
          go_wp2_with fail
          go_ret3
          exact ⟨by rw [H.out, H1.out, H2.out]; rfl, S2.2.2.2⟩
        · have L1 := Lib.hid (K1.out.trans (if_neg hp))
          have L2 := Lib.hid (K2.out.trans (if_neg hp))
          have ep : (i == p) = false := ibeq_no hp
          by_cases hq : i = q
          · have H1 := Lib.hid (L1.out.trans (if_pos hq))
            have H2 := Lib.hid (L2.out.trans (if_pos hq))
            have eq : (i == q) = true := beq_iff_eq.2 hq
            clear hq hp hn
            go_enter Try.func22, Try.ntmps22
            go_wp2_with fail
            (with_reducible refine (refFine_yes l d c r _ HT hl hd hc hr).mono ?_); rintro e w1 ⟨rfl, hb⟩
            have S1 := GS.later (w0 := w) (B := w.heap.size) ⟨G.1, G.2.1, G.2.2, below1 w _⟩ hb
            clear hb G
            obtain ⟨g1, g2, g3, F⟩ := S1
            go_wp2_with fail
            (with_reducible refine (HP.out _).mono ?_); rintro e w2 ⟨rfl, hb⟩
            have S2 := GS.later (w0 := w) (B := w.heap.size) ⟨g1, g2, g3, F⟩ hb
            clear hb g1 g2 g3 F
            go_wp2_with fail
            go_ret3
            exact ⟨by rw [H.out, H1.out, H2.out]; rfl, S2.2.2.2⟩
          · have H1 := Lib.hid (L1.out.trans (if_neg hq))
            have H2 := Lib.hid (L2.out.trans (if_neg hq))
            have eq : (i == q) = false := ibeq_no hq
            have HS2 := Lib.hid (HS.out hp hq)
            clear hp hq
            rw [hn] at hw
            have Hn := Lib.hid hn
            clear hn
            generalize plNums l d c r = ns at HNm hlen HG
            go_enter Try.func22, Try.ntmps22
            go_wp2_with fail
            (with_reducible refine (refFine_yes l d c r _ HT hl hd hc hr).mono ?_); rintro e w1 ⟨rfl, hb⟩
            have S1 := GS.later (w0 := w) (B := w.heap.size) ⟨G.1, G.2.1, G.2.2, below1 w _⟩ hb
            clear hb G
            obtain ⟨g1, g2, g3, F⟩ := S1
            go_wp2_with fail
            (with_reducible refine (HP.out _).mono ?_); rintro e w2 ⟨rfl, hb⟩
            have S2 := GS.later (w0 := w) (B := w.heap.size) ⟨g1, g2, g3, F⟩ hb
            clear hb g1 g2 g3 F
            obtain ⟨g1, g2, g3, F⟩ := S2
            go_wp2_with fail
            (with_reducible refine (HNm.out _).mono ?_); rintro e w3 ⟨A, cp, rfl, hrd, hb⟩
            have S3 := GS.later (w0 := w) (B := w.heap.size) ⟨g1, g2, g3, F⟩ hb
            clear hb g1 g2 g3 F
            subst hlen
            go_wp2_with fail
            go_loopw [44] (fun o wr => ∃ k : Nat, k ≤ ns.length ∧ o = .int .i64 k ∧ (∀ j : Nat, j < k → plD l d c r (j : Int) ≠ i) ∧ Below w3.heap.size w3 wr) (fun o _ => ns.length - (intOf o).toNat)
            case atStart => exact ⟨0, Nat.zero_le _, rfl, fun j hj => absurd hj (Nat.not_lt_zero _), Below.refl _ _⟩
            case round =>
              obtain ⟨k, hk, rfl, hno, hbr⟩ := hrel
              have Hno := Lib.hid hno
              clear hno
              by_cases hlt : k < ns.length
              · obtain ⟨b, off, rfl, hb, hc⟩ := hrd.2 (by omega)
                have h1 := hc k hlt
                rw [← hbr.cell (p := ⟨b, off + k, none⟩) hb] at h1
                have i0 : (0 : Int) ≤ (k : Int) := by omega
                have i1 : (k : Int) < (ns.length : Int) := by omega
                have HGk := Lib.hid (HG.out k hlt)
                have HOk := Lib.hid (HO.out k hlt)
                have HDk := Lib.hid (HD.out k (by omega))
                have Hsn : Hid (plD l d c r (k : Int) ≠ i → ∀ j : Nat, j < k + 1 → plD l d c r (j : Int) ≠ i) := Lib.hid fun h j hj => by
                  by_cases e : j = k
                  · rw [e]; exact h
                  · exact Hno.out j (by omega)
                generalize ns.getD k 0 = z at h1 HGk
                generalize plD l d c r (k : Int) = y at HDk HOk Hsn
                obtain ⟨g1, g2, g3, F⟩ := S3.later hbr
                have ybd : True := trivial
                clear hc
                go_wp2_with fail
                (with_reducible refine (HDk.out _).mono ?_); rintro e w4 ⟨rfl, hb4⟩
                have S4 := GS.later (w0 := w) (B := w.heap.size) ⟨g1, g2, g3, F⟩ hb4
                have hb5 := hbr.trans (hb4.mono hbr.size)
                clear hb4 g1 g2 g3 F
                by_cases hy : y = i
                · have ey : (y == i) = true := beq_iff_eq.2 hy
                  have H3 := Lib.hid (HOk.out hy)
                  clear hy
                  go_wp2_with fail
                  go_ret3
                  exact ⟨by rw [H.out, H1.out, H2.out, ← H3.out, ← HGk.out]; rfl, S4.2.2.2⟩
                · have ey : (y == i) = false := ibeq_no hy
                  have H3 := Lib.hid (Hsn.out hy)
                  clear hy
                  go_wp2_with fail
                  go_roundw
                  case rel => exact ⟨k + 1, by omega, by go_num, H3.out, hb5⟩
                  case measure => simp [intOf]; omega
              · exfalso
                obtain ⟨q0, q1, q2⟩ := HS2.out
                rw [Hn.out] at q1
                refine Hno.out (plK l d c i r).toNat (by omega) ?_
                rw [Int.toNat_of_nonneg q0]
                exact q2
end Go.Proofs.Ytclmgldlpjhepaa
