/- Texts put together: GeoCan, Sup, Feed, Seal, SupEnc, SupEncY, Str. -/
import Derived.Test.YtcjmebnbbpllnaaDoorMag
import Derived.Test.YtcjmebnbbpllnaaDoorProg
import Derived.Test.YtcjmebnbbpllnaaDoorMaa
import Derived.Test.YtcjmebnbbpllnaaDoorMaf
import Derived.Test.YtcjmebnbbpllnaaDoorMac
import Derived.Lib.LazyBuf
import Derived.Laws.BytesArg
import Derived.Laws.BytesString
import Derived.Lib.ConvBytes
section
namespace Go.Proofs.YtcjmebnbbpllnaaDoor
open Go.RowKit

set_option maxHeartbeats 1000000 in
theorem can_ne (l d c l' d' c' : Int) (w : World) (hl : -9223372036854775808 ≤ l ∧ l ≤ 9223372036854775807) (hd : -9223372036854775808 ≤ d ∧ d ≤ 9223372036854775807) (hc : -9223372036854775808 ≤ c ∧ c ≤ 9223372036854775807)
    (hl' : -9223372036854775808 ≤ l' ∧ l' ≤ 9223372036854775807) (hd' : -9223372036854775808 ≤ d' ∧ d' ≤ 9223372036854775807) (hc' : -9223372036854775808 ≤ c' ∧ c' ≤ 9223372036854775807)
    (HG : Hid (gOk l d c = true)) (HG' : Hid (gOk l' d' c' = true)) (hE : Hid (gEq l d c l' d' c' = false)) :
    Calls Tryd.prog 86 #[.agg #[.int .i64 l, .int .i64 d, .int .i64 c], .agg #[.int .i64 l', .int .i64 d', .int .i64 c']] w fun e w' => e = .returned (.bool (gCan l d c l' d' c')) ∧ Below w.heap.size w w' := by
  have S0 := gs2_start w l d c l' d' c' 30 30 (0, 0) (0, 0)
  have H := Lib.hid ((gCan_ok HG.out HG'.out hE.out).trans (gGe_eq l d c l' d' c'))
  have hE' := gEq_no hE.out
  have HW : Hid (∀ W, Calls Tryd.prog 91 #[.agg #[.int .i64 l, .int .i64 d, .int .i64 c]] W fun e w' => e = .returned (.int .i64 (gWid l d c)) ∧ Below W.heap.size W w') := Lib.hid fun W => width_any l d c W hl hd hc
  have HW' : Hid (∀ W, Calls Tryd.prog 91 #[.agg #[.int .i64 l', .int .i64 d', .int .i64 c']] W fun e w' => e = .returned (.int .i64 (gWid l' d' c')) ∧ Below W.heap.size W w') := Lib.hid fun W => width_any l' d' c' W hl' hd' hc'
  have HC : Hid (∀ W, Calls Tryd.prog 76 #[.agg #[.int .i64 l, .int .i64 d, .int .i64 c]] W fun e w' => e = .returned (.int .i64 0) ∧ Below W.heap.size W w') := Lib.hid fun W => check_yes l d c W HG hl hd hc
  have HC' : Hid (∀ W, Calls Tryd.prog 76 #[.agg #[.int .i64 l', .int .i64 d', .int .i64 c']] W fun e w' => e = .returned (.int .i64 0) ∧ Below W.heap.size W w') := Lib.hid fun W => check_yes l' d' c' W HG' hl' hd' hc'
  generalize gCan l d c l' d' c' = can at H
  generalize gWid l d c = wd at H HW
  generalize gWid l' d' c' = wd' at H HW'
  clear hE
  have hE2 : (¬ l = l') ∨ (l = l' ∧ ¬ d = d') ∨ (l = l' ∧ d = d' ∧ ¬ c = c') := by omega
  clear hE'
  go_enter Tryd.func86, Tryd.ntmps86
  go_upto_region 1 with fail
  go_cut [17] (fun v W => v = .bool false ∧ GS2 w w.heap.size w.heap.size (w.heap.size + 1) l d c l' d' c' W)
  case first =>
    rcases hE2 with h1 | ⟨rfl, h1⟩ | ⟨rfl, rfl, h1⟩
    all_goals
      go_wp2_with fail
      (with_reducible refine (HC.out _).mono ?_); rintro e w1 ⟨rfl, hb⟩
      have S1 := S0.later hb
      clear hb S0
      obtain ⟨g1, g2, g3, g4, g5, g6, F⟩ := S1
      go_wp2_with fail
      (with_reducible refine (HC'.out _).mono ?_); rintro e w2 ⟨rfl, hb⟩
      have S2 := GS2.later ⟨g1, g2, g3, g4, g5, g6, F⟩ hb
      clear hb g1 g2 g3 g4 g5 g6 F
      obtain ⟨g1, g2, g3, g4, g5, g6, F⟩ := S2
      go_wp2_with fail
      go_meet
      exact ⟨rfl, ⟨g1, g2, g3, g4, g5, g6, F⟩⟩
  case rest =>
    obtain ⟨rfl, S3⟩ := hcut
    clear S0 hE2
    obtain ⟨g1, g2, g3, g4, g5, g6, F⟩ := S3
    by_cases hdd : d ≤ d'
    · by_cases hll : l ≤ l'
      · have S3 : GS2 w w.heap.size w.heap.size (w.heap.size + 1) l d c l' d' c' wc := ⟨g1, g2, g3, g4, g5, g6, F⟩
        clear g1 g2 g3 g4 g5 g6 F
        have Hn := Lib.hid (H.out.trans (show _ = decide (wd ≤ wd') by simp [hdd, hll]))
        go_wp2_with fail
        go_region_held3 (GS2 w w.heap.size w.heap.size (w.heap.size + 1) l d c l' d' c')
          (first | assumption | exact GS2.drew ‹_›)
          (first
            | (go_at_call_of 91 (Value.agg #[.int .i64 l, .int .i64 d, .int .i64 c]); (with_reducible refine (HW.out _).mono ?_); rintro e wA ⟨rfl, hbA⟩; have SA : GS2 w w.heap.size w.heap.size (w.heap.size + 1) l d c l' d' c' wA := GS2.later (by first | assumption | exact GS2.drew ‹_›) hbA; clear hbA)
            | (go_at_call_of 91 (Value.agg #[.int .i64 l', .int .i64 d', .int .i64 c']); (with_reducible refine (HW'.out _).mono ?_); rintro e wB ⟨rfl, hbB⟩; have SB : GS2 w w.heap.size w.heap.size (w.heap.size + 1) l d c l' d' c' wB := GS2.later (by first | assumption | exact GS2.drew ‹_›) hbB; clear hbB))
        go_wp2
        go_ret
        exact ⟨by rw [Hn.out]; rfl, SA.2.2.2.2.2.2⟩
      · have Hn := Lib.hid (H.out.trans (decide_eq_false (by omega)))
        have e1 : decide (d ≤ d') = true := decide_eq_true hdd
        have e2 : decide (l ≤ l') = false := decide_eq_false hll
        go_wp2_with fail
        go_quiet (fail)
        go_wp2
        go_ret
        exact ⟨by rw [Hn.out]; rfl, F.trans (belowN _ _ _)⟩
    · have Hn := Lib.hid (H.out.trans (decide_eq_false (by omega)))
      have e1 : decide (d ≤ d') = false := decide_eq_false hdd
      go_wp2_with fail
      go_quiet (fail)
      go_wp2
      go_ret
      exact ⟨by rw [Hn.out]; rfl, F.trans (belowN _ _ _)⟩
set_option maxHeartbeats 1000000 in
theorem can_any (l d c l' d' c' : Int) (w : World) (hl : -9223372036854775808 ≤ l ∧ l ≤ 9223372036854775807) (hd : -9223372036854775808 ≤ d ∧ d ≤ 9223372036854775807) (hc : -9223372036854775808 ≤ c ∧ c ≤ 9223372036854775807)
    (hl' : -9223372036854775808 ≤ l' ∧ l' ≤ 9223372036854775807) (hd' : -9223372036854775808 ≤ d' ∧ d' ≤ 9223372036854775807) (hc' : -9223372036854775808 ≤ c' ∧ c' ≤ 9223372036854775807) :
    Calls Tryd.prog 86 #[.agg #[.int .i64 l, .int .i64 d, .int .i64 c], .agg #[.int .i64 l', .int .i64 d', .int .i64 c']] w fun e w' => e = .returned (.bool (gCan l d c l' d' c')) ∧ Below w.heap.size w w' := by
  have S0 := gs2_start w l d c l' d' c' 30 30 (0, 0) (0, 0)
  cases hG : gOk l d c
  · have H : Hid (gCan l d c l' d' c' = false) := by unfold gCan; rw [hG]; rfl
    have HG := Lib.hid hG
    clear hG
    go_enter Tryd.func86, Tryd.ntmps86
    go_wp2_with fail
    (with_reducible refine (check_no l d c _ HG hl hd hc).mono ?_); rintro e w1 ⟨rfl, hb⟩
    have S1 := S0.later hb
    clear hb S0
    go_wp2_with fail
    go_ret
    exact ⟨by rw [H.out]; rfl, S1.2.2.2.2.2.2⟩
  · have HG := Lib.hid hG
    cases hG' : gOk l' d' c'
    · have H : Hid (gCan l d c l' d' c' = false) := by unfold gCan; rw [hG, hG']; rfl
      have HG' := Lib.hid hG'
      clear hG hG'
      go_enter Tryd.func86, Tryd.ntmps86
      go_wp2_with fail
      (with_reducible refine (check_yes l d c _ HG hl hd hc).mono ?_); rintro e w1 ⟨rfl, hb⟩
      have S1 := S0.later hb
      clear hb S0
      obtain ⟨g1, g2, g3, g4, g5, g6, F⟩ := S1
      go_wp2_with fail
      (with_reducible refine (check_no l' d' c' _ HG' hl' hd' hc').mono ?_); rintro e w2 ⟨rfl, hb⟩
      have S2 := GS2.later ⟨g1, g2, g3, g4, g5, g6, F⟩ hb
      clear hb g1 g2 g3 g4 g5 g6 F
      go_wp2_with fail
      go_ret
      exact ⟨by rw [H.out]; rfl, S2.2.2.2.2.2.2⟩
    · have HG' := Lib.hid hG'
      cases hE : gEq l d c l' d' c'
      · exact can_ne l d c l' d' c' w hl hd hc hl' hd' hc' HG HG' (Lib.hid hE)
      · obtain ⟨rfl, rfl, rfl⟩ := gEq_yes hE
        have H : Hid (gCan l d c l d c = false) := by unfold gCan; rw [hE, Bool.not_true, Bool.and_false, Bool.false_and]; rfl
        clear hG hG' hE
        go_enter Tryd.func86, Tryd.ntmps86
        go_wp2_with fail
        (with_reducible refine (check_yes l d c _ HG hl hd hc).mono ?_); rintro e w1 ⟨rfl, hb⟩
        have S1 := S0.later hb
        clear hb S0
        obtain ⟨g1, g2, g3, g4, g5, g6, F⟩ := S1
        go_wp2_with fail
        (with_reducible refine (check_yes l d c _ HG hl hd hc).mono ?_); rintro e w2 ⟨rfl, hb⟩
        have S2 := GS2.later ⟨g1, g2, g3, g4, g5, g6, F⟩ hb
        clear hb g1 g2 g3 g4 g5 g6 F
        obtain ⟨g1, g2, g3, g4, g5, g6, F⟩ := S2
        go_wp2_with fail
        go_ret
        exact ⟨by rw [H.out]; rfl, F⟩
end Go.Proofs.YtcjmebnbbpllnaaDoor
end
section
set_option linter.unusedVariables false
set_option linter.unusedSimpArgs false
namespace Go.Proofs.YtcjmebnbbpllnaaDoor
open Go.RowKit

def inB (a n b : Int) : Bool := decide (a ≤ n ∧ n ≤ b)
theorem inB_yes {a n b : Int} (h : a ≤ n ∧ n ≤ b) : inB a n b = true := decide_eq_true h
theorem inB_no {a n b : Int} (h : ¬ (a ≤ n ∧ n ≤ b)) : inB a n b = false := decide_eq_false h
theorem suWithin_any (n a b : Int) (w : World) (hn : (-9223372036854775808 ≤ n ∧ n ≤ 9223372036854775807)) (ha : (-9223372036854775808 ≤ a ∧ a ≤ 9223372036854775807)) (hb : (-9223372036854775808 ≤ b ∧ b ≤ 9223372036854775807)) :
    Calls Tryd.prog 75 #[.int .i64 n, .int .i64 a, .int .i64 b] w fun e w' => e = .returned (.bool (inB a n b)) ∧ w' = w := by
  by_cases h1 : a ≤ n
  · by_cases h2 : n ≤ b
    · have H := Lib.hid (show inB a n b = true from inB_yes ⟨h1, h2⟩)
      go_enter Tryd.func75, Tryd.ntmps75
      go_wp2
      go_ret
      exact ⟨by rw [H.out]; rfl, rfl⟩
    · have H := Lib.hid (show inB a n b = false from inB_no (by omega))
      go_enter Tryd.func75, Tryd.ntmps75
      go_wp2
      go_ret
      exact ⟨by rw [H.out]; rfl, rfl⟩
  · have H := Lib.hid (show inB a n b = false from inB_no (by omega))
    go_enter Tryd.func75, Tryd.ntmps75
    go_wp2
    go_ret
    exact ⟨by rw [H.out]; rfl, rfl⟩
theorem suAimed_any (s : Su) (w : World) (h : Su64 s) :
    Calls Tryd.prog 77 #[.agg #[.int .i64 s.g, .int .i64 s.al, .int .i64 s.ad, .int .i64 s.ac, .int .i64 s.bl, .int .i64 s.bd, .int .i64 s.bc, .bool s.r, .int .i64 s.wi, .int .i64 s.ep, .int .i64 s.ou]] w fun e w' => e = .returned (.bool (aimB s)) ∧ Below w.heap.size w w' := by
  obtain ⟨g, al, ad, ac, bl, bd, bc, r, wi, ep, ou⟩ := s
  obtain ⟨hg, hal, had, hac, hbl, hbd, hbc, hwi, hep, hou⟩ := h
  have S0 := ss_new w ⟨g, al, ad, ac, bl, bd, bc, r, wi, ep, ou⟩ 32 (0, 0)
  dsimp only at *
  cases r
  · have H := Lib.hid (show aimB ⟨g, al, ad, ac, bl, bd, bc, false, wi, ep, ou⟩ = decide (bl = 0 ∧ bd = 0 ∧ bc = 0 ∧ wi = 0) from rfl)
    clear S0
    by_cases hz : bl = 0 ∧ bd = 0 ∧ bc = 0
    · obtain ⟨rfl, rfl, rfl⟩ := hz
      by_cases h4 : wi = 0
      · subst h4
        go_enter Tryd.func77, Tryd.ntmps77
        go_wp2
        go_ret
        exact ⟨by rw [H.out]; rfl, below1 _ _⟩
      · have H2 := Lib.hid (H.out.trans (decide_eq_false (by omega)))
        have e4 : (wi == 0) = false := by simpa using h4
        clear h4 H
        go_enter Tryd.func77, Tryd.ntmps77
        go_wp2
        go_ret
        exact ⟨by rw [H2.out]; rfl, below1 _ _⟩
    · have H2 := Lib.hid (H.out.trans (decide_eq_false (by omega)))
      have hz2 : (¬ bl = 0) ∨ (bl = 0 ∧ ¬ bd = 0) ∨ (bl = 0 ∧ bd = 0 ∧ ¬ bc = 0) := by omega
      clear hz H
      rcases hz2 with h1 | ⟨rfl, h1⟩ | ⟨rfl, rfl, h1⟩
      all_goals
        go_enter Tryd.func77, Tryd.ntmps77
        go_wp2
        go_ret
        exact ⟨by rw [H2.out]; rfl, below1 _ _⟩
  · have H := Lib.hid (show aimB ⟨g, al, ad, ac, bl, bd, bc, true, wi, ep, ou⟩ = (gCan al ad ac bl bd bc && inB 0 wi 16) from rfl)
    have HC := Lib.hid (fun W => can_any al ad ac bl bd bc W hal had hac hbl hbd hbc)
    have HW := Lib.hid (fun W => suWithin_any wi 0 16 W hwi (by omega) (by omega))
    generalize gCan al ad ac bl bd bc = can at H HC
    generalize inB 0 wi 16 = wo at H HW
    go_enter Tryd.func77, Tryd.ntmps77
    go_wp2_with fail
    (with_reducible refine (HC.out _).mono ?_); rintro e w1 ⟨rfl, hb⟩
    have S1 := S0.later hb
    clear S0 hb
    obtain ⟨⟨c0, c1, c2, c3, c4, c5, c6, c7, c8, c9, c10⟩, F, hz⟩ := S1
    dsimp only at c0 c1 c2 c3 c4 c5 c6 c7 c8 c9 c10
    cases can
    · go_wp2_with fail
      go_ret
      exact ⟨by rw [H.out]; rfl, F⟩
    · go_wp2_with fail
      (with_reducible refine (HW.out _).mono ?_); rintro e w' ⟨rfl, rfl⟩
      go_wp2_with fail
      go_ret
      exact ⟨by rw [H.out]; rfl, F⟩
set_option maxHeartbeats 1000000 in
theorem suCheck_any (s : Su) (w : World) (h : Su64 s) :
    Calls Tryd.prog 58 #[.agg #[.int .i64 s.g, .int .i64 s.al, .int .i64 s.ad, .int .i64 s.ac, .int .i64 s.bl, .int .i64 s.bd, .int .i64 s.bc, .bool s.r, .int .i64 s.wi, .int .i64 s.ep, .int .i64 s.ou]] w fun e w' => e = .returned (.int .i64 (suErr s)) ∧ Below w.heap.size w w' := by
  have S0 := ss_new w s 32 (0, 0)
  have HA := Lib.hid (fun W => suAimed_any s W h)
  have HG := Lib.hid (fun W => suWithin_any s.g 1 2147483647 W h.g (by omega) (by omega))
  have HE := Lib.hid (fun W => suWithin_any s.ep 0 65535 W h.ep (by omega) (by omega))
  have HO := Lib.hid (fun W => suWithin_any s.ou 0 255 W h.ou (by omega) (by omega))
  have H := Lib.hid (show suOk s = (inB 1 s.g 2147483647 && gOk s.al s.ad s.ac && aimB s && inB 0 s.ep 65535 && inB 0 s.ou 255) from rfl)
  have HK := Lib.hid (fun W (q : gOk s.al s.ad s.ac = true) => check_yes s.al s.ad s.ac W (Lib.hid q) h.al h.ad h.ac)
  have HN := Lib.hid (fun W (q : gOk s.al s.ad s.ac = false) => check_no s.al s.ad s.ac W (Lib.hid q) h.al h.ad h.ac)
  have Hy := Lib.hid (@suErr_yes s)
  have Hn := Lib.hid (@suErr_no s)
  generalize inB 1 s.g 2147483647 = b1 at H HG
  generalize inB 0 s.ep 65535 = b4 at H HE
  generalize inB 0 s.ou 255 = b5 at H HO
  generalize gOk s.al s.ad s.ac = b2 at H HK HN
  generalize aimB s = b3 at H HA
  clear h
  cases b1
  · have R := Lib.hid (Hn.out (H.out.trans (by simp)))
    go_enter Tryd.func58, Tryd.ntmps58
    go_wp2_with fail
    (with_reducible refine (HG.out _).mono ?_); rintro e w' ⟨rfl, rfl⟩
    go_wp2_with fail
    go_ret
    exact ⟨by rw [R.out]; rfl, below1 _ _⟩
  go_enter Tryd.func58, Tryd.ntmps58
  go_wp2_with fail
  (with_reducible refine (HG.out _).mono ?_); rintro e w' ⟨rfl, rfl⟩
  go_wp2_with fail
  cases b2
  · have R := Lib.hid (Hn.out (H.out.trans (by simp)))
    (with_reducible refine (HN.out _ rfl).mono ?_); rintro e w1 ⟨rfl, hb⟩
    have S1 := S0.later hb
    clear hb S0
    go_wp2_with fail
    go_ret
    exact ⟨by rw [R.out]; rfl, S1.2.1⟩
  (with_reducible refine (HK.out _ rfl).mono ?_); rintro e w1 ⟨rfl, hb⟩
  have S1 := S0.later hb
  clear hb S0
  have S1' := Lib.hid S1
  obtain ⟨⟨c0, c1, c2, c3, c4, c5, c6, c7, c8, c9, c10⟩, F, hz⟩ := S1
  go_wp2_with fail
  (with_reducible refine (HA.out _).mono ?_); rintro e w2 ⟨rfl, hb⟩
  have S2 := S1'.out.later hb
  clear hb S1' c0 c1 c2 c3 c4 c5 c6 c7 c8 c9 c10 F hz
  obtain ⟨⟨c0, c1, c2, c3, c4, c5, c6, c7, c8, c9, c10⟩, F, hz⟩ := S2
  cases b3
  · have R := Lib.hid (Hn.out (H.out.trans (by simp)))
    go_wp2_with fail
    go_ret
    exact ⟨by rw [R.out]; rfl, F⟩
  go_wp2_with fail
  (with_reducible refine (HE.out _).mono ?_); rintro e w' ⟨rfl, rfl⟩
  cases b4
  · have R := Lib.hid (Hn.out (H.out.trans (by simp)))
    go_wp2_with fail
    go_ret
    exact ⟨by rw [R.out]; rfl, F⟩
  go_wp2_with fail
  (with_reducible refine (HO.out _).mono ?_); rintro e w' ⟨rfl, rfl⟩
  cases b5
  · have R := Lib.hid (Hn.out (H.out.trans (by simp)))
    go_wp2_with fail
    go_ret
    exact ⟨by rw [R.out]; rfl, F⟩
  have R := Lib.hid (Hy.out (H.out.trans (by simp)))
  go_wp2_with fail
  go_ret
  exact ⟨by rw [R.out]; rfl, F⟩
theorem suCheck_yes (s : Su) (w : World) (h : Su64 s) (hk : Hid (suOk s = true)) :
    Calls Tryd.prog 58 #[.agg #[.int .i64 s.g, .int .i64 s.al, .int .i64 s.ad, .int .i64 s.ac, .int .i64 s.bl, .int .i64 s.bd, .int .i64 s.bc, .bool s.r, .int .i64 s.wi, .int .i64 s.ep, .int .i64 s.ou]] w fun e w' => e = .returned (.int .i64 0) ∧ Below w.heap.size w w' := by
  have := suCheck_any s w h
  rwa [suErr_yes hk.out] at this
theorem suCheck_no (s : Su) (w : World) (h : Su64 s) (hk : Hid (suOk s = false)) :
    Calls Tryd.prog 58 #[.agg #[.int .i64 s.g, .int .i64 s.al, .int .i64 s.ad, .int .i64 s.ac, .int .i64 s.bl, .int .i64 s.bd, .int .i64 s.bc, .bool s.r, .int .i64 s.wi, .int .i64 s.ep, .int .i64 s.ou]] w fun e w' => e = .returned (.int .i64 1) ∧ Below w.heap.size w w' := by
  have := suCheck_any s w h
  rwa [suErr_no hk.out] at this
end Go.Proofs.YtcjmebnbbpllnaaDoor
end
section
namespace Go.Proofs.YtcjmebnbbpllnaaDoor
open Go.RowKit

def TabOk (w : World) : Prop := ∀ i, i < 16 → w.cell? ⟨0, i, none⟩ = some (.int .u32 ((nibs.getD i 0 : Nat) : Int))
theorem and15 (s : Nat) (h : s < 4294967296) : bits .and .u32 (s : Int) 15 = ((s % 16 : Nat) : Int) := by
  have := u32_and_nat s 15 h (by decide)
  rw [show ((15 : Nat) : Int) = 15 from rfl] at this
  rw [this, nat_mask4]
theorem shr_xor (s n : Nat) (h : s < 4294967296) (hn : n < 4294967296) : bits .xor .u32 ((s : Int) / 16) (n : Int) = (((s / 16) ^^^ n : Nat) : Int) := by
  have := u32_xor_nat (s / 16) n (by omega) hn
  rw [← this]; rfl
theorem TabOk.below {w w' : World} {B : Nat} (h : TabOk w) (hb : Below B w w') (hB : 0 < B) : TabOk w' := fun i hi => (hb.cell (p := ⟨0, i, none⟩) hB).trans (h i hi)
theorem TabOk.pos {w : World} (h : TabOk w) : 0 < w.heap.size := World.block_lt_of_cell? w ⟨0, 0, none⟩ (h 0 (by omega))
set_option maxHeartbeats 400000 in
theorem feed_any (A : Option Addr) (rs : List (List UInt8)) (cp : Nat) (x : Nat) (hx : x < 4294967296) (w : World) (hr : RdR w w.heap.size A rs) (ht : TabOk w) :
    Calls Tryd.prog 87 #[.int .u32 (x : Int), .slice A rs.length cp] w fun e w' => e = .returned (.int .u32 ((feedR x rs : Nat) : Int)) ∧ w' = w := by
  have hm := hr.1
  go_enter Tryd.func87, Tryd.ntmps87
  go_wp2
  go_loop [0, 11] (fun v i => ∃ k : Nat, k ≤ rs.length ∧ i = .int .i64 k ∧ v = .int .u32 ((feedR x (rs.take k) : Nat) : Int)) (fun _ i => rs.length - (intOf i).toNat)
  case atStart => exact ⟨0, Nat.zero_le _, rfl, rfl⟩
  case round =>
    obtain ⟨k, hk, rfl, rfl⟩ := hrel
    have hy := feedR_lt (rs.take k) hx
    by_cases hlt : k < rs.length
    · obtain ⟨b, off, rfl, hb, hc⟩ := hr.2 (by omega)
      obtain ⟨A', c', h1, h2⟩ := hc k hlt
      have Hsn := Lib.hid (feedR_snoc x rs k hlt)
      generalize rs.getD k [] = row at h1 h2 Hsn
      generalize feedR x (rs.take k) = y at hy Hsn
      clear hc
      have hlen := h2.1
      go_wp2
      go_loop [0, 17] (fun v i => ∃ j : Nat, j ≤ row.length ∧ i = .int .i64 j ∧ v = .int .u32 ((feedB y (row.take j) : Nat) : Int)) (fun _ i => row.length - (intOf i).toNat)
      case atStart => exact ⟨0, Nat.zero_le _, rfl, rfl⟩
      case round =>
        obtain ⟨j, hj, rfl, rfl⟩ := hrel
        have hz := feedB_lt (row.take j) hy
        by_cases hlt2 : j < row.length
        · obtain ⟨b2, off2, rfl, hb2, hc2⟩ := h2.2 (by omega)
          have h3 := hc2 j hlt2
          have Hsn2 := Lib.hid (feedB_snoc y row j hlt2)
          generalize row.getD j 0 = c at h3 Hsn2
          generalize feedB y (row.take j) = z at hz Hsn2
          have hcb : c.toNat < 256 := c.toNat_lt
          clear hc2
          have e0 := u32_xor_nat z c.toNat hz (by omega)
          have hs0 := xor_lt32 hz (show c.toNat < 4294967296 by omega)
          have Hst : Hid (stepB z c = half (half (z ^^^ c.toNat))) := rfl
          generalize z ^^^ c.toNat = s0 at e0 hs0 Hst
          have e1 := and15 s0 hs0
          have t1 := ht (s0 % 16) (by omega)
          have n1 := nibs_lt (s0 % 16)
          have e2 := shr_xor s0 _ hs0 n1
          have hs1 := half_lt hs0
          rw [show (s0 / 16) ^^^ nibs.getD (s0 % 16) 0 = half s0 from rfl] at e2
          generalize half s0 = s1 at e2 hs1 Hst
          generalize nibs.getD (s0 % 16) 0 = m1 at t1 n1 e2
          have e3 := and15 s1 hs1
          have t2 := ht (s1 % 16) (by omega)
          have n2 := nibs_lt (s1 % 16)
          have e4 := shr_xor s1 _ hs1 n2
          have hs2 := half_lt hs1
          rw [show (s1 / 16) ^^^ nibs.getD (s1 % 16) 0 = half s1 from rfl] at e4
          generalize half s1 = s2 at e4 hs2 Hst
          generalize nibs.getD (s1 % 16) 0 = m2 at t2 n2 e4
          go_wp2
          go_round
          case rel => exact ⟨j + 1, by omega, by go_num, by rw [Hsn2.out, Hst.out]⟩
          case measure => simp [intOf]; omega
        · obtain rfl : j = row.length := by omega
          go_wp2
          go_round
          case rel => exact ⟨k + 1, by omega, by go_num, by rw [Hsn.out, List.take_length]⟩
          case measure => simp [intOf]; omega
    · obtain rfl : k = rs.length := by omega
      go_wp2
      go_ret
      exact ⟨rfl, rfl⟩
end Go.Proofs.YtcjmebnbbpllnaaDoor
end
section
namespace Go.Proofs.YtcjmebnbbpllnaaDoor
open Go.RowKit

theorem stampByte_any (x k : Nat) (hx : x < 4294967296) (hk : k < 4) (w : World) :
    Calls Tryd.prog 79 #[.int .u32 (x : Int), .int .i64 (k : Int)] w fun e w' => e = .returned (.int .u8 ((beB x k).toNat : Int)) ∧ w' = w := by
  match k, hk with
  | 0, _ =>
    go_enter Tryd.func79, Tryd.ntmps79
    go_wp2
    go_ret
    exact ⟨congrArg (fun z => Ending.returned (.int .u8 z)) (by simp only [beB, UInt8.toNat_ofNat']; omega), rfl⟩
  | 1, _ =>
    go_enter Tryd.func79, Tryd.ntmps79
    go_wp2
    go_ret
    exact ⟨congrArg (fun z => Ending.returned (.int .u8 z)) (by simp only [beB, UInt8.toNat_ofNat']; omega), rfl⟩
  | 2, _ =>
    go_enter Tryd.func79, Tryd.ntmps79
    go_wp2
    go_ret
    exact ⟨congrArg (fun z => Ending.returned (.int .u8 z)) (by simp only [beB, UInt8.toNat_ofNat']; omega), rfl⟩
  | 3, _ =>
    go_enter Tryd.func79, Tryd.ntmps79
    go_wp2
    go_ret
    exact ⟨congrArg (fun z => Ending.returned (.int .u8 z)) (by simp only [beB, UInt8.toNat_ofNat']; omega), rfl⟩
theorem stampOf_any (A Ap : Option Addr) (c cp : Nat) (bs : List UInt8) (rs : List (List UInt8)) (n : Nat) (w : World) (hn : rs.length = n) (hbs : bs.length = 32) (hc : 32 ≤ c) (hr : RdB w w.heap.size A bs) (hp : RdR w w.heap.size Ap rs) (ht : TabOk w) :
    Calls Tryd.prog 78 #[.slice A 32 c, .slice Ap n cp] w fun e w' => e = .returned (.int .u32 ((sumR (bs.take 28 :: rs) : Nat) : Int)) ∧ Below w.heap.size w w' := by
  subst hn
  have hpos := ht.pos
  have hl1 := feedR_lt (x := 4294967295) [bs.take 28] (by decide)
  have hl2 := feedR_lt rs hl1
  have C1 : Hid (∀ W, W.heap[w.heap.size]? = some (.cells #[.slice A 28 c] 38) → Below w.heap.size w W → Calls Tryd.prog 87 #[.int .u32 4294967295, .slice (some ⟨w.heap.size, 0, none⟩) 1 1] W
      fun e w' => e = .returned (.int .u32 ((feedR 4294967295 [bs.take 28] : Nat) : Int)) ∧ w' = W) :=
    Lib.hid fun W hg hb => feed_any _ [bs.take 28] 1 4294967295 (by decide) W (rdr_cells hg (by have := (Array.getElem?_eq_some_iff.1 hg).1; omega) (by simp) fun k hk => by
      obtain rfl : k = 0 := by simp at hk; omega
      exact ⟨A, c, by simp [hbs], ((hr.below hb (Nat.le_refl _)).more hb.size).take 28⟩) (ht.below hb hpos)
  have C2 : Hid (∀ W, Below w.heap.size w W → Calls Tryd.prog 87 #[.int .u32 ((feedR 4294967295 [bs.take 28] : Nat) : Int), .slice Ap rs.length cp] W
      fun e w' => e = .returned (.int .u32 ((feedR (feedR 4294967295 [bs.take 28]) rs : Nat) : Int)) ∧ w' = W) :=
    Lib.hid fun W hb => feed_any Ap rs cp _ hl1 W ((hp.below hb (Nat.le_refl _)).more hb.size) (ht.below hb hpos)
  have e0 : bits .xor .u32 ((feedR (feedR 4294967295 [bs.take 28]) rs : Nat) : Int) 4294967295 = ((sumR (bs.take 28 :: rs) : Nat) : Int) := u32_xor_nat _ 4294967295 hl2 (by decide)
  generalize sumR (bs.take 28 :: rs) = z at e0
  generalize feedR (feedR 4294967295 [bs.take 28]) rs = y2 at C2 e0
  generalize feedR 4294967295 [bs.take 28] = y1 at C1 C2
  have i0 : (28 : Int) ≤ (c : Int) := by omega
  go_enter Tryd.func78, Tryd.ntmps78
  go_wp2_with (first
    | (go_at_call_of 87 (Value.slice (some ⟨w.heap.size, 0, none⟩) 1 1); refine (C1.out _ (hp_new _ _ _ rfl) (below1 _ _)).mono ?_; rintro e w' ⟨rfl, rfl⟩)
    | (go_at_call 87; refine (C2.out _ (below1 _ _)).mono ?_; rintro e w' ⟨rfl, rfl⟩))
  go_ret
  exact ⟨rfl, below1 _ _⟩
theorem stampNo_any (A Ap : Option Addr) (n c np cp : Nat) (w : World) (hn : n ≠ 32) :
    Calls Tryd.prog 61 #[.slice A n c, .slice Ap np cp] w fun e w' => e = .returned (.bool false) ∧ w' = w := by
  have h1 : ((n : Int) != 32) = true := by rw [bne_iff_ne]; omega
  go_enter Tryd.func61, Tryd.ntmps61
  go_wp2
  go_ret
  exact ⟨rfl, rfl⟩
set_option maxHeartbeats 400000 in
theorem stamp_any (g cap B : Nat) (Ap : Option Addr) (cp : Nat) (bs : List UInt8) (rs : List (List UInt8)) (n : Nat) (w : World) (hn : rs.length = n) (h : OwB 5 w B (.slice (some ⟨g, 0, none⟩) 32 cap) bs) (hbs : bs.length = 32)
    (hp : RdR w w.heap.size Ap rs) (ht : TabOk w) :
    Calls Tryd.prog 61 #[.slice (some ⟨g, 0, none⟩) 32 cap, .slice Ap n cp] w fun e w' => e = .returned (.bool true) ∧ OwB 5 w' B (.slice (some ⟨g, 0, none⟩) 32 cap) (stamped bs rs) ∧ w.grownBy w' (some g) := by
  obtain ⟨A', cap', hv, hcap, hrd⟩ := h.rd
  injection hv with hA hbl hcc
  clear hbl
  subst hA hcc
  have C1 := Lib.hid (stampOf_any (some ⟨g, 0, none⟩) Ap cap cp bs rs n w hn hbs (by omega) hrd hp ht)
  have hx := sumR_lt (bs.take 28 :: rs)
  have Hf := Lib.hid (stampK_four bs (sumR (bs.take 28 :: rs)) hbs)
  rw [show bs.take 28 ++ be4 (sumR (bs.take 28 :: rs)) = stamped bs rs from rfl] at Hf
  generalize sumR (bs.take 28 :: rs) = x at C1 hx Hf
  have hg : g < w.heap.size := (h.lt g rfl).2
  have hc0 : (28 : Int) ≤ (cap : Int) := by omega
  have hc1 : 32 ≤ cap := by omega
  clear hrd
  go_enter Tryd.func61, Tryd.ntmps61
  go_wp2_with (go_at_call 78; refine C1.out.mono ?_; rintro e w1 ⟨rfl, hb1⟩)
  go_loopw [16] (fun i wr => ∃ k : Nat, k ≤ 4 ∧ i = .int .i64 k ∧ OwB 5 wr B (.slice (some ⟨g, 0, none⟩) 32 cap) (stampK bs x k) ∧ w.grownBy wr (some g)) (fun i _ => 4 - (intOf i).toNat)
  case atStart => exact ⟨0, by omega, rfl, h.below hb1, grown_of_below hb1 _⟩
  case round =>
    obtain ⟨k, hk, rfl, hown, hgr⟩ := hrel
    by_cases hlt : k < 4
    · obtain ⟨hc, hf⟩ := hown.cell ((stampK_len bs x k).trans hbs) (28 + k) (by omega)
      have Hset := Lib.hid (hown.set ((stampK_len bs x k).trans hbs) (28 + k) (beB x k))
      rw [← stampK_succ] at Hset
      go_wp2_with (go_at_call 79; refine (stampByte_any x k hx hlt _).mono ?_; rintro e w' ⟨rfl, rfl⟩)
      go_roundw
      case rel => exact ⟨k + 1, by omega, by go_num, Hset.out.1, hgr.trans Hset.out.2⟩
      case measure => simp [intOf]; omega
    · obtain rfl : k = 4 := by omega
      rw [Hf.out] at hown
      go_wp2
      go_ret
      exact ⟨rfl, hown, hgr⟩
/-- Stamped with one part, whose list the call's statement makes. -/
theorem stamp_one (g cap B : Nat) (A : Option Addr) (c n : Nat) (bs q : List UInt8) (t : TypeId) (W : World) (hn : q.length = n) (h : OwB 5 W B (.slice (some ⟨g, 0, none⟩) 32 cap) bs) (hbs : bs.length = 32) (hq : RdB W W.heap.size A q) (ht : TabOk W) :
    Calls Tryd.prog 61 #[.slice (some ⟨g, 0, none⟩) 32 cap, .slice (some ⟨W.heap.size, 0, none⟩) 1 1] (W.alloc (.cells #[.slice A n c] t)) fun e w' => e = .returned (.bool true) ∧ OwB 5 w' B (.slice (some ⟨g, 0, none⟩) 32 cap) (stamped bs [q]) ∧ W.grownBy w' (some g) := by
  subst hn
  refine (stamp_any g cap B _ 1 bs [q] 1 _ rfl (h.below (below1 W _)) hbs (rdr_cells (hp_new _ _ _ rfl) (by simp) (by simp) fun k hk => by
    obtain rfl : k = 0 := by simp at hk; omega
    exact ⟨A, c, rfl, (hq.below (below1 W _) (Nat.le_refl _)).more (by simp)⟩) (ht.below (below1 W _) ht.pos)).mono ?_
  rintro e w' ⟨h1, h2, h3⟩
  exact ⟨h1, h2, (grown_of_below (below1 W _) _).trans h3⟩
theorem stamp_n (g cap B m : Nat) (Ap : Option Addr) (cp : Nat) (bs : List UInt8) (rs : List (List UInt8)) (n : Nat) (w : World) (hm : m = 32) (hn : rs.length = n) (h : OwB 5 w B (.slice (some ⟨g, 0, none⟩) m cap) bs) (hbs : bs.length = 32)
    (hp : RdR w w.heap.size Ap rs) (ht : TabOk w) :
    Calls Tryd.prog 61 #[.slice (some ⟨g, 0, none⟩) m cap, .slice Ap n cp] w fun e w' => e = .returned (.bool true) ∧ OwB 5 w' B (.slice (some ⟨g, 0, none⟩) m cap) (stamped bs rs) ∧ w.grownBy w' (some g) := by
  subst hm
  exact stamp_any g cap B Ap cp bs rs n w hn h hbs hp ht
end Go.Proofs.YtcjmebnbbpllnaaDoor
end
section
set_option linter.unusedVariables false
set_option linter.unusedSimpArgs false
namespace Go.Proofs.YtcjmebnbbpllnaaDoor
open Go.RowKit

def setsB (bs : List UInt8) : Nat → List UInt8 → List UInt8
  | _, [] => bs
  | o, x :: r => setsB (bs.set o x) (o + 1) r
theorem setsB_len : ∀ (xs : List UInt8) (o : Nat) (bs : List UInt8), (setsB bs o xs).length = bs.length
  | [], _, _ => rfl
  | x :: r, o, bs => (setsB_len r (o + 1) _).trans (List.length_set ..)
theorem OwB.sets {e : TypeId} {B g n cap : Nat} : ∀ (xs : List UInt8) (o : Nat) {w : World} {bs : List UInt8}, OwB e w B (.slice (some ⟨g, 0, none⟩) n cap) bs → bs.length = n →
    OwB e (w.setCells g o (xs.map fun x => Value.int .u8 (x.toNat : Int))) B (.slice (some ⟨g, 0, none⟩) n cap) (setsB bs o xs) ∧ w.grownBy (w.setCells g o (xs.map fun x => Value.int .u8 (x.toNat : Int))) (some g)
  | [], _, w, _, h, _ => ⟨h, World.grownBy.refl w _⟩
  | x :: r, o, w, bs, h, hn => by
    obtain ⟨h1, h2⟩ := h.set hn o x
    obtain ⟨h3, h4⟩ := OwB.sets r (o + 1) h1 ((List.length_set ..).trans hn)
    exact ⟨h3, h2.trans h4⟩
theorem size_u8' (w : World) : (Go.sizeOf 5).run Tryd.prog w = .ok 1 w := by kernel_rfl
/-- copy(own, a text). -/
theorem wpList_copy_S {w : World} {ops : Array Oper} {rest : List Oper} {o : Oper} {a : Act} {Q : Exit → Act → World → Prop} (hw : Region.wanted o (yielded ops a.tmps) = true) (d x : Operand)
    (ho : o.op = .call { callee := .builtin .copy, args := #[d, x], argTypes := #[38, 9] })
    (g n cap B : Nat) (ds xs : List UInt8) (hd : a.eval d = .slice (some ⟨g, 0, none⟩) n cap) (hx : a.eval x = .string ⟨xs.toArray⟩) (hown : OwB 5 w B (.slice (some ⟨g, 0, none⟩) n cap) ds) (hdn : ds.length = n) (hle : xs.length ≤ n)
    (h : ∀ w', OwB 5 w' B (.slice (some ⟨g, 0, none⟩) n cap) (setsB ds 0 xs) → w.grownBy w' (some g) → ∀ r : Value, wpList Tryd.prog ops Q rest (a.put o.dst r) w') : wpList Tryd.prog ops Q (o :: rest) a w := by
  refine BigFrame.wpList_want hw fun K hK => ?_
  have hsz : (⟨xs.toArray⟩ : ByteArray).size = xs.length := by show xs.toArray.size = _; simp
  have hrun := Go.run_copy_string (P := Tryd.prog) w 38 9 o.type 5 g 0 n cap ⟨xs.toArray⟩ Tryd.underlying38 size_u8' (by rw [hsz]; exact hle)
    (fun j hj => by rw [Nat.zero_add, (hown.cell hdn j (by omega)).1]; rfl) (fun j hj => by rw [Nat.zero_add]; exact (hown.cell hdn j (by omega)).2)
  obtain ⟨h1, h2⟩ := hown.sets xs 0 hdn
  unfold Oper.wp execOp
  simp only [ho, resolve, invoke, builtin, Sem.run_bind, Sem.run_pure, Result.andThen_ok, List.map_toArray, List.map_cons, List.map_nil, hd, hx, hrun]
  exact hK _ _ (h _ h1 h2 _)
/-- What stays while a Super's sector is made. -/
structure ENC (w0 : World) (bx g : Nat) (s : Su) (bs : List UInt8) (W : World) : Prop where
  box : SAt W bx s
  own : OwB 5 W w0.heap.size (.slice (some ⟨g, 0, none⟩) 32 32) bs
  len : bs.length = 32
  below : Below w0.heap.size w0 W
  ne : bx ≠ g
  le : w0.heap.size ≤ g
theorem SAt.grown {w w' : World} {b g : Nat} {s : Su} (h : SAt w b s) (hg : w.grownBy w' (some g)) (hne : b ≠ g) : SAt w' b s := by
  have hl := h.lt
  exact h.keep fun k => hg.cell_far ⟨b, k, none⟩ hl (fun e => hne (by injection e))
theorem ENC.drew {w0 W : World} {bx g : Nat} {s : Su} {bs : List UInt8} (h : ENC w0 bx g s bs W) : ENC w0 bx g s bs W.drew := ⟨h.box, h.own.drew, h.len, h.below.drew, h.ne, h.le⟩
theorem ENC.step {w0 W W' : World} {bx g : Nat} {s : Su} {bs bs' : List UInt8} (h : ENC w0 bx g s bs W) (ho : OwB 5 W' w0.heap.size (.slice (some ⟨g, 0, none⟩) 32 32) bs') (hg : W.grownBy W' (some g)) (hl : bs'.length = bs.length) : ENC w0 bx g s bs' W' :=
  ⟨h.box.grown hg h.ne, ho, hl.trans h.len, h.below.grown hg h.below.size (fun j e => by injection e with e; subst e; exact h.le), h.ne, h.le⟩
theorem ENC.put {w0 W : World} {bx g : Nat} {s : Su} {bs : List UInt8} (h : ENC w0 bx g s bs W) (off len cap : Nat) (n : Int) (hn : 0 ≤ n ∧ n ≤ 2147483647) (hl : off + len ≤ 32) (h4 : len ≤ 4) (hc : len ≤ cap) :
    Calls Tryd.prog 59 #[.slice (some ⟨g, off, none⟩) len cap, .int .i64 n] W fun e w' => e = .returned (.tuple #[]) ∧ ENC w0 bx g s (putK bs off len n len) w' := by
  refine (suPut_any g off len cap 32 _ n bs W hn h.own h.len hl h4 hc).mono ?_
  rintro e w' ⟨rfl, h1, h2⟩
  exact ⟨rfl, h.step h1 h2 (putK_len _ _ _ _ _)⟩
theorem ENC.putG {w0 W : World} {bx g : Nat} {s : Su} {bs : List UInt8} (h : ENC w0 bx g s bs W) (off cap : Nat) (l d c : Int) (hl : 0 ≤ l ∧ l ≤ 255) (hd : 0 ≤ d ∧ d ≤ 255) (hc : 0 ≤ c ∧ c ≤ 255) (hoc : (off = 8 ∧ cap = 24) ∨ (off = 11 ∧ cap = 21)) :
    Calls Tryd.prog 60 #[.slice (some ⟨g, off, none⟩) 3 cap, .agg #[.int .i64 l, .int .i64 d, .int .i64 c]] W fun e w' => e = .returned (.tuple #[]) ∧ ENC w0 bx g s (putK (putK (putK bs off 1 l 1) (off + 1) 1 d 1) (off + 2) 1 c 1) w' := by
  refine (suPutG_any g off cap _ l d c bs W hl hd hc h.own h.len hoc).mono ?_
  rintro e w' ⟨rfl, h1, h2⟩
  exact ⟨rfl, h.step h1 h2 (by rw [putK_len, putK_len, putK_len])⟩
theorem suEncode_no (s : Su) (w : World) (h : Su64 s) (hk : Hid (suOk s = false)) :
    Calls Tryd.prog 30 #[.agg #[.int .i64 s.g, .int .i64 s.al, .int .i64 s.ad, .int .i64 s.ac, .int .i64 s.bl, .int .i64 s.bd, .int .i64 s.bc, .bool s.r, .int .i64 s.wi, .int .i64 s.ep, .int .i64 s.ou]] w fun e w' => e = .returned (.tuple #[.slice none 0 0, .int .i64 1]) ∧ Below w.heap.size w w' := by
  have C := Lib.hid (fun W => suCheck_no s W h hk)
  have S0 := ss_new w s 32 (0, 0)
  go_enter Tryd.func30, Tryd.ntmps30
  go_wp2_with fail
  (with_reducible refine (C.out _).mono ?_); rintro e w1 ⟨rfl, hb⟩
  have S1 := S0.later hb
  go_wp2_with fail
  go_ret2
  exact ⟨rfl, S1.2.1⟩
theorem suLast (s : Su) : putK (putK (putK ((putK (putK (putK (putK (putK (putK (putK (setsB (List.replicate 32 0) 0 [87, 83, 85, 80]) 4 4 s.g 4) 8 1 s.al 1) 9 1 s.ad 1) 10 1 s.ac 1) 11 1 s.bl 1) 12 1 s.bd 1) 13 1 s.bc 1).set 14 (rnB s.r)) 15 1 s.wi 1) 16 2 s.ep 2) 18 1 s.ou 1 = suFull s := rfl
end Go.Proofs.YtcjmebnbbpllnaaDoor
end
section
set_option linter.unusedVariables false
set_option linter.unusedSimpArgs false
namespace Go.Proofs.YtcjmebnbbpllnaaDoor
open Go.RowKit

theorem makeSec (w : World) : (Instr.makeSlice 38 (.int .i64 32) (.int .i64 32)).run Tryd.prog w = .ok (.slice (some ⟨w.heap.size, 0, none⟩) 32 32) (w.alloc (.cells (zcells 32) 5)) := make_bytes 32 (by omega) w
set_option maxHeartbeats 4000000 in
theorem suEncode_yes (s : Su) (w : World) (h : Su64 s) (hk : Hid (suOk s = true)) (ht : TabOk w) :
    Calls Tryd.prog 30 #[.agg #[.int .i64 s.g, .int .i64 s.al, .int .i64 s.ad, .int .i64 s.ac, .int .i64 s.bl, .int .i64 s.bd, .int .i64 s.bc, .bool s.r, .int .i64 s.wi, .int .i64 s.ep, .int .i64 s.ou]] w fun e w' => ∃ g : Nat, e = .returned (.tuple #[.slice (some ⟨g, 0, none⟩) 32 32, .int .i64 0]) ∧ OwB 5 w' w.heap.size (.slice (some ⟨g, 0, none⟩) 32 32) (suB s) ∧ Below w.heap.size w w' := by
  have C := Lib.hid (fun W => suCheck_yes s W h hk)
  have I := Lib.hid (suIn hk.out)
  have HL := Lib.hid (suLast s)
  have S0 := ss_new w s 32 (0, 0)
  have Ht := Lib.hid ht
  have hmk := makeSec
  clear ht h hk
  go_enter Tryd.func30, Tryd.ntmps30
  go_wp2_with fail
  (with_reducible refine (C.out _).mono ?_); rintro e w1 ⟨rfl, hb⟩
  have S1 := S0.later hb
  clear S0 hb C
  have E0 : ENC w w.heap.size w1.heap.size s (List.replicate 32 0) (w1.alloc (.cells (zcells 32) 5)) := by
    have O := own_make 5 w1 32 (by omega)
    exact ⟨S1.1.below (below1 w1 _) S1.2.2, O.le S1.2.1.size, by simp, S1.2.1.trans ((below1 w1 _).mono S1.2.1.size), by have := S1.2.2; omega, S1.2.1.size⟩
  clear S1
  generalize hW : w1.alloc (.cells (zcells 32) 5) = W0 at E0
  go_wp2_with (refine wpList_copy_S rfl _ _ rfl w1.heap.size 32 32 w.heap.size (List.replicate 32 0) [87, 83, 85, 80] rfl rfl E0.own E0.len (by decide) ?_; intro w2 o2 g2 rv; have E1 := E0.step o2 g2 (setsB_len _ _ _))
  clear E0 o2 g2 hW
  go_region_held3 (fun W => SAt W w.heap.size s)
    (first | exact E1.box | exact E1.drew.box | exact E2.box | exact E2.drew.box)
    (first
      | (go_at_call 59
         (with_reducible refine (E1.drew.put 4 4 28 s.g (by have := I.out.g; omega) (by omega) (by omega) (by omega)).mono ?_)
         rintro e wx ⟨rfl, E2⟩
         dsimp only))
  clear E1
  go_wp2
  go_region_held3 (fun W => SAt W w.heap.size s)
    (first | exact E2.box | exact E2.drew.box | exact E3.box | exact E3.drew.box)
    (first
      | (go_at_call 60
         (with_reducible refine (E2.drew.putG 8 24 s.al s.ad s.ac I.out.al I.out.ad I.out.ac (.inl ⟨rfl, rfl⟩)).mono ?_)
         rintro e wx ⟨rfl, E3⟩
         dsimp only))
  clear E2
  go_wp2
  go_region_held3 (fun W => SAt W w.heap.size s)
    (first | exact E3.box | exact E3.drew.box | exact E4.box | exact E4.drew.box)
    (first
      | (go_at_call 60
         (with_reducible refine (E3.drew.putG 11 21 s.bl s.bd s.bc I.out.bl I.out.bd I.out.bc (.inr ⟨rfl, rfl⟩)).mono ?_)
         rintro e wx ⟨rfl, E4⟩
         dsimp only))
  clear E3
  obtain ⟨c0, c1, c2, c3, c4, c5, c6, c7, c8, c9, c10⟩ := E4.box
  obtain ⟨q14, f14⟩ := E4.own.cell E4.len 14 (by omega)
  go_upto_if 30 with fail
  go_cut [31, 32] (fun _ _ W => ENC w w.heap.size w1.heap.size s ((putK (putK (putK (putK (putK (putK (putK (setsB (List.replicate 32 0) 0 [87, 83, 85, 80]) 4 4 s.g 4) 8 1 s.al 1) 9 1 s.ad 1) 10 1 s.ac 1) 11 1 s.bl 1) 12 1 s.bd 1) 13 1 s.bc 1).set 14 (rnB s.r)) W)
  case first =>
    have o := E4.own.set E4.len 14 1
    have E5 := E4.step o.1 o.2 (List.length_set ..)
    have Et : Hid (s.r = true → ENC w w.heap.size w1.heap.size s ((putK (putK (putK (putK (putK (putK (putK (setsB (List.replicate 32 0) 0 [87, 83, 85, 80]) 4 4 s.g 4) 8 1 s.al 1) 9 1 s.ad 1) 10 1 s.ac 1) 11 1 s.bl 1) 12 1 s.bd 1) 13 1 s.bc 1).set 14 (rnB s.r)) (wx.setCell ⟨w1.heap.size, 14, none⟩ (.int .u8 1))) := Lib.hid fun hr => by rw [show rnB s.r = 1 by rw [hr]; rfl]; exact E5
    have Ef : Hid (s.r = false → ENC w w.heap.size w1.heap.size s ((putK (putK (putK (putK (putK (putK (putK (setsB (List.replicate 32 0) 0 [87, 83, 85, 80]) 4 4 s.g 4) 8 1 s.al 1) 9 1 s.ad 1) 10 1 s.ac 1) 11 1 s.bl 1) 12 1 s.bd 1) 13 1 s.bc 1).set 14 (rnB s.r)) wx) := Lib.hid fun hr => by rw [show rnB s.r = 0 by rw [hr]; rfl]; exact E4
    clear o E5 E4
    go_wp2_with fail
    all_goals
      go_meet
      first | exact Et.out (by assumption) | exact Ef.out (by assumption)
  case rest =>
    clear E4 c0 c1 c2 c3 c4 c5 c6 c7 c8 c9 c10 q14 f14
    have E5 := hcut
    clear hcut
    go_wp2
    go_region_held3 (fun W => SAt W w.heap.size s)
      (first | exact E5.box | exact E5.drew.box | exact E6.box | exact E6.drew.box)
      (first
        | (go_at_call 59
           (with_reducible refine (E5.drew.put 15 1 17 s.wi (by have := I.out.wi; omega) (by omega) (by omega) (by omega)).mono ?_)
           rintro e wx ⟨rfl, E6⟩
           dsimp only))
    clear E5
    go_wp2
    go_region_held3 (fun W => SAt W w.heap.size s)
      (first | exact E6.box | exact E6.drew.box | exact E7.box | exact E7.drew.box)
      (first
        | (go_at_call 59
           (with_reducible refine (E6.drew.put 16 2 16 s.ep (by have := I.out.ep; omega) (by omega) (by omega) (by omega)).mono ?_)
           rintro e wx ⟨rfl, E7⟩
           dsimp only))
    clear E6
    go_wp2
    go_region_held3 (fun W => SAt W w.heap.size s)
      (first | exact E7.box | exact E7.drew.box | exact E8.box | exact E8.drew.box)
      (first
        | (go_at_call 59
           (with_reducible refine (E7.drew.put 18 1 14 s.ou (by have := I.out.ou; omega) (by omega) (by omega) (by omega)).mono ?_)
           rintro e wx ⟨rfl, E8⟩
           dsimp only))
    clear E7
    rw [HL.out] at E8
    have hw0 : 0 < w.heap.size := Ht.out.pos
    have T := Ht.out.below E8.below hw0
    have S := stamp_n w1.heap.size 32 _ 32 none 0 (suFull s) [] 0 _ rfl rfl E8.own rfl ⟨by simp, fun h => by simp at h⟩ T
    go_wp2_with (go_at_call 61; refine S.mono ?_; rintro e wy ⟨rfl, h1, h2⟩; have E9 := E8.step h1 h2 (stamped_len _ _ rfl))
    go_ret2
    exact ⟨_, rfl, E9.own, E9.below⟩
end Go.Proofs.YtcjmebnbbpllnaaDoor
end
section
namespace Go.Proofs.YtcjmebnbbpllnaaDoor
open Go.RowKit

/-- Bytes as a text. -/
def str (bs : List UInt8) : Value := .string ⟨bs.toArray⟩
theorem conv_str (A : Option Addr) (bs : List UInt8) (n c B : Nat) (w : World) (hn : n = bs.length) (hr : RdB w B A bs) : (convert 38 9 (.slice A n c)).run Tryd.prog w = .ok (str bs) w := by
  subst hn
  rcases Nat.eq_zero_or_pos bs.length with h0 | hp
  · have : bs = [] := List.eq_nil_of_length_eq_zero h0
    subst this
    rcases A with _ | a
    · exact run_convert_bytes_nil w _ _ Tryd.underlying38 Tryd.underlying5 _ _ _ Tryd.underlying9
    · have h := run_convert_bytes_string (P := Tryd.prog) w _ _ _ (some a) 0 c Tryd.underlying38 Tryd.underlying5 Tryd.underlying9
      have h2 := run_bytesToString (P := Tryd.prog) w a 0 c [] (by simp [loadCells, loadCellsFrom])
      exact h.trans h2
  · obtain ⟨b, off, rfl, _, hc⟩ := hr.2 hp
    have h := run_convert_bytes_arg (P := Tryd.prog) w _ _ Tryd.underlying38 Tryd.underlying5 b off bs.length c (bs.map fun x => (x.toNat : Int)) (by simp) (fun i hi => by
      rw [hc i hi]; simp [hi]) _ Tryd.underlying9
    have e : (bs.map fun x => (x.toNat : Int)).map (fun n => UInt8.ofNat n.toNat) = bs := by
      rw [List.map_map]
      exact (List.map_congr_left (g := id) fun x _ => by simp).trans (List.map_id bs)
    rw [h]
    unfold str strOfNums
    rw [e]
theorem str_eql (t : TypeId) (a b : List UInt8) (w : World) : (binOp .eql t (str a) (str b)).run Tryd.prog w = .ok (.bool (a == b)) w := by unfold str; rw [binOp_string_eql]; simp
theorem str_neq (t : TypeId) (a b : List UInt8) (w : World) : (binOp .neq t (str a) (str b)).run Tryd.prog w = .ok (.bool (!(a == b))) w := by unfold str; rw [binOp_string_neq]; simp
end Go.Proofs.YtcjmebnbbpllnaaDoor
end
