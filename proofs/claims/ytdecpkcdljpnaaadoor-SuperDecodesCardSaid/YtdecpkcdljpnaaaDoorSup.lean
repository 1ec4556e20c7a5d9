/- What super.Check computes. -/
import Derived.Test.YtdecpkcdljpnaaaDoorSupBox
import Derived.Test.YtdecpkcdljpnaaaDoorGeoCan
set_option linter.unusedVariables false
set_option linter.unusedSimpArgs false
namespace Go.Proofs.YtdecpkcdljpnaaaDoor
open Go.RowKit

def inB (a n b : Int) : Bool := decide (a ≤ n ∧ n ≤ b)
theorem inB_yes {a n b : Int} (h : a ≤ n ∧ n ≤ b) : inB a n b = true := decide_eq_true h
theorem inB_no {a n b : Int} (h : ¬ (a ≤ n ∧ n ≤ b)) : inB a n b = false := decide_eq_false h
theorem suWithin_any (n a b : Int) (w : World) (hn : (-9223372036854775808 ≤ n ∧ n ≤ 9223372036854775807)) (ha : (-9223372036854775808 ≤ a ∧ a ≤ 9223372036854775807)) (hb : (-9223372036854775808 ≤ b ∧ b ≤ 9223372036854775807)) :
    Calls Tryd.prog 23 #[.int .i64 n, .int .i64 a, .int .i64 b] w fun e w' => e = .returned (.bool (inB a n b)) ∧ w' = w := by
  by_cases h1 : a ≤ n
  · by_cases h2 : n ≤ b
    · have H := Lib.hid (show inB a n b = true from inB_yes ⟨h1, h2⟩)
      go_enter Tryd.func23, Tryd.ntmps23
      go_wp2
      go_ret
      exact ⟨by rw [H.out]; rfl, rfl⟩
    · have H := Lib.hid (show inB a n b = false from inB_no (by omega))
      go_enter Tryd.func23, Tryd.ntmps23
      go_wp2
      go_ret
      exact ⟨by rw [H.out]; rfl, rfl⟩
  · have H := Lib.hid (show inB a n b = false from inB_no (by omega))
    go_enter Tryd.func23, Tryd.ntmps23
    go_wp2
    go_ret
    exact ⟨by rw [H.out]; rfl, rfl⟩
theorem suAimed_any (s : Su) (w : World) (h : Su64 s) :
    Calls Tryd.prog 25 #[.agg #[.int .i64 s.g, .int .i64 s.al, .int .i64 s.ad, .int .i64 s.ac, .int .i64 s.bl, .int .i64 s.bd, .int .i64 s.bc, .bool s.r, .int .i64 s.wi, .int .i64 s.ep, .int .i64 s.ou]] w fun e w' => e = .returned (.bool (aimB s)) ∧ Below w.heap.size w w' := by
  obtain ⟨g, al, ad, ac, bl, bd, bc, r, wi, ep, ou⟩ := s
  obtain ⟨hg, hal, had, hac, hbl, hbd, hbc, hwi, hep, hou⟩ := h
  have S0 := ss_new w ⟨g, al, ad, ac, bl, bd, bc, r, wi, ep, ou⟩ 25 (0, 0)
  dsimp only at *
  cases r
  · have H := Lib.hid (show aimB ⟨g, al, ad, ac, bl, bd, bc, false, wi, ep, ou⟩ = decide (bl = 0 ∧ bd = 0 ∧ bc = 0 ∧ wi = 0) from rfl)
    clear S0
    by_cases hz : bl = 0 ∧ bd = 0 ∧ bc = 0
    · obtain ⟨rfl, rfl, rfl⟩ := hz
      by_cases h4 : wi = 0
      · subst h4
        go_enter Tryd.func25, Tryd.ntmps25
        go_wp2
        go_ret
        exact ⟨by rw [H.out]; rfl, below1 _ _⟩
      · have H2 := Lib.hid (H.out.trans (decide_eq_false (by omega)))
        have e4 : (wi == 0) = false := by simpa using h4
        clear h4 H
        go_enter Tryd.func25, Tryd.ntmps25
        go_wp2
        go_ret
        exact ⟨by rw [H2.out]; rfl, below1 _ _⟩
    · have H2 := Lib.hid (H.out.trans (decide_eq_false (by omega)))
      have hz2 : (¬ bl = 0) ∨ (bl = 0 ∧ ¬ bd = 0) ∨ (bl = 0 ∧ bd = 0 ∧ ¬ bc = 0) := by omega
      clear hz H
      rcases hz2 with h1 | ⟨rfl, h1⟩ | ⟨rfl, rfl, h1⟩
      all_goals
        go_enter Tryd.func25, Tryd.ntmps25
        go_wp2
        go_ret
        exact ⟨by rw [H2.out]; rfl, below1 _ _⟩
  · have H := Lib.hid (show aimB ⟨g, al, ad, ac, bl, bd, bc, true, wi, ep, ou⟩ = (gCan al ad ac bl bd bc && inB 0 wi 16) from rfl)
    have HC := Lib.hid (fun W => can_any al ad ac bl bd bc W hal had hac hbl hbd hbc)
    have HW := Lib.hid (fun W => suWithin_any wi 0 16 W hwi (by omega) (by omega))
    generalize gCan al ad ac bl bd bc = can at H HC
    generalize inB 0 wi 16 = wo at H HW
    go_enter Tryd.func25, Tryd.ntmps25
    go_wp2_with fail
    (with_reducible refine (HC.out _).mono ?_); rintro e w1 ⟨rfl, hb⟩
    have S1 := S0.later hb
    clear S0 hb
    obtain ⟨⟨c0, c1, c2, c3, c4, c5, c6, c7, c8, c9, c10⟩, F, hz⟩ := S1
    dsimp only at c0 c1 c2 c3 c4 c5 c6 c7 c8 c9 c10
    cases can
    · go_wp2_with fail
      go_ret
      exact ⟨by rw [H.out]; rfl, F⟩
    · go_wp2_with fail
      (with_reducible refine (HW.out _).mono ?_); rintro e w' ⟨rfl, rfl⟩
      go_wp2_with fail
      go_ret
      exact ⟨by rw [H.out]; rfl, F⟩
set_option maxHeartbeats 1000000 in
theorem suCheck_any (s : Su) (w : World) (h : Su64 s) :
    Calls Tryd.prog 11 #[.agg #[.int .i64 s.g, .int .i64 s.al, .int .i64 s.ad, .int .i64 s.ac, .int .i64 s.bl, .int .i64 s.bd, .int .i64 s.bc, .bool s.r, .int .i64 s.wi, .int .i64 s.ep, .int .i64 s.ou]] w fun e w' => e = .returned (.int .i64 (suErr s)) ∧ Below w.heap.size w w' := by
  have S0 := ss_new w s 25 (0, 0)
  have HA := Lib.hid (fun W => suAimed_any s W h)
  have HG := Lib.hid (fun W => suWithin_any s.g 1 2147483647 W h.g (by omega) (by omega))
  have HE := Lib.hid (fun W => suWithin_any s.ep 0 65535 W h.ep (by omega) (by omega))
  have HO := Lib.hid (fun W => suWithin_any s.ou 0 255 W h.ou (by omega) (by omega))
  have H := Lib.hid (show suOk s = (inB 1 s.g 2147483647 && gOk s.al s.ad s.ac && aimB s && inB 0 s.ep 65535 && inB 0 s.ou 255) from rfl)
  have HK := Lib.hid (fun W (q : gOk s.al s.ad s.ac = true) => check_yes s.al s.ad s.ac W (Lib.hid q) h.al h.ad h.ac)
  have HN := Lib.hid (fun W (q : gOk s.al s.ad s.ac = false) => check_no s.al s.ad s.ac W (Lib.hid q) h.al h.ad h.ac)
  have Hy := Lib.hid (@suErr_yes s)
  have Hn := Lib.hid (@suErr_no s)
  generalize inB 1 s.g 2147483647 = b1 at H HG
  generalize inB 0 s.ep 65535 = b4 at H HE
  generalize inB 0 s.ou 255 = b5 at H HO
  generalize gOk s.al s.ad s.ac = b2 at H HK HN
  generalize aimB s = b3 at H HA
  clear h
  cases b1
  · have R := Lib.hid (Hn.out (H.out.trans (by simp)))
    go_enter Tryd.func11, Tryd.ntmps11
    go_wp2_with fail
    (with_reducible refine (HG.out _).mono ?_); rintro e w' ⟨rfl, rfl⟩
    go_wp2_with fail
    go_ret
    exact ⟨by rw [R.out]; rfl, below1 _ _⟩
  go_enter Tryd.func11, Tryd.ntmps11
  go_wp2_with fail
  (with_reducible refine (HG.out _).mono ?_); rintro e w' ⟨rfl, rfl⟩
  go_wp2_with fail
  cases b2
  · have R := Lib.hid (Hn.out (H.out.trans (by simp)))
    (with_reducible refine (HN.out _ rfl).mono ?_); rintro e w1 ⟨rfl, hb⟩
    have S1 := S0.later hb
    clear hb S0
    go_wp2_with fail
    go_ret
    exact ⟨by rw [R.out]; rfl, S1.2.1⟩
  (with_reducible refine (HK.out _ rfl).mono ?_); rintro e w1 ⟨rfl, hb⟩
  have S1 := S0.later hb
  clear hb S0
  have S1' := Lib.hid S1
  obtain ⟨⟨c0, c1, c2, c3, c4, c5, c6, c7, c8, c9, c10⟩, F, hz⟩ := S1
  go_wp2_with fail
  (with_reducible refine (HA.out _).mono ?_); rintro e w2 ⟨rfl, hb⟩
  have S2 := S1'.out.later hb
  clear hb S1' c0 c1 c2 c3 c4 c5 c6 c7 c8 c9 c10 F hz
  obtain ⟨⟨c0, c1, c2, c3, c4, c5, c6, c7, c8, c9, c10⟩, F, hz⟩ := S2
  cases b3
  · have R := Lib.hid (Hn.out (H.out.trans (by simp)))
    go_wp2_with fail
    go_ret
    exact ⟨by rw [R.out]; rfl, F⟩
  go_wp2_with fail
  (with_reducible refine (HE.out _).mono ?_); rintro e w' ⟨rfl, rfl⟩
  cases b4
  · have R := Lib.hid (Hn.out (H.out.trans (by simp)))
    go_wp2_with fail
    go_ret
    exact ⟨by rw [R.out]; rfl, F⟩
  go_wp2_with fail
  (with_reducible refine (HO.out _).mono ?_); rintro e w' ⟨rfl, rfl⟩
  cases b5
  · have R := Lib.hid (Hn.out (H.out.trans (by simp)))
    go_wp2_with fail
    go_ret
    exact ⟨by rw [R.out]; rfl, F⟩
  have R := Lib.hid (Hy.out (H.out.trans (by simp)))
  go_wp2_with fail
  go_ret
  exact ⟨by rw [R.out]; rfl, F⟩
theorem suCheck_yes (s : Su) (w : World) (h : Su64 s) (hk : Hid (suOk s = true)) :
    Calls Tryd.prog 11 #[.agg #[.int .i64 s.g, .int .i64 s.al, .int .i64 s.ad, .int .i64 s.ac, .int .i64 s.bl, .int .i64 s.bd, .int .i64 s.bc, .bool s.r, .int .i64 s.wi, .int .i64 s.ep, .int .i64 s.ou]] w fun e w' => e = .returned (.int .i64 0) ∧ Below w.heap.size w w' := by
  have := suCheck_any s w h
  rwa [suErr_yes hk.out] at this
theorem suCheck_no (s : Su) (w : World) (h : Su64 s) (hk : Hid (suOk s = false)) :
    Calls Tryd.prog 11 #[.agg #[.int .i64 s.g, .int .i64 s.al, .int .i64 s.ad, .int .i64 s.ac, .int .i64 s.bl, .int .i64 s.bd, .int .i64 s.bc, .bool s.r, .int .i64 s.wi, .int .i64 s.ep, .int .i64 s.ou]] w fun e w' => e = .returned (.int .i64 1) ∧ Below w.heap.size w w' := by
  have := suCheck_any s w h
  rwa [suErr_no hk.out] at this
end Go.Proofs.YtdecpkcdljpnaaaDoor
