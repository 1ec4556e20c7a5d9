/- The document's own Check of a Super. -/
import Derived.Test.YtiipdhmfdgbmiaaDoorTbaf
import Derived.Test.YtiipdhmfdgbmiaaDoorRefCan
set_option linter.unusedVariables false
set_option linter.unusedSimpArgs false
namespace Go.Proofs.YtiipdhmfdgbmiaaDoor
open Go.RowKit

set_option maxHeartbeats 2000000 in
theorem refCheckSu_any (s : Su) (w : World) (h : Su64 s) :
    Calls Tryd.prog 48 #[.agg #[.int .i64 s.g, .int .i64 s.al, .int .i64 s.ad, .int .i64 s.ac, .int .i64 s.bl, .int .i64 s.bd, .int .i64 s.bc, .bool s.r, .int .i64 s.wi, .int .i64 s.ep, .int .i64 s.ou]] w fun e w' => e = .returned (.bool (suOk s)) ∧ Below w.heap.size w w' := by
  obtain ⟨g, al, ad, ac, bl, bd, bc, r, wi, ep, ou⟩ := s
  obtain ⟨hg, hal, had, hac, hbl, hbd, hbc, hwi, hep, hou⟩ := h
  have S0 := ss_new w ⟨g, al, ad, ac, bl, bd, bc, r, wi, ep, ou⟩ 54 (0, 0)
  dsimp only at *
  have HK := Lib.hid (fun W (q : gOk al ad ac = true) => refCheck_yes al ad ac W (Lib.hid q) hal had hac)
  have HN := Lib.hid (fun W (q : gOk al ad ac = false) => refCheck_no al ad ac W (Lib.hid q) hal had hac)
  have HC := Lib.hid (fun W => refCan_any al ad ac bl bd bc W hal had hac hbl hbd hbc)
  have H := Lib.hid (show suOk ⟨g, al, ad, ac, bl, bd, bc, r, wi, ep, ou⟩ = (decide (1 ≤ g ∧ g ≤ 2147483647) && gOk al ad ac && (if r = true then gCan al ad ac bl bd bc && decide (0 ≤ wi ∧ wi ≤ 16) else decide (bl = 0 ∧ bd = 0 ∧ bc = 0 ∧ wi = 0)) && decide (0 ≤ ep ∧ ep ≤ 65535) && decide (0 ≤ ou ∧ ou ≤ 255)) from rfl)
  generalize suOk ⟨g, al, ad, ac, bl, bd, bc, r, wi, ep, ou⟩ = res at H
  generalize gCan al ad ac bl bd bc = can at H HC
  by_cases a1 : 1 ≤ g
  · by_cases a2 : g ≤ 2147483647
    · cases hok : gOk al ad ac
      · have R := Lib.hid (show res = false by rw [H.out, hok]; simp)
        have HN2 := Lib.hid fun W => HN.out W hok
        clear H HK HN HC hok
        go_enter Tryd.func48, Tryd.ntmps48
        go_wp2_with fail
        (with_reducible refine (HN2.out _).mono ?_); rintro e w1 ⟨rfl, hb⟩
        have S1 := S0.later hb
        clear S0 hb
        go_wp2_with fail
        go_ret
        exact ⟨by rw [R.out]; rfl, S1.2.1⟩
      · rw [hok] at H
        have HK2 := Lib.hid fun W => HK.out W hok
        clear HK HN hok
        go_enter Tryd.func48, Tryd.ntmps48
        go_wp2_with fail
        (with_reducible refine (HK2.out _).mono ?_); rintro e w1 ⟨rfl, hb⟩
        have S1 := S0.later hb
        clear S0 hb HK2
        have S1' := Lib.hid S1
        obtain ⟨⟨c0, c1, c2, c3, c4, c5, c6, c7, c8, c9, c10⟩, F, hz⟩ := S1
        dsimp only at c0 c1 c2 c3 c4 c5 c6 c7 c8 c9 c10
        by_cases e1 : 0 ≤ ep
        · by_cases e2 : ep ≤ 65535
          · by_cases o1 : 0 ≤ ou
            · by_cases o2 : ou ≤ 255
              · have H2 := Lib.hid (show res = (if r = true then can && decide (0 ≤ wi ∧ wi ≤ 16) else decide (bl = 0 ∧ bd = 0 ∧ bc = 0 ∧ wi = 0)) by rw [H.out, decide_eq_true (show 1 ≤ g ∧ g ≤ 2147483647 from ⟨a1, a2⟩), decide_eq_true (show 0 ≤ ep ∧ ep ≤ 65535 from ⟨e1, e2⟩), decide_eq_true (show 0 ≤ ou ∧ ou ≤ 255 from ⟨o1, o2⟩)]; simp)
                clear H
                cases r
                · have H3 := Lib.hid (H2.out.trans (if_neg (by decide)))
                  clear H2 S1' HC
                  by_cases hz3 : bl = 0 ∧ bd = 0 ∧ bc = 0
                  · obtain ⟨rfl, rfl, rfl⟩ := hz3
                    by_cases h4 : wi = 0
                    · subst h4
                      go_wp2_with fail
                      go_ret
                      exact ⟨by rw [H3.out]; rfl, F⟩
                    · have R := Lib.hid (H3.out.trans (decide_eq_false (by omega)))
                      have e4 : (wi == 0) = false := by simpa using h4
                      clear h4 H3
                      go_wp2_with fail
                      go_ret
                      exact ⟨by rw [R.out]; rfl, F⟩
                  · have R := Lib.hid (H3.out.trans (decide_eq_false (by omega)))
                    have hz2 : (¬ bl = 0) ∨ (bl = 0 ∧ ¬ bd = 0) ∨ (bl = 0 ∧ bd = 0 ∧ ¬ bc = 0) := by omega
                    clear hz3 H3
                    rcases hz2 with h1 | ⟨rfl, h1⟩ | ⟨rfl, rfl, h1⟩
                    all_goals
                      go_wp2_with fail
                      go_ret
                      exact ⟨by rw [R.out]; rfl, F⟩
                · have H3 := Lib.hid (H2.out.trans (if_pos rfl))
                  clear H2
                  go_wp2_with fail
                  (with_reducible refine (HC.out _).mono ?_); rintro e w2 ⟨rfl, hb⟩
                  have S2 := S1'.out.later hb
                  clear S1' hb c0 c1 c2 c3 c4 c5 c6 c7 c8 c9 c10 F hz
                  obtain ⟨⟨c0, c1, c2, c3, c4, c5, c6, c7, c8, c9, c10⟩, F, hz⟩ := S2
                  dsimp only at c0 c1 c2 c3 c4 c5 c6 c7 c8 c9 c10
                  cases can
                  · go_wp2_with fail
                    go_ret
                    exact ⟨by rw [H3.out]; rfl, F⟩
                  · by_cases w1h : 0 ≤ wi
                    · have R := Lib.hid (show res = decide (wi ≤ 16) by rw [H3.out]; simp [w1h])
                      clear H3
                      go_wp2_with fail
                      go_ret
                      exact ⟨by rw [R.out]; rfl, F⟩
                    · have R := Lib.hid (show res = false by rw [H3.out, decide_eq_false (by omega)]; rfl)
                      clear H3
                      go_wp2_with fail
                      go_ret
                      exact ⟨by rw [R.out]; rfl, F⟩
              · have R := Lib.hid (show res = false by rw [H.out, show decide (0 ≤ ou ∧ ou ≤ 255) = false from decide_eq_false (by omega)]; simp)
                clear H S1' HC
                go_wp2_with fail
                go_ret
                exact ⟨by rw [R.out]; rfl, F⟩
            · have R := Lib.hid (show res = false by rw [H.out, show decide (0 ≤ ou ∧ ou ≤ 255) = false from decide_eq_false (by omega)]; simp)
              clear H S1' HC
              go_wp2_with fail
              go_ret
              exact ⟨by rw [R.out]; rfl, F⟩
          · have R := Lib.hid (show res = false by rw [H.out, show decide (0 ≤ ep ∧ ep ≤ 65535) = false from decide_eq_false (by omega)]; simp)
            clear H S1' HC
            go_wp2_with fail
            go_ret
            exact ⟨by rw [R.out]; rfl, F⟩
        · have R := Lib.hid (show res = false by rw [H.out, show decide (0 ≤ ep ∧ ep ≤ 65535) = false from decide_eq_false (by omega)]; simp)
          clear H S1' HC
          go_wp2_with fail
          go_ret
          exact ⟨by rw [R.out]; rfl, F⟩
    · have R := Lib.hid (show res = false by rw [H.out, show decide (1 ≤ g ∧ g ≤ 2147483647) = false from decide_eq_false (by omega)]; simp)
      clear H HK HN HC S0
      go_enter Tryd.func48, Tryd.ntmps48
      go_wp2_with fail
      go_ret
      exact ⟨by rw [R.out]; rfl, below1 _ _⟩
  · have R := Lib.hid (show res = false by rw [H.out, show decide (1 ≤ g ∧ g ≤ 2147483647) = false from decide_eq_false (by omega)]; simp)
    clear H HK HN HC S0
    go_enter Tryd.func48, Tryd.ntmps48
    go_wp2_with fail
    go_ret
    exact ⟨by rw [R.out]; rfl, below1 _ _⟩
theorem refCheckSu_yes (s : Su) (w : World) (h : Su64 s) (hk : Hid (suOk s = true)) :
    Calls Tryd.prog 48 #[.agg #[.int .i64 s.g, .int .i64 s.al, .int .i64 s.ad, .int .i64 s.ac, .int .i64 s.bl, .int .i64 s.bd, .int .i64 s.bc, .bool s.r, .int .i64 s.wi, .int .i64 s.ep, .int .i64 s.ou]] w fun e w' => e = .returned (.bool true) ∧ Below w.heap.size w w' := by
  have := refCheckSu_any s w h
  rwa [hk.out] at this
theorem refCheckSu_no (s : Su) (w : World) (h : Su64 s) (hk : Hid (suOk s = false)) :
    Calls Tryd.prog 48 #[.agg #[.int .i64 s.g, .int .i64 s.al, .int .i64 s.ad, .int .i64 s.ac, .int .i64 s.bl, .int .i64 s.bd, .int .i64 s.bc, .bool s.r, .int .i64 s.wi, .int .i64 s.ep, .int .i64 s.ou]] w fun e w' => e = .returned (.bool false) ∧ Below w.heap.size w w' := by
  have := refCheckSu_any s w h
  rwa [hk.out] at this
end Go.Proofs.YtiipdhmfdgbmiaaDoor
