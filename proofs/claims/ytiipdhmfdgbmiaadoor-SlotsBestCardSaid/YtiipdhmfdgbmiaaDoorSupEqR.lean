/- The document's Supers compared. -/
import Derived.Test.YtiipdhmfdgbmiaaDoorTbaf
set_option linter.unusedVariables false
set_option linter.unusedSimpArgs false
namespace Go.Proofs.YtiipdhmfdgbmiaaDoor
open Go.RowKit

theorem rsu_eql (s t : Su) (w : World) : (binOp .eql 54 (.agg #[.int .i64 s.g, .int .i64 s.al, .int .i64 s.ad, .int .i64 s.ac, .int .i64 s.bl, .int .i64 s.bd, .int .i64 s.bc, .bool s.r, .int .i64 s.wi, .int .i64 s.ep, .int .i64 s.ou]) (.agg #[.int .i64 t.g, .int .i64 t.al, .int .i64 t.ad, .int .i64 t.ac, .int .i64 t.bl, .int .i64 t.bd, .int .i64 t.bc, .bool t.r, .int .i64 t.wi, .int .i64 t.ep, .int .i64 t.ou])).run Tryd.prog w = .ok (.bool (suEq s t)) w := by
  obtain ⟨a1, a2, a3, a4, a5, a6, a7, a8, a9, a10, a11⟩ := s
  obtain ⟨b1, b2, b3, b4, b5, b6, b7, b8, b9, b10, b11⟩ := t
  unfold suEq
  dsimp only
  by_cases h1 : a1 = b1
  · by_cases h2 : a2 = b2
    · by_cases h3 : a3 = b3
      · by_cases h4 : a4 = b4
        · by_cases h5 : a5 = b5
          · by_cases h6 : a6 = b6
            · by_cases h7 : a7 = b7
              · by_cases h8 : a8 = b8
                · by_cases h9 : a9 = b9
                  · by_cases h10 : a10 = b10
                    · by_cases h11 : a11 = b11
                      · subst h1 h2 h3 h4 h5 h6 h7 h8 h9 h10 h11
                        rw [decide_eq_true ⟨rfl, rfl, rfl, rfl, rfl, rfl, rfl, rfl, rfl, rfl, rfl⟩]
                        go_simp
                      · subst h1 h2 h3 h4 h5 h6 h7 h8 h9 h10
                        have n11 : (a11 == b11) = false := by simpa using h11
                        rw [decide_eq_false (fun h => h11 h.2.2.2.2.2.2.2.2.2.2)]
                        go_simp
                    · have n10 : (a10 == b10) = false := by simpa using h10
                      rw [decide_eq_false (fun h => h10 h.2.2.2.2.2.2.2.2.2.1)]
                      subst h1 h2 h3 h4 h5 h6 h7 h8 h9
                      go_simp
                  · have n9 : (a9 == b9) = false := by simpa using h9
                    rw [decide_eq_false (fun h => h9 h.2.2.2.2.2.2.2.2.1)]
                    subst h1 h2 h3 h4 h5 h6 h7 h8
                    go_simp
                · have n8 : (a8 == b8) = false := by simpa using h8
                  rw [decide_eq_false (fun h => h8 h.2.2.2.2.2.2.2.1)]
                  subst h1 h2 h3 h4 h5 h6 h7
                  go_simp
              · have n7 : (a7 == b7) = false := by simpa using h7
                rw [decide_eq_false (fun h => h7 h.2.2.2.2.2.2.1)]
                subst h1 h2 h3 h4 h5 h6
                go_simp
            · have n6 : (a6 == b6) = false := by simpa using h6
              rw [decide_eq_false (fun h => h6 h.2.2.2.2.2.1)]
              subst h1 h2 h3 h4 h5
              go_simp
          · have n5 : (a5 == b5) = false := by simpa using h5
            rw [decide_eq_false (fun h => h5 h.2.2.2.2.1)]
            subst h1 h2 h3 h4
            go_simp
        · have n4 : (a4 == b4) = false := by simpa using h4
          rw [decide_eq_false (fun h => h4 h.2.2.2.1)]
          subst h1 h2 h3
          go_simp
      · have n3 : (a3 == b3) = false := by simpa using h3
        rw [decide_eq_false (fun h => h3 h.2.2.1)]
        subst h1 h2
        go_simp
    · have n2 : (a2 == b2) = false := by simpa using h2
      rw [decide_eq_false (fun h => h2 h.2.1)]
      subst h1
      go_simp
  · have n1 : (a1 == b1) = false := by simpa using h1
    rw [decide_eq_false (fun h => h1 h.1)]
    go_simp
theorem rsu_neq (s t : Su) (w : World) : (binOp .neq 54 (.agg #[.int .i64 s.g, .int .i64 s.al, .int .i64 s.ad, .int .i64 s.ac, .int .i64 s.bl, .int .i64 s.bd, .int .i64 s.bc, .bool s.r, .int .i64 s.wi, .int .i64 s.ep, .int .i64 s.ou]) (.agg #[.int .i64 t.g, .int .i64 t.al, .int .i64 t.ad, .int .i64 t.ac, .int .i64 t.bl, .int .i64 t.bd, .int .i64 t.bc, .bool t.r, .int .i64 t.wi, .int .i64 t.ep, .int .i64 t.ou])).run Tryd.prog w = .ok (.bool (!suEq s t)) w := by
  have h := rsu_eql s t w
  rw [run_eql_struct] at h
  rw [run_neq_struct]
  generalize (Op.equalIn 10000 54 (.agg #[.int .i64 s.g, .int .i64 s.al, .int .i64 s.ad, .int .i64 s.ac, .int .i64 s.bl, .int .i64 s.bd, .int .i64 s.bc, .bool s.r, .int .i64 s.wi, .int .i64 s.ep, .int .i64 s.ou]) (.agg #[.int .i64 t.g, .int .i64 t.al, .int .i64 t.ad, .int .i64 t.ac, .int .i64 t.bl, .int .i64 t.bd, .int .i64 t.bc, .bool t.r, .int .i64 t.wi, .int .i64 t.ep, .int .i64 t.ou])).run Tryd.prog w = X at h ⊢
  cases X with
  | ok b w' =>
    simp only [Result.andThen] at h ⊢
    injection h with h1 h2
    injection h1 with h1
    subst h1 h2
    rfl
  | _ => simp [Result.andThen] at h
end Go.Proofs.YtiipdhmfdgbmiaaDoor
