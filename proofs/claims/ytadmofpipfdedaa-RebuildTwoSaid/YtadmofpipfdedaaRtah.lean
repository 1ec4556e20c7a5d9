/- Texts put together: PlayGood, PlaceOf, PlaceNums, RefOf. -/
import Derived.Test.YtadmofpipfdedaaRtab
import Derived.Test.YtadmofpipfdedaaRtac
import Derived.Test.YtadmofpipfdedaaRtae
import Derived.Test.YtadmofpipfdedaaRtad
section
set_option linter.unusedVariables false
set_option linter.unusedSimpArgs false
namespace Go.Proofs.Ytadmofpipfdedaa
open Go.RowKit

def pgO (n : Int) : Bool := gOk (pgL n) (pgD n) (pgC n)
def goL (n : Int) : Int := if pgO n = true then pgL n else 5
def goD (n : Int) : Int := if pgO n = true then pgD n else 3
def goC (n : Int) : Int := if pgO n = true then pgC n else 1
theorem go_ok (n : Int) : gOk (goL n) (goD n) (goC n) = true := by
  unfold goL goD goC
  cases h : pgO n
  · rfl
  · simp; exact h
theorem below_cells {W w1 : World} (hb : Below W.heap.size W w1) : (∀ b o, b < W.heap.size → w1.cell? ⟨b, o, none⟩ = W.cell? ⟨b, o, none⟩) ∧ (∀ b o, b < W.heap.size → w1.frozen? ⟨b, o, none⟩ = W.frozen? ⟨b, o, none⟩) :=
  ⟨fun b o h => hb.cell (p := ⟨b, o, none⟩) h, fun b o h => hb.frozen (p := ⟨b, o, none⟩) h⟩
set_option maxHeartbeats 1000000 in
theorem playGood_any (n : Int) (w : World) (hn : -9223372036854775808 ≤ n ∧ n ≤ 9223372036854775807) :
    Calls Try.prog 26 #[.int .i64 n] w fun e w' => e = .returned (.agg #[.int .i64 (goL n), .int .i64 (goD n), .int .i64 (goC n)]) ∧ Below w.heap.size w w' := by
  have HP := Lib.hid (fun W => playGeom_any n W hn)
  have b := pg_bd n
  have HC := Lib.hid (fun W => refCheck_any (pgL n) (pgD n) (pgC n) W (by omega) (by omega) (by omega))
  obtain ⟨L, hL⟩ : ∃ L, L = goL n := ⟨_, rfl⟩
  obtain ⟨D, hD⟩ : ∃ D, D = goD n := ⟨_, rfl⟩
  obtain ⟨C, hC⟩ : ∃ C, C = goC n := ⟨_, rfl⟩
  have HL := Lib.hid (hL.trans (show goL n = if gOk (pgL n) (pgD n) (pgC n) = true then pgL n else 5 from rfl))
  have HD := Lib.hid (hD.trans (show goD n = if gOk (pgL n) (pgD n) (pgC n) = true then pgD n else 3 from rfl))
  have HK := Lib.hid (hC.trans (show goC n = if gOk (pgL n) (pgD n) (pgC n) = true then pgC n else 1 from rfl))
  rw [← hL, ← hD, ← hC]
  clear hL hD hC
  generalize pgL n = l at b HP HC HL HD HK
  generalize pgD n = d at b HP HC HL HD HK
  generalize pgC n = c at b HP HC HL HD HK
  generalize gOk l d c = ok at HC HL HD HK
  have G := gat_new w 0 0 0 25 (0, 0)
  go_enter Try.func26, Try.ntmps26
  go_wp2_with fail
  (with_reducible refine (HP.out _).mono ?_); rintro e w1 ⟨rfl, hb⟩
  obtain ⟨hc1, hf1⟩ := below_cells hb
  have G1 := (G.below hb (by simp)).below (below1 w1 (.cells #[.int .i64 l, .int .i64 d, .int .i64 c] 25)) (by have := hb.size; simp at this; omega)
  have hz1 : w.heap.size < w1.heap.size := by have := hb.size; simp at this; omega
  have F1 := (below1 w _).trans (hb.mono (by simp))
  clear hb
  go_wp2_with fail
  (with_reducible refine (HC.out _).mono ?_); rintro e w2 ⟨rfl, hb⟩
  obtain ⟨hc2, hf2⟩ := below_cells hb
  obtain ⟨g1, g2, g3⟩ := G1.below hb (by simp; omega)
  have hz2 : w1.heap.size < w2.heap.size := by have := hb.size; simp at this; omega
  have F2 := F1.trans (((below1 w1 _).trans (hb.mono (by simp))).mono F1.size)
  clear hb F1
  cases ok
  · go_wp2_with fail
    refine bodyPost_ret (v := .agg #[.int .i64 5, .int .i64 3, .int .i64 1]) (by simp [results, Try.results26, go_sem, g1, g2, g3]) rfl ⟨?_, ?_⟩
    · rw [HL.out, HD.out, HK.out]; rfl
    · exact ((F2.setCell (Nat.le_refl _) _).setCell (Nat.le_refl _) _).setCell (Nat.le_refl _) _
  · go_wp2_with fail
    refine bodyPost_ret (v := .agg #[.int .i64 l, .int .i64 d, .int .i64 c]) (by simp [results, Try.results26, go_sem, g1, g2, g3]) rfl ⟨?_, ?_⟩
    · rw [HL.out, HD.out, HK.out]; rfl
    · exact ((F2.setCell (Nat.le_refl _) _).setCell (Nat.le_refl _) _).setCell (Nat.le_refl _) _
end Go.Proofs.Ytadmofpipfdedaa
end
section
set_option linter.unusedVariables false
set_option linter.unusedSimpArgs false
namespace Go.Proofs.Ytadmofpipfdedaa
open Go.RowKit

end Go.Proofs.Ytadmofpipfdedaa
end
section
set_option linter.unusedVariables false
set_option linter.unusedSimpArgs false
namespace Go.Proofs.Ytadmofpipfdedaa
open Go.RowKit

end Go.Proofs.Ytadmofpipfdedaa
end
section
set_option linter.unusedVariables false
set_option linter.unusedSimpArgs false
namespace Go.Proofs.Ytadmofpipfdedaa
open Go.RowKit

end Go.Proofs.Ytadmofpipfdedaa
end
