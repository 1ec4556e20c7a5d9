/- Texts put together: StpSame, StpFlush, StpWrite, StpOne, StpWakes, LogApply, LogPut, LogGet. -/
import Derived.Test.YtenkkdnepmoihaaUpau
import Derived.Test.YtenkkdnepmoihaaUpaz
import Derived.Test.YtenkkdnepmoihaaUpap
import Derived.Test.YtenkkdnepmoihaaUpbb
import Derived.Test.YtenkkdnepmoihaaUpai
import Derived.Test.YtenkkdnepmoihaaUpae
import Derived.Test.YtenkkdnepmoihaaUpam
import Derived.Test.YtenkkdnepmoihaaUpar
section
set_option maxRecDepth 20000
set_option linter.unusedVariables false
set_option linter.unusedSimpArgs false
namespace Go.Proofs.Ytenkkdnepmoihaa
open Go.RowKit

theorem RdZ.drop {w : World} {B : Nat} {A : Option Addr} {zs : List Int} (h : RdZ w B A zs) (k cap : Nat) (hc : zs.length ≤ cap) : RdZ w B (if cap = k then A else A.map (·.add k)) (zs.drop k) :=
  ⟨by have := h.1; simp; omega, fun z hz => h.2.1 z (List.mem_of_mem_drop hz), fun hn => by
    have hn' : k < zs.length := by simp at hn; omega
    obtain ⟨b, off, rfl, hb, hc⟩ := h.2.2 (by omega)
    rw [if_neg (by omega)]
    refine ⟨b, off + k, ?_, hb, fun j hj => ?_⟩
    · unfold Addr.add; by_cases hk0 : k = 0 <;> simp [hk0]
    · have hj' : k + j < zs.length := by simp at hj; omega
      rw [Nat.add_assoc, hc (k + j) hj']
      simp⟩
/-- The data of a row of a filled bench. -/
def datL (zs : List Int) (ρ W : Nat) : List (List UInt8) := sectorsB (zs.drop (min ρ zs.length)) W
theorem datL_len (zs : List Int) (ρ W : Nat) : (datL zs ρ W).length = W := sectorsB_len _ _
theorem datL_mem {zs : List Int} {ρ W : Nat} : ∀ x ∈ datL zs ρ W, x.length = 32 := sectorsB_mem
set_option maxRecDepth 100000 in
set_option maxHeartbeats 1600000 in
theorem data_any {n l c r : Int} {D F W : Nat} (gr : Gr n l c r D F W) (ρ : Nat) (hρ : ρ ≤ 1000) (A : Option Addr) (zs : List Int) (m cp : Nat) (w : World) (hm : m = zs.length) (hcp : zs.length ≤ cp) (hz : RdZ w w.heap.size A zs) :
    Calls Try.prog 14 #[.agg #[.int .i64 l, .int .i64 (D : Int), .int .i64 c], .int .i64 (ρ : Int), .slice A m cp] w fun e w' => ∃ v, e = .returned v ∧ OwV w.heap.size w' v (datL zs ρ W) ∧ Below w.heap.size w w' := by
  subst hm
  have G := gat_new w l D c 24 (0, 0)
  have HR := Lib.hid (fun V => refWidth_any l (D : Int) c V gr.l64 gr.d64 gr.c64)
  rw [gr.wd] at HR
  have hw7 := gr.w7
  have hzl := hz.1
  obtain ⟨k, hk⟩ : ∃ k, min ρ zs.length = k := ⟨_, rfl⟩
  have hkl : k ≤ zs.length := by omega
  have Hmin : Hid ((if zs.length < ρ then (zs.length : Int) else (ρ : Int)) = (k : Int)) := Lib.hid (by split <;> omega)
  have HDt : Hid (datL zs ρ W = sectorsB (zs.drop k) W) := Lib.hid (by unfold datL; rw [hk])
  have CS := Lib.hid (fun V (hb : Below w.heap.size w V) => sectors_any (if cp = k then A else A.map (·.add k)) (zs.drop k) (zs.length - k) (cp - k) W V (by simp) (((hz.below hb (Nat.le_refl _)).keep hb.size (fun _ _ => rfl)).drop k cp hcp) (by omega))
  have k0 : (0 : Int) ≤ (k : Int) := by omega
  have k1 : (k : Int) ≤ (zs.length : Int) := by omega
  have k2 : (k : Int) ≤ (cp : Int) := by omega
  clear gr hz hk
  by_cases hck : cp = k
  · rw [if_pos hck] at CS
    subst hck
    rw [show zs.length - cp = 0 by omega, Nat.sub_self] at CS
    go_enter Try.func14, Try.ntmps14
    go_wp2_with fail
    have S0 : GS w w.heap.size w.heap.size l D c (w.alloc (.cells #[.int .i64 l, .int .i64 (D : Int), .int .i64 c] 24 (0, 0))) := ⟨G.1, G.2.1, G.2.2, below1 _ _⟩
    have hmin := Hmin.out
    go_region_held3 (GS w w.heap.size w.heap.size l D c)
      (first | assumption | exact GS.drew ‹_›)
      (first
        | (go_at_call 24; (with_reducible refine (HR.out _).mono ?_); rintro e w3 ⟨rfl, hb3⟩; have S3 := (GS.drew S0).later hb3; dsimp only)
        | (go_at_call 23; (with_reducible refine (CS.out _ S3.2.2.2).mono ?_); rintro e w4 ⟨v, rfl, ho, hb4⟩; have S4 := S3.later hb4; dsimp only))
    all_goals
      have hf := S3.2.2.2.size
      go_wp2
      go_ret
      exact ⟨_, rfl, by rw [HDt.out]; exact ho.le hf, S4.2.2.2⟩
  · rw [if_neg hck] at CS
    go_enter Try.func14, Try.ntmps14
    go_wp2_with fail
    have S0 : GS w w.heap.size w.heap.size l D c (w.alloc (.cells #[.int .i64 l, .int .i64 (D : Int), .int .i64 c] 24 (0, 0))) := ⟨G.1, G.2.1, G.2.2, below1 _ _⟩
    have hmin := Hmin.out
    go_region_held3 (GS w w.heap.size w.heap.size l D c)
      (first | assumption | exact GS.drew ‹_›)
      (first
        | (go_at_call 24; (with_reducible refine (HR.out _).mono ?_); rintro e w3 ⟨rfl, hb3⟩; have S3 := (GS.drew S0).later hb3; dsimp only)
        | (go_at_call 23; (with_reducible refine (CS.out _ S3.2.2.2).mono ?_); rintro e w4 ⟨v, rfl, ho, hb4⟩; have S4 := S3.later hb4; dsimp only))
    all_goals
      have hf := S3.2.2.2.size
      go_wp2
      go_ret
      exact ⟨_, rfl, by rw [HDt.out]; exact ho.le hf, S4.2.2.2⟩
end Go.Proofs.Ytenkkdnepmoihaa
end
section
set_option maxRecDepth 20000
set_option linter.unusedVariables false
set_option linter.unusedSimpArgs false
namespace Go.Proofs.Ytenkkdnepmoihaa
open Go.RowKit

end Go.Proofs.Ytenkkdnepmoihaa
end
section
set_option maxRecDepth 20000
set_option linter.unusedVariables false
set_option linter.unusedSimpArgs false
namespace Go.Proofs.Ytenkkdnepmoihaa
open Go.RowKit

theorem Rq.rdf {lo : Nat} {W : World} {g cap n : Nat} {xs : List Value} {rs : List (List UInt8)} (h : Rq lo W g cap n xs rs) (hn : n ≤ 1000000) : RdF lo W (some ⟨g, 0, none⟩) rs := by
  obtain ⟨A, c, e, _, hr⟩ := rdf_own h.row (by rw [h.nn]; omega) h.rowsY
  injection e with e _ _
  rw [e]; exact hr
end Go.Proofs.Ytenkkdnepmoihaa
end
section
set_option maxRecDepth 20000
set_option linter.unusedVariables false
set_option linter.unusedSimpArgs false
namespace Go.Proofs.Ytenkkdnepmoihaa
open Go.RowKit

theorem solveB_len {N : Nat} {p q : List UInt8} {rs L : List (List UInt8)} (h : solveB N p q rs = some L) : L.length = rs.length := by
  unfold solveB at h
  split at h
  · injection h with h
    subst h
    rcases hm : missB rs with _ | ⟨i, _ | ⟨j, ms⟩⟩ <;> simp only [toldB, List.length_set, filledB_len]
  · cases h
theorem roTake_len {l d c r : Int} {xs L : List (List UInt8)} (h : roTake l d c r xs = some L) : L.length = roW l d := by
  unfold roTake at h
  split at h
  · rw [solveB_len h, dataL_len]
  · cases h
theorem srdL_len {N : Bch} {lv : List Bool} {l d c r : Int} (h : srdE N lv l d c r = 0) : (srdL N lv l d c r).length = roW l d := by
  unfold srdL
  rw [if_pos h]
  unfold srdE at h
  split at h
  · cases h
  · split at h
    · cases h
    · split at h
      · next hs =>
        obtain ⟨L, hL⟩ := Option.isSome_iff_exists.1 hs
        rw [hL]; exact roTake_len hL
      · cases h
/-- Where a number stands in its row. -/
theorem nums_at {l d c n : Int} (h : plOfOk l d c n = true) : plOk l d c (plOfR l d c n) = true ∧ kOf l d c n < roW l d ∧ (plNums l d c (plOfR l d c n)).length = roW l d ∧ (plNums l d c (plOfR l d c n)).getD (kOf l d c n) 0 = n ∧ (∀ j, j < kOf l d c n → (plNums l d c (plOfR l d c n)).getD j 0 ≠ n) ∧ plOfD l d c n = plD l d c (plOfR l d c n) (kOf l d c n : Nat) := by
  have hg := plOfOk_ok h
  obtain ⟨h0, h1⟩ := plOfOk_yes h
  obtain ⟨r0, r1, k0, k1, _, hN⟩ := of_row hg h0 h1
  obtain ⟨_, hr, hd, hk⟩ := of_yes hg h0 h1
  have hT := (plDok_yes hk).1
  have hw : gWid l d c = d - (l - 4) := gWid_yes hg
  have hW : ((roW l d : Nat) : Int) = d - (l - 4) := by unfold roW; omega
  have hK : ((kOf l d c n : Nat) : Int) = n / c % (d - (l - 4)) := by unfold kOf; omega
  rw [hr]
  refine ⟨hT, by omega, by rw [plNums_len hT, hw]; unfold roW; rfl, ?_, fun j hj e => ?_, by rw [hd, hK]⟩
  · rw [plNums_get hT (by omega), hK]; exact hN
  · rw [plNums_get hT (by omega)] at e
    have := (num_row (plDok_mk (k := (j : Int)) hT (by omega) (by omega))).2.2.2
    rw [e] at this
    omega
end Go.Proofs.Ytenkkdnepmoihaa
end
section
set_option maxRecDepth 20000
set_option linter.unusedVariables false
set_option linter.unusedSimpArgs false
namespace Go.Proofs.Ytenkkdnepmoihaa
open Go.RowKit

end Go.Proofs.Ytenkkdnepmoihaa
end
section
set_option maxRecDepth 8000
set_option linter.unusedVariables false
set_option linter.unusedSimpArgs false
namespace Go.Proofs.Ytenkkdnepmoihaa
open Go.RowKit

end Go.Proofs.Ytenkkdnepmoihaa
end
section
set_option maxRecDepth 8000
set_option linter.unusedVariables false
set_option linter.unusedSimpArgs false
namespace Go.Proofs.Ytenkkdnepmoihaa
open Go.RowKit

end Go.Proofs.Ytenkkdnepmoihaa
end
section
set_option maxRecDepth 8000
set_option linter.unusedVariables false
set_option linter.unusedSimpArgs false
namespace Go.Proofs.Ytenkkdnepmoihaa
open Go.RowKit

section
variable {w V V' : World} {s : Int} {A : Option Addr} {c : Nat} {l : List It}
end
end Go.Proofs.Ytenkkdnepmoihaa
end
