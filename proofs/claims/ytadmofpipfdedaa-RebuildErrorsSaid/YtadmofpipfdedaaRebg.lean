/- Texts put together: RebuildErrorsLaw. -/
import Derived.Test.YtadmofpipfdedaaRebf
import Derived.Test.YtadmofpipfdedaaReag
section
set_option maxRecDepth 100000
set_option linter.unusedVariables false
set_option linter.unusedSimpArgs false
namespace Go.Proofs.Ytadmofpipfdedaa
open Go.RowKit

theorem re1 {W V : World} {b ga gt gl : Nat} {H : BH} {l c l' c' : Int} {D D' kk d1 e1 : Nat} {lv : List Bool} (hg1 : gOk l (D : Int) c = true) (hg2 : gOk l' (D' : Int) c' = true) (hll : lv.length = D') (hd1 : d1 < D') (he1 : e1 < D') (hle1 : lv.getD e1 false = true) (hkk : kk < 100) (h : KS W V b H (Bch.new D') [(gl, Obj.cells (lv.map Value.bool).toArray 4 (0, 0)), (ga, Obj.cells #[.int .i64 l, .int .i64 (D : Int), .int .i64 c] 25 (0, 0)), (gt, Obj.cells #[.int .i64 l', .int .i64 (D' : Int), .int .i64 c'] 25 (0, 0))] [] []) :
    Calls Try.prog 18 #[.pointer (some ⟨b, 0, none⟩), .slice (some ⟨gl, 0, none⟩) D' D', .int .i64 (-(1 + (kk : Int))), .agg #[.int .i64 l, .int .i64 (D : Int), .int .i64 c], .agg #[.int .i64 l', .int .i64 (D' : Int), .int .i64 c'], .int .i64 1] V fun e w' => e = .returned (.int .i64 1) ∧ ∃ H', KS W w' b H' (Bch.new D') [(gl, Obj.cells (lv.map Value.bool).toArray 4 (0, 0)), (ga, Obj.cells #[.int .i64 l, .int .i64 (D : Int), .int .i64 c] 25 (0, 0)), (gt, Obj.cells #[.int .i64 l', .int .i64 (D' : Int), .int .i64 c'] 25 (0, 0))] [] [] := by
  have hb1 := gOk_bd hg1
  have hb2 := gOk_bd hg2
  exact ks_disk_bad h lv (some ⟨gl, 0, none⟩) D' D' hll.symm (h.lv (g := gl) (lv := lv) (t := 4) (f := (0, 0)) (List.mem_cons_self ..) rfl (by omega)) (-(1 + (kk : Int))) (by omega) ⟨l, (D : Int), c, l', (D' : Int), c', 1⟩ (rg64_3 ⟨⟨by omega, by omega, by omega⟩, ⟨by omega, by omega, by omega⟩, by omega⟩) (.inl (by rw [Bch.pickE_no (by omega)]; decide)) (fun i _ => Nat.zero_le _) (Nat.zero_le _)
theorem re2 {W V : World} {b ga gt gl : Nat} {H : BH} {l c l' c' : Int} {D D' kk d1 e1 : Nat} {lv : List Bool} (hg1 : gOk l (D : Int) c = true) (hg2 : gOk l' (D' : Int) c' = true) (hll : lv.length = D') (hd1 : d1 < D') (he1 : e1 < D') (hle1 : lv.getD e1 false = true) (hkk : kk < 100) (h : KS W V b H (Bch.new D') [(gl, Obj.cells (lv.map Value.bool).toArray 4 (0, 0)), (ga, Obj.cells #[.int .i64 l, .int .i64 (D : Int), .int .i64 c] 25 (0, 0)), (gt, Obj.cells #[.int .i64 l', .int .i64 (D' : Int), .int .i64 c'] 25 (0, 0))] [] []) :
    Calls Try.prog 18 #[.pointer (some ⟨b, 0, none⟩), .slice (some ⟨gl, 0, none⟩) D' D', .int .i64 ((D' : Int) - 1 + (1 + (kk : Int))), .agg #[.int .i64 l, .int .i64 (D : Int), .int .i64 c], .agg #[.int .i64 l', .int .i64 (D' : Int), .int .i64 c'], .int .i64 1] V fun e w' => e = .returned (.int .i64 1) ∧ ∃ H', KS W w' b H' (Bch.new D') [(gl, Obj.cells (lv.map Value.bool).toArray 4 (0, 0)), (ga, Obj.cells #[.int .i64 l, .int .i64 (D : Int), .int .i64 c] 25 (0, 0)), (gt, Obj.cells #[.int .i64 l', .int .i64 (D' : Int), .int .i64 c'] 25 (0, 0))] [] [] := by
  have hb1 := gOk_bd hg1
  have hb2 := gOk_bd hg2
  exact ks_disk_bad h lv (some ⟨gl, 0, none⟩) D' D' hll.symm (h.lv (g := gl) (lv := lv) (t := 4) (f := (0, 0)) (List.mem_cons_self ..) rfl (by omega)) ((D' : Int) - 1 + (1 + (kk : Int))) (by omega) ⟨l, (D : Int), c, l', (D' : Int), c', 1⟩ (rg64_3 ⟨⟨by omega, by omega, by omega⟩, ⟨by omega, by omega, by omega⟩, by omega⟩) (.inl (by rw [Bch.pickE_no (by show ¬ (_ ∧ _ < ((D' : Nat) : Int)); omega)]; decide)) (fun i _ => Nat.zero_le _) (Nat.zero_le _)
theorem re3 {W V : World} {b ga gt gl : Nat} {H : BH} {l c l' c' : Int} {D D' kk d1 e1 : Nat} {lv : List Bool} (hg1 : gOk l (D : Int) c = true) (hg2 : gOk l' (D' : Int) c' = true) (hll : lv.length = D') (hd1 : d1 < D') (he1 : e1 < D') (hle1 : lv.getD e1 false = true) (hkk : kk < 100) (h : KS W V b H (Bch.new D') [(gl, Obj.cells (lv.map Value.bool).toArray 4 (0, 0)), (ga, Obj.cells #[.int .i64 l, .int .i64 (D : Int), .int .i64 c] 25 (0, 0)), (gt, Obj.cells #[.int .i64 l', .int .i64 (D' : Int), .int .i64 c'] 25 (0, 0))] [] []) :
    Calls Try.prog 18 #[.pointer (some ⟨b, 0, none⟩), .slice (some ⟨gl, 0, none⟩) D' D', .int .i64 (e1 : Int), .agg #[.int .i64 l, .int .i64 (D : Int), .int .i64 c], .agg #[.int .i64 l', .int .i64 (D' : Int), .int .i64 c'], .int .i64 1] V fun e w' => e = .returned (.int .i64 1) ∧ ∃ H', KS W w' b H' (Bch.new D') [(gl, Obj.cells (lv.map Value.bool).toArray 4 (0, 0)), (ga, Obj.cells #[.int .i64 l, .int .i64 (D : Int), .int .i64 c] 25 (0, 0)), (gt, Obj.cells #[.int .i64 l', .int .i64 (D' : Int), .int .i64 c'] 25 (0, 0))] [] [] := by
  have hb1 := gOk_bd hg1
  have hb2 := gOk_bd hg2
  exact ks_disk_bad h lv (some ⟨gl, 0, none⟩) D' D' hll.symm (h.lv (g := gl) (lv := lv) (t := 4) (f := (0, 0)) (List.mem_cons_self ..) rfl (by omega)) (e1 : Int) (by omega) ⟨l, (D : Int), c, l', (D' : Int), c', 1⟩ (rg64_3 ⟨⟨by omega, by omega, by omega⟩, ⟨by omega, by omega, by omega⟩, by omega⟩) (.inr (.inl (by rw [alvD_nat, hle1, decide_eq_true (show e1 < (Bch.new D').n from he1)]; rfl))) (fun i _ => Nat.zero_le _) (Nat.zero_le _)
theorem re4 {W V : World} {b ga gt gl : Nat} {H : BH} {l c l' c' : Int} {D D' kk d1 e1 : Nat} {lv : List Bool} (hg1 : gOk l (D : Int) c = true) (hg2 : gOk l' (D' : Int) c' = true) (hll : lv.length = D') (hd1 : d1 < D') (he1 : e1 < D') (hle1 : lv.getD e1 false = true) (hkk : kk < 100) (h : KS W V b H (Bch.new D') [(gl, Obj.cells (lv.map Value.bool).toArray 4 (0, 0)), (ga, Obj.cells #[.int .i64 l, .int .i64 (D : Int), .int .i64 c] 25 (0, 0)), (gt, Obj.cells #[.int .i64 l', .int .i64 (D' : Int), .int .i64 c'] 25 (0, 0))] [] []) :
    Calls Try.prog 18 #[.pointer (some ⟨b, 0, none⟩), .slice (some ⟨gl, 0, none⟩) D' D', .int .i64 (d1 : Int), .agg #[.int .i64 0, .int .i64 0, .int .i64 0], .agg #[.int .i64 l', .int .i64 (D' : Int), .int .i64 c'], .int .i64 1] V fun e w' => e = .returned (.int .i64 1) ∧ ∃ H', KS W w' b H' (Bch.new D') [(gl, Obj.cells (lv.map Value.bool).toArray 4 (0, 0)), (ga, Obj.cells #[.int .i64 l, .int .i64 (D : Int), .int .i64 c] 25 (0, 0)), (gt, Obj.cells #[.int .i64 l', .int .i64 (D' : Int), .int .i64 c'] 25 (0, 0))] [] [] := by
  have hb1 := gOk_bd hg1
  have hb2 := gOk_bd hg2
  exact ks_disk_bad h lv (some ⟨gl, 0, none⟩) D' D' hll.symm (h.lv (g := gl) (lv := lv) (t := 4) (f := (0, 0)) (List.mem_cons_self ..) rfl (by omega)) (d1 : Int) (by omega) ⟨0, 0, 0, l', (D' : Int), c', 1⟩ (rg64_3 ⟨⟨by omega, by omega, by omega⟩, ⟨by omega, by omega, by omega⟩, by omega⟩) (.inr (.inr rfl)) (fun i _ => Nat.zero_le _) (Nat.zero_le _)
theorem re5 {W V : World} {b ga gt gl : Nat} {H : BH} {l c l' c' : Int} {D D' kk d1 e1 : Nat} {lv : List Bool} (hg1 : gOk l (D : Int) c = true) (hg2 : gOk l' (D' : Int) c' = true) (hll : lv.length = D') (hd1 : d1 < D') (he1 : e1 < D') (hle1 : lv.getD e1 false = true) (hkk : kk < 100) (h : KS W V b H (Bch.new D') [(gl, Obj.cells (lv.map Value.bool).toArray 4 (0, 0)), (ga, Obj.cells #[.int .i64 l, .int .i64 (D : Int), .int .i64 c] 25 (0, 0)), (gt, Obj.cells #[.int .i64 l', .int .i64 (D' : Int), .int .i64 c'] 25 (0, 0))] [] []) :
    Calls Try.prog 18 #[.pointer (some ⟨b, 0, none⟩), .slice (some ⟨gl, 0, none⟩) D' D', .int .i64 (d1 : Int), .agg #[.int .i64 l, .int .i64 (D : Int), .int .i64 c], .agg #[.int .i64 0, .int .i64 0, .int .i64 0], .int .i64 1] V fun e w' => e = .returned (.int .i64 1) ∧ ∃ H', KS W w' b H' (Bch.new D') [(gl, Obj.cells (lv.map Value.bool).toArray 4 (0, 0)), (ga, Obj.cells #[.int .i64 l, .int .i64 (D : Int), .int .i64 c] 25 (0, 0)), (gt, Obj.cells #[.int .i64 l', .int .i64 (D' : Int), .int .i64 c'] 25 (0, 0))] [] [] := by
  have hb1 := gOk_bd hg1
  have hb2 := gOk_bd hg2
  exact ks_disk_bad h lv (some ⟨gl, 0, none⟩) D' D' hll.symm (h.lv (g := gl) (lv := lv) (t := 4) (f := (0, 0)) (List.mem_cons_self ..) rfl (by omega)) (d1 : Int) (by omega) ⟨l, (D : Int), c, 0, 0, 0, 1⟩ (rg64_3 ⟨⟨by omega, by omega, by omega⟩, ⟨by omega, by omega, by omega⟩, by omega⟩) (.inr (.inr (by unfold RG.ok; rw [hg1]; rfl))) (fun i _ => Nat.zero_le _) (Nat.zero_le _)
theorem re6 {W V : World} {b ga gt gl : Nat} {H : BH} {l c l' c' : Int} {D D' kk d1 e1 : Nat} {lv : List Bool} (hg1 : gOk l (D : Int) c = true) (hg2 : gOk l' (D' : Int) c' = true) (hll : lv.length = D') (hd1 : d1 < D') (he1 : e1 < D') (hle1 : lv.getD e1 false = true) (hkk : kk < 100) (h : KS W V b H (Bch.new D') [(gl, Obj.cells (lv.map Value.bool).toArray 4 (0, 0)), (ga, Obj.cells #[.int .i64 l, .int .i64 (D : Int), .int .i64 c] 25 (0, 0)), (gt, Obj.cells #[.int .i64 l', .int .i64 (D' : Int), .int .i64 c'] 25 (0, 0))] [] []) :
    Calls Try.prog 18 #[.pointer (some ⟨b, 0, none⟩), .slice (some ⟨gl, 0, none⟩) D' D', .int .i64 (d1 : Int), .agg #[.int .i64 l, .int .i64 (D : Int), .int .i64 c], .agg #[.int .i64 l', .int .i64 (D' : Int), .int .i64 c'], .int .i64 (-(1 + (kk : Int)))] V fun e w' => e = .returned (.int .i64 1) ∧ ∃ H', KS W w' b H' (Bch.new D') [(gl, Obj.cells (lv.map Value.bool).toArray 4 (0, 0)), (ga, Obj.cells #[.int .i64 l, .int .i64 (D : Int), .int .i64 c] 25 (0, 0)), (gt, Obj.cells #[.int .i64 l', .int .i64 (D' : Int), .int .i64 c'] 25 (0, 0))] [] [] := by
  have hb1 := gOk_bd hg1
  have hb2 := gOk_bd hg2
  exact ks_disk_bad h lv (some ⟨gl, 0, none⟩) D' D' hll.symm (h.lv (g := gl) (lv := lv) (t := 4) (f := (0, 0)) (List.mem_cons_self ..) rfl (by omega)) (d1 : Int) (by omega) ⟨l, (D : Int), c, l', (D' : Int), c', (-(1 + (kk : Int)))⟩ (rg64_3 ⟨⟨by omega, by omega, by omega⟩, ⟨by omega, by omega, by omega⟩, by omega⟩) (.inr (.inr (by unfold RG.ok; dsimp only; rw [decide_eq_false (show ¬ (0 : Int) ≤ -(1 + (kk : Int)) by omega)]; simp))) (fun i _ => Nat.zero_le _) (Nat.zero_le _)
theorem re7 {W V : World} {b ga gt gl : Nat} {H : BH} {l c l' c' : Int} {D D' kk d1 e1 : Nat} {lv : List Bool} (hg1 : gOk l (D : Int) c = true) (hg2 : gOk l' (D' : Int) c' = true) (hll : lv.length = D') (hd1 : d1 < D') (he1 : e1 < D') (hle1 : lv.getD e1 false = true) (hkk : kk < 100) (h : KS W V b H (Bch.new D') [(gl, Obj.cells (lv.map Value.bool).toArray 4 (0, 0)), (ga, Obj.cells #[.int .i64 l, .int .i64 (D : Int), .int .i64 c] 25 (0, 0)), (gt, Obj.cells #[.int .i64 l', .int .i64 (D' : Int), .int .i64 c'] 25 (0, 0))] [] []) :
    Calls Try.prog 18 #[.pointer (some ⟨b, 0, none⟩), .slice (some ⟨gl, 0, none⟩) D' D', .int .i64 (d1 : Int), .agg #[.int .i64 l, .int .i64 (D : Int), .int .i64 c], .agg #[.int .i64 l', .int .i64 (D' : Int), .int .i64 c'], .int .i64 (16 + (1 + (kk : Int)))] V fun e w' => e = .returned (.int .i64 1) ∧ ∃ H', KS W w' b H' (Bch.new D') [(gl, Obj.cells (lv.map Value.bool).toArray 4 (0, 0)), (ga, Obj.cells #[.int .i64 l, .int .i64 (D : Int), .int .i64 c] 25 (0, 0)), (gt, Obj.cells #[.int .i64 l', .int .i64 (D' : Int), .int .i64 c'] 25 (0, 0))] [] [] := by
  have hb1 := gOk_bd hg1
  have hb2 := gOk_bd hg2
  exact ks_disk_bad h lv (some ⟨gl, 0, none⟩) D' D' hll.symm (h.lv (g := gl) (lv := lv) (t := 4) (f := (0, 0)) (List.mem_cons_self ..) rfl (by omega)) (d1 : Int) (by omega) ⟨l, (D : Int), c, l', (D' : Int), c', (16 + (1 + (kk : Int)))⟩ (rg64_3 ⟨⟨by omega, by omega, by omega⟩, ⟨by omega, by omega, by omega⟩, by omega⟩) (.inr (.inr (by unfold RG.ok; dsimp only; rw [decide_eq_false (show ¬ (16 + (1 + (kk : Int))) ≤ (16 : Int) by omega)]; simp))) (fun i _ => Nat.zero_le _) (Nat.zero_le _)
theorem zr_call {W V : World} {b gl : Nat} {H : BH} {N : Bch} {G : RG} {D' d1 : Nat} {lv : List Bool} {K : List (Nat × Obj)} (h64 : RG64 G) (hG : G.ok = true) (hle : ∀ t, t < 16 → G.D t ≤ (D' : Int)) (hll : lv.length = D') (hD8 : D' ≤ 8) (hd1 : d1 < D') (hl : lv.getD d1 false = false) (ho : ∀ i, i < D' → i ≠ d1 → lv.getD i false = true) (hz : Zr N D') (hdn : N.done ≤ 1000) (hk : (gl, Obj.cells (lv.map Value.bool).toArray 4 (0, 0)) ∈ K) (h : KS W V b H N K [] []) :
    Calls Try.prog 18 #[.pointer (some ⟨b, 0, none⟩), .slice (some ⟨gl, 0, none⟩) D' D', .int .i64 (d1 : Int), .agg #[.int .i64 G.l, .int .i64 G.d, .int .i64 G.c], .agg #[.int .i64 G.l', .int .i64 G.d', .int .i64 G.c'], .int .i64 G.s] V fun e w' => e = .returned (.int .i64 0) ∧ ∃ H' N', KS W w' b H' N' K [] [] ∧ Zr N' D' ∧ N'.done ≤ N.done + 16 := by
  have hh := hz.h hG hd1 hl
  have hok := hz.disk hG hle hd1 hl ho
  have := ks_disk_fok h lv (some ⟨gl, 0, none⟩) D' D' hll.symm (h.lv (g := gl) (lv := lv) (t := 4) (f := (0, 0)) hk rfl (by omega)) d1 G h64 hh (fun i hi => by rw [hz.ps i (by rw [hz.n] at hi; exact hi)]; exact Nat.zero_le _) (by omega)
  rw [hok.1] at this
  refine this.mono ?_
  rintro e w' ⟨rfl, H', k'⟩
  exact ⟨rfl, H', _, k', hok.2, rbS_done _ _ _ _⟩
theorem re8 {W V : World} {b ga gt gl : Nat} {H : BH} {N : Bch} {l c l' c' : Int} {D D' d1 : Nat} {lv : List Bool} (hg1 : gOk l (D : Int) c = true) (hg2 : gOk l' (D' : Int) c' = true) (hll : lv.length = D') (hDD : D ≤ D') (hd1 : d1 < D') (hl : lv.getD d1 false = false) (ho : ∀ i, i < D' → i ≠ d1 → lv.getD i false = true) (hz : Zr N D') (hdn : N.done ≤ 1000) (h : KS W V b H N [(gl, Obj.cells (lv.map Value.bool).toArray 4 (0, 0)), (ga, Obj.cells #[.int .i64 l, .int .i64 (D : Int), .int .i64 c] 25 (0, 0)), (gt, Obj.cells #[.int .i64 l', .int .i64 (D' : Int), .int .i64 c'] 25 (0, 0))] [] []) :
    Calls Try.prog 18 #[.pointer (some ⟨b, 0, none⟩), .slice (some ⟨gl, 0, none⟩) D' D', .int .i64 (d1 : Int), .agg #[.int .i64 l, .int .i64 (D : Int), .int .i64 c], .agg #[.int .i64 0, .int .i64 0, .int .i64 0], .int .i64 0] V fun e w' => e = .returned (.int .i64 0) ∧ ∃ H' N', KS W w' b H' N' [(gl, Obj.cells (lv.map Value.bool).toArray 4 (0, 0)), (ga, Obj.cells #[.int .i64 l, .int .i64 (D : Int), .int .i64 c] 25 (0, 0)), (gt, Obj.cells #[.int .i64 l', .int .i64 (D' : Int), .int .i64 c'] 25 (0, 0))] [] [] ∧ Zr N' D' ∧ N'.done ≤ N.done + 16 := by
  have hb1 := gOk_bd hg1
  have hb2 := gOk_bd hg2
  refine zr_call (G := ⟨l, (D : Int), c, 0, 0, 0, 0⟩) (rg64_3 ⟨⟨by omega, by omega, by omega⟩, ⟨by omega, by omega, by omega⟩, by omega⟩) (RG.ok_mk hg1 (show (0 : Int) ≤ 0 by omega) (show (0 : Int) ≤ 16 by omega) (.inl rfl)) (fun t _ => ?_) hll (by omega) hd1 hl ho hz hdn (List.mem_cons_self ..) h
  unfold RG.D rg
  dsimp only
  split <;> omega
theorem re9 {W V : World} {b ga gt gl : Nat} {H : BH} {N : Bch} {l c l' c' : Int} {D D' d1 : Nat} {lv : List Bool} (hg1 : gOk l (D : Int) c = true) (hg2 : gOk l' (D' : Int) c' = true) (hll : lv.length = D') (hDD : D ≤ D') (hd1 : d1 < D') (hl : lv.getD d1 false = false) (ho : ∀ i, i < D' → i ≠ d1 → lv.getD i false = true) (hz : Zr N D') (hdn : N.done ≤ 1000) (h : KS W V b H N [(gl, Obj.cells (lv.map Value.bool).toArray 4 (0, 0)), (ga, Obj.cells #[.int .i64 l, .int .i64 (D : Int), .int .i64 c] 25 (0, 0)), (gt, Obj.cells #[.int .i64 l', .int .i64 (D' : Int), .int .i64 c'] 25 (0, 0))] [] []) :
    Calls Try.prog 18 #[.pointer (some ⟨b, 0, none⟩), .slice (some ⟨gl, 0, none⟩) D' D', .int .i64 (d1 : Int), .agg #[.int .i64 l, .int .i64 (D : Int), .int .i64 c], .agg #[.int .i64 l', .int .i64 (D' : Int), .int .i64 c'], .int .i64 16] V fun e w' => e = .returned (.int .i64 0) ∧ ∃ H' N', KS W w' b H' N' [(gl, Obj.cells (lv.map Value.bool).toArray 4 (0, 0)), (ga, Obj.cells #[.int .i64 l, .int .i64 (D : Int), .int .i64 c] 25 (0, 0)), (gt, Obj.cells #[.int .i64 l', .int .i64 (D' : Int), .int .i64 c'] 25 (0, 0))] [] [] ∧ Zr N' D' ∧ N'.done ≤ N.done + 16 := by
  have hb1 := gOk_bd hg1
  have hb2 := gOk_bd hg2
  refine zr_call (G := ⟨l, (D : Int), c, l', (D' : Int), c', 16⟩) (rg64_3 ⟨⟨by omega, by omega, by omega⟩, ⟨by omega, by omega, by omega⟩, by omega⟩) (RG.ok_mk hg1 (show (0 : Int) ≤ 16 by omega) (show (16 : Int) ≤ 16 by omega) (.inr hg2)) (fun t _ => ?_) hll (by omega) hd1 hl ho hz hdn (List.mem_cons_self ..) h
  unfold RG.D rg
  dsimp only
  split <;> omega
theorem reF {W V : World} {b ga gt gl : Nat} {H : BH} {N : Bch} {l c l' c' : Int} {D D' d1 : Nat} {lv : List Bool} (hg1 : gOk l (D : Int) c = true) (hg2 : gOk l' (D' : Int) c' = true) (hll : lv.length = D') (hd1 : d1 < D') (hl : lv.getD d1 false = false) (hn : N.n = D') (hf : (N.D d1).f = true) (hps : ∀ i, i < N.n → (N.D i).ps.length ≤ 1999900) (hdn : N.done ≤ 1000) (h : KS W V b H N [(gl, Obj.cells (lv.map Value.bool).toArray 4 (0, 0)), (ga, Obj.cells #[.int .i64 l, .int .i64 (D : Int), .int .i64 c] 25 (0, 0)), (gt, Obj.cells #[.int .i64 l', .int .i64 (D' : Int), .int .i64 c'] 25 (0, 0))] [] []) :
    Calls Try.prog 18 #[.pointer (some ⟨b, 0, none⟩), .slice (some ⟨gl, 0, none⟩) D' D', .int .i64 (d1 : Int), .agg #[.int .i64 l, .int .i64 (D : Int), .int .i64 c], .agg #[.int .i64 l', .int .i64 (D' : Int), .int .i64 c'], .int .i64 1] V fun e w' => e = .returned (.int .i64 5) ∧ Below W.heap.size W w' := by
  have hb1 := gOk_bd hg1
  have hb2 := gOk_bd hg2
  have hG : RG.ok ⟨l, (D : Int), c, l', (D' : Int), c', 1⟩ = true := RG.ok_mk hg1 (show (0 : Int) ≤ 1 by omega) (show (1 : Int) ≤ 16 by omega) (.inr hg2)
  have := ks_disk h lv (some ⟨gl, 0, none⟩) D' D' hll.symm (h.lv (g := gl) (lv := lv) (t := 4) (f := (0, 0)) (List.mem_cons_self ..) rfl (by omega)) (d1 : Int) (by omega) ⟨l, (D : Int), c, l', (D' : Int), c', 1⟩ (rg64_3 ⟨⟨by omega, by omega, by omega⟩, ⟨by omega, by omega, by omega⟩, by omega⟩) (fun _ hf2 => by rw [Int.toNat_natCast, hf] at hf2; cases hf2) hps (by omega)
  rw [rbS_failed (by omega) hl hG hf] at this
  refine this.mono ?_
  rintro e w' ⟨rfl, H', k'⟩
  exact ⟨rfl, k'.bp.bel⟩
set_option maxHeartbeats 6400000 in
theorem rebuilderrors (m n d k : Int) (w : World) (hm : (-9223372036854775808 ≤ m ∧ m ≤ 9223372036854775807)) (hn : (-9223372036854775808 ≤ n ∧ n ≤ 9223372036854775807)) (hd : (-9223372036854775808 ≤ d ∧ d ≤ 9223372036854775807)) (hk : (-9223372036854775808 ≤ k ∧ k ≤ 9223372036854775807)) :
    Calls Try.prog 5 #[.int .i64 m, .int .i64 n, .int .i64 d, .int .i64 k] w fun e w' => e = .returned (.bool true) ∧ Below w.heap.size w w' := by
  have hpn := ptr_eq
  have CP := Lib.hid (fun V => playPair_can m n V hm hn)
  go_enter Try.func5, Try.ntmps5
  go_wp2_with fail
  (with_reducible refine (CP.out _).mono ?_); rintro e w1 ⟨l, dd, c, l', d', c', rfl, hc, hb⟩
  obtain ⟨hg1, hg2, _, hdd, hll, _⟩ := gCan_parts hc
  have hb1 := gOk_bd hg1
  have hb2 := gOk_bd hg2
  obtain ⟨D, rfl⟩ := Int.eq_ofNat_of_zero_le (show 0 ≤ dd by omega)
  obtain ⟨D', rfl⟩ := Int.eq_ofNat_of_zero_le (show 0 ≤ d' by omega)
  have hDD : D ≤ D' := by omega
  have B2 := below2 w1 (.cells #[.int .i64 l, .int .i64 (D : Int), .int .i64 c] 25) (.cells #[.int .i64 l', .int .i64 (D' : Int), .int .i64 c'] 25)
  have CN := Lib.hid (bp_new D' _ _ (Below.refl _ ((w1.alloc (.cells #[.int .i64 l, .int .i64 (D : Int), .int .i64 c] 25)).alloc (.cells #[.int .i64 l', .int .i64 (D' : Int), .int .i64 c'] 25))) (by omega))
  have HB := Lib.hid (hb.trans (B2.mono hb.size))
  have hz1 : (w1.alloc (.cells #[.int .i64 l, .int .i64 (D : Int), .int .i64 c] 25)).heap.size = w1.heap.size + 1 := by simp
  have O1 := Lib.hid (show ((w1.alloc (.cells #[.int .i64 l, .int .i64 (D : Int), .int .i64 c] 25)).alloc (.cells #[.int .i64 l', .int .i64 (D' : Int), .int .i64 c'] 25)).heap[w1.heap.size]? = some (Obj.cells #[.int .i64 l, .int .i64 (D : Int), .int .i64 c] 25 (0, 0)) from (hp_old _ _ _ (by simp)).trans (hp_new _ _ _ rfl))
  have O2 := Lib.hid (show ((w1.alloc (.cells #[.int .i64 l, .int .i64 (D : Int), .int .i64 c] 25)).alloc (.cells #[.int .i64 l', .int .i64 (D' : Int), .int .i64 c'] 25)).heap[w1.heap.size + 1]? = some (Obj.cells #[.int .i64 l', .int .i64 (D' : Int), .int .i64 c'] 25 (0, 0)) from hp_new _ _ _ (by simp))
  have hw1 := hb.size
  clear CP hc B2 hb hz1
  go_wp2_with fail
  refine CN.out.mono ?_
  rintro e w2 ⟨b, H, rfl, hp, _, _⟩
  unfold ptr
  have k0 := (KX.ks ⟨hp, fun p hp => absurd hp (by simp)⟩ : KS _ w2 b H (Bch.new D') [] [] []).open2 HB.out O1.out O2.out hw1 (by omega)
  obtain ⟨g1, g2, g3⟩ := k0.gat (g := w1.heap.size) (l := l) (d := (D : Int)) (c := c) (t := 25) (f := (0, 0)) (by simp)
  obtain ⟨g4, g5, g6⟩ := k0.gat (g := w1.heap.size + 1) (l := l') (d := (D' : Int)) (c := c') (t := 25) (f := (0, 0)) (by simp)
  have CL := Lib.hid (ks_live k0 0 D' (by omega) (by omega))
  clear hp k0 O1 O2 CN HB
  go_wp2_with fail
  (with_reducible refine CL.out.mono ?_); rintro e w3 ⟨gl, rfl, k1⟩
  have K1 := Lib.hid k1
  clear g1 g2 g3 g4 g5 g6 CL
  obtain ⟨g1, g2, g3⟩ := K1.out.gat (g := w1.heap.size) (l := l) (d := (D : Int)) (c := c) (t := 25) (f := (0, 0)) (by simp)
  obtain ⟨g4, g5, g6⟩ := K1.out.gat (g := w1.heap.size + 1) (l := l') (d := (D' : Int)) (c := c') (t := 25) (f := (0, 0)) (by simp)
  have bd1 := withinI_bd d (D' : Int) (by omega)
  have bk1 := withinI_bd k 100 (by omega)
  have CD := Lib.hid (fun V => within_any d (D' : Int) V hd (by omega))
  have CK := Lib.hid (fun V => within_any k 100 V hk (by omega))
  obtain ⟨d1, hd1⟩ := Int.eq_ofNat_of_zero_le bd1.1
  obtain ⟨kk, hkk⟩ := Int.eq_ofNat_of_zero_le bk1.1
  rw [hd1] at CD bd1
  rw [hkk] at CK bk1
  clear hd1 hkk k1
  go_wp2_with fail
  (with_reducible refine (CD.out _).mono ?_); rintro e w4 ⟨rfl, h4⟩
  obtain rfl : w3 = w4 := h4.symm
  clear h4
  go_wp2_with fail
  (with_reducible refine (CK.out _).mono ?_); rintro e w4 ⟨rfl, h4⟩
  obtain rfl : w3 = w4 := h4.symm
  clear h4 CD CK
  have i0 : (0 : Int) ≤ (d1 : Int) := by omega
  have i1 : (d1 : Int) < (D' : Int) := by omega
  have j0 : (0 : Int) ≤ (kk : Int) := by omega
  have j1 : (kk : Int) < 100 := by omega
  have hl0 : (liveL 0 D').length = D' := liveL_len _ _
  have hblk := (K1.out.kx.kp (gl, Obj.cells ((liveL 0 D').map Value.bool).toArray 4 (0, 0)) (by simp)).1
  have hgne : gl ≠ w1.heap.size ∧ gl ≠ w1.heap.size + 1 := by
    have b0 := (K1.out.kx.kp (w1.heap.size, Obj.cells #[.int .i64 l, .int .i64 (D : Int), .int .i64 c] 25 (0, 0)) (by simp)).1
    have b1 := (K1.out.kx.kp (w1.heap.size + 1, Obj.cells #[.int .i64 l', .int .i64 (D' : Int), .int .i64 c'] 25 (0, 0)) (by simp)).1
    constructor
    · intro e
      dsimp only at hblk b0
      rw [e, b0] at hblk
      injection hblk with e2
      injection e2 with _ e3 _
      exact absurd e3 (by decide)
    · intro e
      dsimp only at hblk b1
      rw [e, b1] at hblk
      injection hblk with e2
      injection e2 with _ e3 _
      exact absurd e3 (by decide)
  dsimp only at hblk
  have hlv : ((liveL 0 D').set d1 false).length = D' := by rw [List.length_set]; exact hl0
  have hlk : ((liveL 0 D').set d1 false).getD d1 false = false := by
    rw [List.getD_eq_getElem?_getD, List.getElem?_set_self (by omega)]; rfl
  have hlt2 : ∀ i, i < D' → i ≠ d1 → ((liveL 0 D').set d1 false).getD i false = true := fun i hi hne => by
    rw [List.getD_eq_getElem?_getD, List.getElem?_set_ne (by omega), ← List.getD_eq_getElem?_getD]
    exact live0 hi
  obtain ⟨hc0, hf0, hb0, gg0⟩ := lv_setCell hblk (d := d1) (by rw [hl0]; omega) false
  have K2 := Lib.hid (K1.out.put gg0 hb0 (by simpa using ⟨Ne.symm hgne.1, Ne.symm hgne.2⟩))
  generalize (liveL 0 D').set d1 false = lv at hlv hlk hlt2 K2
  have Hlv := Lib.hid hlv
  have Hlk := Lib.hid hlk
  have Hlt := Lib.hid hlt2
  clear hblk hb0 gg0 K1 hlv hlk hlt2 hl0
  go_upto_region 8 with fail
  generalize w3.setCell ⟨gl, d1, none⟩ (.bool false) = w5 at K2 ⊢
  simp only [List.append_eq, List.cons_append, List.nil_append]
  clear hc0 hf0 g1 g2 g3 g4 g5 g6
  obtain ⟨e1, he1, hne1, hmd⟩ : ∃ e1 : Nat, e1 < D' ∧ e1 ≠ d1 ∧ ((d1 : Int) + 1).tmod (D' : Int) = ((e1 : Nat) : Int) := by
    by_cases h : d1 + 1 < D'
    · refine ⟨d1 + 1, h, by omega, ?_⟩
      rw [Int.tmod_eq_of_lt (by omega) (by omega)]; rfl
    · obtain rfl : D' = d1 + 1 := by omega
      refine ⟨0, by omega, by omega, ?_⟩
      rw [show ((d1 : Int) + 1) = ((d1 + 1 : Nat) : Int) by omega, Int.tmod_self]; rfl
  have hD0 : ¬ D' = 0 := by omega
  have hle1 := Hlt.out e1 he1 hne1
  have hwA : IntKind.i64.wrap (-(1 + (kk : Int))) = -(1 + (kk : Int)) := IntWalk.i64_in _ (by omega)
  have hwB : IntKind.i64.wrap ((D' : Int) - 1) = (D' : Int) - 1 := IntWalk.i64_in _ (by omega)
  have hwC : IntKind.i64.wrap ((D' : Int) - 1 + (1 + (kk : Int))) = (D' : Int) - 1 + (1 + (kk : Int)) := IntWalk.i64_in _ (by omega)
  have hwD : IntKind.i64.wrap ((d1 : Int) + 1) = (d1 : Int) + 1 := IntWalk.i64_in _ (by omega)
  have hwE : IntKind.i64.wrap (16 + (1 + (kk : Int))) = 16 + (1 + (kk : Int)) := IntWalk.i64_in _ (by omega)
  have hd1D : d1 < D' := by omega
  have hk100 : kk < 100 := by omega
  have Q0 := Lib.hid (K2.out.below (Below.refl _ w5).drew)
  clear K2
  refine wp_region_noPanic (region_ord 74 [] (fun V => GAt V w1.heap.size l (D : Int) c ∧ GAt V (w1.heap.size + 1) l' (D' : Int) c') (by kernel_rfl) (by kernel_rfl) (fun _ _ _ _ _ h => h) fun R => ?_)
  change anyI _ _ _ _ _ _ 74 _ _ w5.drew
  have HS0 := Lib.hid (show (fun V => GAt V w1.heap.size l (D : Int) c ∧ GAt V (w1.heap.size + 1) l' (D' : Int) c') w5.drew from ⟨Q0.out.gat (g := w1.heap.size) (l := l) (d := (D : Int)) (c := c) (t := 25) (f := (0, 0)) (by simp), Q0.out.gat (g := w1.heap.size + 1) (l := l') (d := (D' : Int)) (c := c') (t := 25) (f := (0, 0)) (by simp)⟩)
  refine' anyI_take R 0 rfl (v := ?_) (by kernel_rfl) (by rfl) (fun V hV => ?hy) HS0.out ?_
  case hy => ((try dsimp only at hV);  obtain ⟨⟨y0, y1, y2⟩, ⟨y3, y4, y5⟩⟩ := hV; go_simp; try with_reducible rfl)
  try simp only [Act.put, List.getElem_toArray, List.getElem_cons_succ, List.getElem_cons_zero, List.setIfInBounds_toArray, List.set_cons_zero, List.set_cons_succ]
  refine' anyI_take R 1 rfl (v := ?_) (by kernel_rfl) (by rfl) (fun V hV => ?hy) HS0.out ?_
  case hy => ((try dsimp only at hV);  obtain ⟨⟨y0, y1, y2⟩, ⟨y3, y4, y5⟩⟩ := hV; go_simp; try with_reducible rfl)
  try simp only [Act.put, List.getElem_toArray, List.getElem_cons_succ, List.getElem_cons_zero, List.setIfInBounds_toArray, List.set_cons_zero, List.set_cons_succ]
  refine' anyI_take R 2 rfl (v := ?_) (by kernel_rfl) (by rfl) (fun V hV => ?hy) HS0.out ?_
  case hy => ((try dsimp only at hV);  obtain ⟨⟨y0, y1, y2⟩, ⟨y3, y4, y5⟩⟩ := hV; go_simp; try with_reducible rfl)
  try simp only [Act.put, List.getElem_toArray, List.getElem_cons_succ, List.getElem_cons_zero, List.setIfInBounds_toArray, List.set_cons_zero, List.set_cons_succ]
  refine' anyI_take R 3 rfl (v := ?_) (by kernel_rfl) (by rfl) (fun V hV => ?hy) HS0.out ?_
  case hy => ((try dsimp only at hV);  obtain ⟨⟨y0, y1, y2⟩, ⟨y3, y4, y5⟩⟩ := hV; go_simp; try with_reducible rfl)
  try simp only [Act.put, List.getElem_toArray, List.getElem_cons_succ, List.getElem_cons_zero, List.setIfInBounds_toArray, List.set_cons_zero, List.set_cons_succ]
  refine' anyI_take R 4 rfl (v := ?_) (by kernel_rfl) (by rfl) (fun V hV => ?hy) HS0.out ?_
  case hy => ((try dsimp only at hV);  obtain ⟨⟨y0, y1, y2⟩, ⟨y3, y4, y5⟩⟩ := hV; go_simp; try with_reducible rfl)
  try simp only [Act.put, List.getElem_toArray, List.getElem_cons_succ, List.getElem_cons_zero, List.setIfInBounds_toArray, List.set_cons_zero, List.set_cons_succ]
  refine' anyI_take R 5 rfl (v := ?_) (by kernel_rfl) (by rfl) (fun V hV => ?hy) HS0.out ?_
  case hy => ((try dsimp only at hV);  obtain ⟨⟨y0, y1, y2⟩, ⟨y3, y4, y5⟩⟩ := hV; go_simp; try with_reducible rfl)
  try simp only [Act.put, List.getElem_toArray, List.getElem_cons_succ, List.getElem_cons_zero, List.setIfInBounds_toArray, List.set_cons_zero, List.set_cons_succ]
  refine anyI_one 6 (by kernel_rfl) rfl ?_
  try simp only [List.getElem_toArray, List.getElem_cons_succ, List.getElem_cons_zero]
  refine opE_step ?_
  rw [if_pos (by rfl)]
  go_simp
  go_at_call 18
  (with_reducible refine (re1 hg1 hg2 Hlv.out hd1D he1 hle1 hk100 Q0.out).mono ?_)
  rintro e v1 ⟨rfl, H1, q1⟩
  have Q1 := Lib.hid q1
  replace HS0 := Lib.hid (show (fun V => GAt V w1.heap.size l (D : Int) c ∧ GAt V (w1.heap.size + 1) l' (D' : Int) c') v1 from ⟨Q1.out.gat (g := w1.heap.size) (l := l) (d := (D : Int)) (c := c) (t := 25) (f := (0, 0)) (by simp), Q1.out.gat (g := w1.heap.size + 1) (l := l') (d := (D' : Int)) (c := c') (t := 25) (f := (0, 0)) (by simp)⟩)
  clear q1 Q0
  try dsimp only
  refine ⟨HS0.out, ?_⟩
  try simp only [Act.put, List.getElem_toArray, List.getElem_cons_succ, List.getElem_cons_zero, List.setIfInBounds_toArray, List.set_cons_zero, List.set_cons_succ]
  refine' anyI_take R 7 rfl (v := ?_) (by kernel_rfl) (by rfl) (fun V hV => ?hy) HS0.out ?_
  case hy => ((try dsimp only at hV);  obtain ⟨⟨y0, y1, y2⟩, ⟨y3, y4, y5⟩⟩ := hV; go_simp; try with_reducible rfl)
  try simp only [Act.put, List.getElem_toArray, List.getElem_cons_succ, List.getElem_cons_zero, List.setIfInBounds_toArray, List.set_cons_zero, List.set_cons_succ]
  refine' anyI_take R 8 rfl (v := ?_) (by kernel_rfl) (by rfl) (fun V hV => ?hy) HS0.out ?_
  case hy => ((try dsimp only at hV);  obtain ⟨⟨y0, y1, y2⟩, ⟨y3, y4, y5⟩⟩ := hV; go_simp; try with_reducible rfl)
  try simp only [Act.put, List.getElem_toArray, List.getElem_cons_succ, List.getElem_cons_zero, List.setIfInBounds_toArray, List.set_cons_zero, List.set_cons_succ]
  refine' anyI_take R 9 rfl (v := ?_) (by kernel_rfl) (by rfl) (fun V hV => ?hy) HS0.out ?_
  case hy => ((try dsimp only at hV);  obtain ⟨⟨y0, y1, y2⟩, ⟨y3, y4, y5⟩⟩ := hV; go_simp; try with_reducible rfl)
  try simp only [Act.put, List.getElem_toArray, List.getElem_cons_succ, List.getElem_cons_zero, List.setIfInBounds_toArray, List.set_cons_zero, List.set_cons_succ]
  refine' anyI_take R 10 rfl (v := ?_) (by kernel_rfl) (by rfl) (fun V hV => ?hy) HS0.out ?_
  case hy => ((try dsimp only at hV);  obtain ⟨⟨y0, y1, y2⟩, ⟨y3, y4, y5⟩⟩ := hV; go_simp; try with_reducible rfl)
  try simp only [Act.put, List.getElem_toArray, List.getElem_cons_succ, List.getElem_cons_zero, List.setIfInBounds_toArray, List.set_cons_zero, List.set_cons_succ]
  refine' anyI_take R 11 rfl (v := ?_) (by kernel_rfl) (by rfl) (fun V hV => ?hy) HS0.out ?_
  case hy => ((try dsimp only at hV);  obtain ⟨⟨y0, y1, y2⟩, ⟨y3, y4, y5⟩⟩ := hV; go_simp; try with_reducible rfl)
  try simp only [Act.put, List.getElem_toArray, List.getElem_cons_succ, List.getElem_cons_zero, List.setIfInBounds_toArray, List.set_cons_zero, List.set_cons_succ]
  refine' anyI_take R 12 rfl (v := ?_) (by kernel_rfl) (by rfl) (fun V hV => ?hy) HS0.out ?_
  case hy => ((try dsimp only at hV);  obtain ⟨⟨y0, y1, y2⟩, ⟨y3, y4, y5⟩⟩ := hV; go_simp; try with_reducible rfl)
  try simp only [Act.put, List.getElem_toArray, List.getElem_cons_succ, List.getElem_cons_zero, List.setIfInBounds_toArray, List.set_cons_zero, List.set_cons_succ]
  refine' anyI_take R 13 rfl (v := ?_) (by kernel_rfl) (by rfl) (fun V hV => ?hy) HS0.out ?_
  case hy => ((try dsimp only at hV);  obtain ⟨⟨y0, y1, y2⟩, ⟨y3, y4, y5⟩⟩ := hV; go_simp; try with_reducible rfl)
  try simp only [Act.put, List.getElem_toArray, List.getElem_cons_succ, List.getElem_cons_zero, List.setIfInBounds_toArray, List.set_cons_zero, List.set_cons_succ]
  refine' anyI_take R 14 rfl (v := ?_) (by kernel_rfl) (by rfl) (fun V hV => ?hy) HS0.out ?_
  case hy => ((try dsimp only at hV);  obtain ⟨⟨y0, y1, y2⟩, ⟨y3, y4, y5⟩⟩ := hV; go_simp; try with_reducible rfl)
  try simp only [Act.put, List.getElem_toArray, List.getElem_cons_succ, List.getElem_cons_zero, List.setIfInBounds_toArray, List.set_cons_zero, List.set_cons_succ]
  refine' anyI_take R 15 rfl (v := ?_) (by kernel_rfl) (by rfl) (fun V hV => ?hy) HS0.out ?_
  case hy => ((try dsimp only at hV);  obtain ⟨⟨y0, y1, y2⟩, ⟨y3, y4, y5⟩⟩ := hV; go_simp; try with_reducible rfl)
  try simp only [Act.put, List.getElem_toArray, List.getElem_cons_succ, List.getElem_cons_zero, List.setIfInBounds_toArray, List.set_cons_zero, List.set_cons_succ]
  refine' anyI_take R 16 rfl (v := ?_) (by kernel_rfl) (by rfl) (fun V hV => ?hy) HS0.out ?_
  case hy => ((try dsimp only at hV);  obtain ⟨⟨y0, y1, y2⟩, ⟨y3, y4, y5⟩⟩ := hV; go_simp; try with_reducible rfl)
  try simp only [Act.put, List.getElem_toArray, List.getElem_cons_succ, List.getElem_cons_zero, List.setIfInBounds_toArray, List.set_cons_zero, List.set_cons_succ]
  refine' anyI_take R 17 rfl (v := ?_) (by kernel_rfl) (by rfl) (fun V hV => ?hy) HS0.out ?_
  case hy => ((try dsimp only at hV);  obtain ⟨⟨y0, y1, y2⟩, ⟨y3, y4, y5⟩⟩ := hV; go_simp; try with_reducible rfl)
  try simp only [Act.put, List.getElem_toArray, List.getElem_cons_succ, List.getElem_cons_zero, List.setIfInBounds_toArray, List.set_cons_zero, List.set_cons_succ]
  refine anyI_one 18 (by kernel_rfl) rfl ?_
  try simp only [List.getElem_toArray, List.getElem_cons_succ, List.getElem_cons_zero]
  refine opE_step ?_
  rw [if_pos (by rfl)]
  go_simp
  go_at_call 18
  (with_reducible refine (re2 hg1 hg2 Hlv.out hd1D he1 hle1 hk100 Q1.out).mono ?_)
  rintro e v2 ⟨rfl, H2, q2⟩
  have Q2 := Lib.hid q2
  replace HS0 := Lib.hid (show (fun V => GAt V w1.heap.size l (D : Int) c ∧ GAt V (w1.heap.size + 1) l' (D' : Int) c') v2 from ⟨Q2.out.gat (g := w1.heap.size) (l := l) (d := (D : Int)) (c := c) (t := 25) (f := (0, 0)) (by simp), Q2.out.gat (g := w1.heap.size + 1) (l := l') (d := (D' : Int)) (c := c') (t := 25) (f := (0, 0)) (by simp)⟩)
  clear q2 Q1
  try dsimp only
  refine ⟨HS0.out, ?_⟩
  try simp only [Act.put, List.getElem_toArray, List.getElem_cons_succ, List.getElem_cons_zero, List.setIfInBounds_toArray, List.set_cons_zero, List.set_cons_succ]
  refine' anyI_take R 19 rfl (v := ?_) (by kernel_rfl) (by rfl) (fun V hV => ?hy) HS0.out ?_
  case hy => ((try dsimp only at hV);  obtain ⟨⟨y0, y1, y2⟩, ⟨y3, y4, y5⟩⟩ := hV; go_simp; try with_reducible rfl)
  try simp only [Act.put, List.getElem_toArray, List.getElem_cons_succ, List.getElem_cons_zero, List.setIfInBounds_toArray, List.set_cons_zero, List.set_cons_succ]
  refine' anyI_take R 20 rfl (v := ?_) (by kernel_rfl) (by rfl) (fun V hV => ?hy) HS0.out ?_
  case hy => ((try dsimp only at hV);  obtain ⟨⟨y0, y1, y2⟩, ⟨y3, y4, y5⟩⟩ := hV; go_simp; try with_reducible rfl)
  try simp only [Act.put, List.getElem_toArray, List.getElem_cons_succ, List.getElem_cons_zero, List.setIfInBounds_toArray, List.set_cons_zero, List.set_cons_succ]
  refine' anyI_take R 21 rfl (v := ?_) (by kernel_rfl) (by rfl) (fun V hV => ?hy) HS0.out ?_
  case hy => ((try dsimp only at hV);  obtain ⟨⟨y0, y1, y2⟩, ⟨y3, y4, y5⟩⟩ := hV; go_simp; try with_reducible rfl)
  try simp only [Act.put, List.getElem_toArray, List.getElem_cons_succ, List.getElem_cons_zero, List.setIfInBounds_toArray, List.set_cons_zero, List.set_cons_succ]
  refine' anyI_take R 22 rfl (v := ?_) (by kernel_rfl) (by rfl) (fun V hV => ?hy) HS0.out ?_
  case hy => ((try dsimp only at hV);  obtain ⟨⟨y0, y1, y2⟩, ⟨y3, y4, y5⟩⟩ := hV; go_simp; try with_reducible rfl)
  try simp only [Act.put, List.getElem_toArray, List.getElem_cons_succ, List.getElem_cons_zero, List.setIfInBounds_toArray, List.set_cons_zero, List.set_cons_succ]
  refine' anyI_take R 23 rfl (v := ?_) (by kernel_rfl) (by rfl) (fun V hV => ?hy) HS0.out ?_
  case hy => ((try dsimp only at hV);  obtain ⟨⟨y0, y1, y2⟩, ⟨y3, y4, y5⟩⟩ := hV; go_simp; try with_reducible rfl)
  try simp only [Act.put, List.getElem_toArray, List.getElem_cons_succ, List.getElem_cons_zero, List.setIfInBounds_toArray, List.set_cons_zero, List.set_cons_succ]
  refine' anyI_take R 24 rfl (v := ?_) (by kernel_rfl) (by rfl) (fun V hV => ?hy) HS0.out ?_
  case hy => ((try dsimp only at hV);  obtain ⟨⟨y0, y1, y2⟩, ⟨y3, y4, y5⟩⟩ := hV; go_simp; try with_reducible rfl)
  try simp only [Act.put, List.getElem_toArray, List.getElem_cons_succ, List.getElem_cons_zero, List.setIfInBounds_toArray, List.set_cons_zero, List.set_cons_succ]
  refine' anyI_take R 25 rfl (v := ?_) (by kernel_rfl) (by rfl) (fun V hV => ?hy) HS0.out ?_
  case hy => ((try dsimp only at hV);  obtain ⟨⟨y0, y1, y2⟩, ⟨y3, y4, y5⟩⟩ := hV; go_simp; try with_reducible rfl)
  try simp only [Act.put, List.getElem_toArray, List.getElem_cons_succ, List.getElem_cons_zero, List.setIfInBounds_toArray, List.set_cons_zero, List.set_cons_succ]
  refine' anyI_take R 26 rfl (v := ?_) (by kernel_rfl) (by rfl) (fun V hV => ?hy) HS0.out ?_
  case hy => ((try dsimp only at hV);  obtain ⟨⟨y0, y1, y2⟩, ⟨y3, y4, y5⟩⟩ := hV; go_simp; try with_reducible rfl)
  try simp only [Act.put, List.getElem_toArray, List.getElem_cons_succ, List.getElem_cons_zero, List.setIfInBounds_toArray, List.set_cons_zero, List.set_cons_succ]
  refine' anyI_take R 27 rfl (v := ?_) (by kernel_rfl) (by rfl) (fun V hV => ?hy) HS0.out ?_
  case hy => ((try dsimp only at hV);  obtain ⟨⟨y0, y1, y2⟩, ⟨y3, y4, y5⟩⟩ := hV; go_simp; try with_reducible rfl)
  try simp only [Act.put, List.getElem_toArray, List.getElem_cons_succ, List.getElem_cons_zero, List.setIfInBounds_toArray, List.set_cons_zero, List.set_cons_succ]
  refine' anyI_take R 28 rfl (v := ?_) (by kernel_rfl) (by rfl) (fun V hV => ?hy) HS0.out ?_
  case hy => ((try dsimp only at hV);  obtain ⟨⟨y0, y1, y2⟩, ⟨y3, y4, y5⟩⟩ := hV; go_simp; try with_reducible rfl)
  try simp only [Act.put, List.getElem_toArray, List.getElem_cons_succ, List.getElem_cons_zero, List.setIfInBounds_toArray, List.set_cons_zero, List.set_cons_succ]
  refine' anyI_take R 29 rfl (v := ?_) (by kernel_rfl) (by rfl) (fun V hV => ?hy) HS0.out ?_
  case hy => ((try dsimp only at hV);  obtain ⟨⟨y0, y1, y2⟩, ⟨y3, y4, y5⟩⟩ := hV; go_simp; try with_reducible rfl)
  try simp only [Act.put, List.getElem_toArray, List.getElem_cons_succ, List.getElem_cons_zero, List.setIfInBounds_toArray, List.set_cons_zero, List.set_cons_succ]
  refine' anyI_take R 30 rfl (v := ?_) (by kernel_rfl) (by rfl) (fun V hV => ?hy) HS0.out ?_
  case hy => ((try dsimp only at hV);  obtain ⟨⟨y0, y1, y2⟩, ⟨y3, y4, y5⟩⟩ := hV; go_simp; try with_reducible rfl)
  try simp only [Act.put, List.getElem_toArray, List.getElem_cons_succ, List.getElem_cons_zero, List.setIfInBounds_toArray, List.set_cons_zero, List.set_cons_succ]
  refine anyI_one 31 (by kernel_rfl) rfl ?_
  try simp only [List.getElem_toArray, List.getElem_cons_succ, List.getElem_cons_zero]
  refine opE_step ?_
  rw [if_pos (by rfl)]
  go_simp
  go_at_call 18
  (with_reducible refine (re3 hg1 hg2 Hlv.out hd1D he1 hle1 hk100 Q2.out).mono ?_)
  rintro e v3 ⟨rfl, H3, q3⟩
  have Q3 := Lib.hid q3
  replace HS0 := Lib.hid (show (fun V => GAt V w1.heap.size l (D : Int) c ∧ GAt V (w1.heap.size + 1) l' (D' : Int) c') v3 from ⟨Q3.out.gat (g := w1.heap.size) (l := l) (d := (D : Int)) (c := c) (t := 25) (f := (0, 0)) (by simp), Q3.out.gat (g := w1.heap.size + 1) (l := l') (d := (D' : Int)) (c := c') (t := 25) (f := (0, 0)) (by simp)⟩)
  clear q3 Q2
  try dsimp only
  refine ⟨HS0.out, ?_⟩
  try simp only [Act.put, List.getElem_toArray, List.getElem_cons_succ, List.getElem_cons_zero, List.setIfInBounds_toArray, List.set_cons_zero, List.set_cons_succ]
  refine' anyI_take R 32 rfl (v := ?_) (by kernel_rfl) (by rfl) (fun V hV => ?hy) HS0.out ?_
  case hy => ((try dsimp only at hV);  obtain ⟨⟨y0, y1, y2⟩, ⟨y3, y4, y5⟩⟩ := hV; go_simp; try with_reducible rfl)
  try simp only [Act.put, List.getElem_toArray, List.getElem_cons_succ, List.getElem_cons_zero, List.setIfInBounds_toArray, List.set_cons_zero, List.set_cons_succ]
  refine' anyI_take R 33 rfl (v := ?_) (by kernel_rfl) (by rfl) (fun V hV => ?hy) HS0.out ?_
  case hy => ((try dsimp only at hV);  obtain ⟨⟨y0, y1, y2⟩, ⟨y3, y4, y5⟩⟩ := hV; go_simp; try with_reducible rfl)
  try simp only [Act.put, List.getElem_toArray, List.getElem_cons_succ, List.getElem_cons_zero, List.setIfInBounds_toArray, List.set_cons_zero, List.set_cons_succ]
  refine' anyI_take R 34 rfl (v := ?_) (by kernel_rfl) (by rfl) (fun V hV => ?hy) HS0.out ?_
  case hy => ((try dsimp only at hV);  obtain ⟨⟨y0, y1, y2⟩, ⟨y3, y4, y5⟩⟩ := hV; go_simp; try with_reducible rfl)
  try simp only [Act.put, List.getElem_toArray, List.getElem_cons_succ, List.getElem_cons_zero, List.setIfInBounds_toArray, List.set_cons_zero, List.set_cons_succ]
  refine' anyI_take R 35 rfl (v := ?_) (by kernel_rfl) (by rfl) (fun V hV => ?hy) HS0.out ?_
  case hy => ((try dsimp only at hV);  obtain ⟨⟨y0, y1, y2⟩, ⟨y3, y4, y5⟩⟩ := hV; go_simp; try with_reducible rfl)
  try simp only [Act.put, List.getElem_toArray, List.getElem_cons_succ, List.getElem_cons_zero, List.setIfInBounds_toArray, List.set_cons_zero, List.set_cons_succ]
  refine' anyI_take R 36 rfl (v := ?_) (by kernel_rfl) (by rfl) (fun V hV => ?hy) HS0.out ?_
  case hy => ((try dsimp only at hV);  obtain ⟨⟨y0, y1, y2⟩, ⟨y3, y4, y5⟩⟩ := hV; go_simp; try with_reducible rfl)
  try simp only [Act.put, List.getElem_toArray, List.getElem_cons_succ, List.getElem_cons_zero, List.setIfInBounds_toArray, List.set_cons_zero, List.set_cons_succ]
  refine' anyI_take R 37 rfl (v := ?_) (by kernel_rfl) (by rfl) (fun V hV => ?hy) HS0.out ?_
  case hy => ((try dsimp only at hV);  obtain ⟨⟨y0, y1, y2⟩, ⟨y3, y4, y5⟩⟩ := hV; go_simp; try with_reducible rfl)
  try simp only [Act.put, List.getElem_toArray, List.getElem_cons_succ, List.getElem_cons_zero, List.setIfInBounds_toArray, List.set_cons_zero, List.set_cons_succ]
  refine' anyI_take R 38 rfl (v := ?_) (by kernel_rfl) (by rfl) (fun V hV => ?hy) HS0.out ?_
  case hy => ((try dsimp only at hV);  obtain ⟨⟨y0, y1, y2⟩, ⟨y3, y4, y5⟩⟩ := hV; go_simp; try with_reducible rfl)
  try simp only [Act.put, List.getElem_toArray, List.getElem_cons_succ, List.getElem_cons_zero, List.setIfInBounds_toArray, List.set_cons_zero, List.set_cons_succ]
  refine' anyI_take R 39 rfl (v := ?_) (by kernel_rfl) (by rfl) (fun V hV => ?hy) HS0.out ?_
  case hy => ((try dsimp only at hV);  obtain ⟨⟨y0, y1, y2⟩, ⟨y3, y4, y5⟩⟩ := hV; go_simp; try with_reducible rfl)
  try simp only [Act.put, List.getElem_toArray, List.getElem_cons_succ, List.getElem_cons_zero, List.setIfInBounds_toArray, List.set_cons_zero, List.set_cons_succ]
  refine anyI_one 40 (by kernel_rfl) rfl ?_
  try simp only [List.getElem_toArray, List.getElem_cons_succ, List.getElem_cons_zero]
  refine opE_step ?_
  rw [if_pos (by rfl)]
  go_simp
  go_at_call 18
  (with_reducible refine (re4 hg1 hg2 Hlv.out hd1D he1 hle1 hk100 Q3.out).mono ?_)
  rintro e v4 ⟨rfl, H4, q4⟩
  have Q4 := Lib.hid q4
  replace HS0 := Lib.hid (show (fun V => GAt V w1.heap.size l (D : Int) c ∧ GAt V (w1.heap.size + 1) l' (D' : Int) c') v4 from ⟨Q4.out.gat (g := w1.heap.size) (l := l) (d := (D : Int)) (c := c) (t := 25) (f := (0, 0)) (by simp), Q4.out.gat (g := w1.heap.size + 1) (l := l') (d := (D' : Int)) (c := c') (t := 25) (f := (0, 0)) (by simp)⟩)
  clear q4 Q3
  try dsimp only
  refine ⟨HS0.out, ?_⟩
  try simp only [Act.put, List.getElem_toArray, List.getElem_cons_succ, List.getElem_cons_zero, List.setIfInBounds_toArray, List.set_cons_zero, List.set_cons_succ]
  refine' anyI_take R 41 rfl (v := ?_) (by kernel_rfl) (by rfl) (fun V hV => ?hy) HS0.out ?_
  case hy => ((try dsimp only at hV);  obtain ⟨⟨y0, y1, y2⟩, ⟨y3, y4, y5⟩⟩ := hV; go_simp; try with_reducible rfl)
  try simp only [Act.put, List.getElem_toArray, List.getElem_cons_succ, List.getElem_cons_zero, List.setIfInBounds_toArray, List.set_cons_zero, List.set_cons_succ]
  refine' anyI_take R 42 rfl (v := ?_) (by kernel_rfl) (by rfl) (fun V hV => ?hy) HS0.out ?_
  case hy => ((try dsimp only at hV);  obtain ⟨⟨y0, y1, y2⟩, ⟨y3, y4, y5⟩⟩ := hV; go_simp; try with_reducible rfl)
  try simp only [Act.put, List.getElem_toArray, List.getElem_cons_succ, List.getElem_cons_zero, List.setIfInBounds_toArray, List.set_cons_zero, List.set_cons_succ]
  refine' anyI_take R 43 rfl (v := ?_) (by kernel_rfl) (by rfl) (fun V hV => ?hy) HS0.out ?_
  case hy => ((try dsimp only at hV);  obtain ⟨⟨y0, y1, y2⟩, ⟨y3, y4, y5⟩⟩ := hV; go_simp; try with_reducible rfl)
  try simp only [Act.put, List.getElem_toArray, List.getElem_cons_succ, List.getElem_cons_zero, List.setIfInBounds_toArray, List.set_cons_zero, List.set_cons_succ]
  refine' anyI_take R 44 rfl (v := ?_) (by kernel_rfl) (by rfl) (fun V hV => ?hy) HS0.out ?_
  case hy => ((try dsimp only at hV);  obtain ⟨⟨y0, y1, y2⟩, ⟨y3, y4, y5⟩⟩ := hV; go_simp; try with_reducible rfl)
  try simp only [Act.put, List.getElem_toArray, List.getElem_cons_succ, List.getElem_cons_zero, List.setIfInBounds_toArray, List.set_cons_zero, List.set_cons_succ]
  refine' anyI_take R 45 rfl (v := ?_) (by kernel_rfl) (by rfl) (fun V hV => ?hy) HS0.out ?_
  case hy => ((try dsimp only at hV);  obtain ⟨⟨y0, y1, y2⟩, ⟨y3, y4, y5⟩⟩ := hV; go_simp; try with_reducible rfl)
  try simp only [Act.put, List.getElem_toArray, List.getElem_cons_succ, List.getElem_cons_zero, List.setIfInBounds_toArray, List.set_cons_zero, List.set_cons_succ]
  refine' anyI_take R 46 rfl (v := ?_) (by kernel_rfl) (by rfl) (fun V hV => ?hy) HS0.out ?_
  case hy => ((try dsimp only at hV);  obtain ⟨⟨y0, y1, y2⟩, ⟨y3, y4, y5⟩⟩ := hV; go_simp; try with_reducible rfl)
  try simp only [Act.put, List.getElem_toArray, List.getElem_cons_succ, List.getElem_cons_zero, List.setIfInBounds_toArray, List.set_cons_zero, List.set_cons_succ]
  refine' anyI_take R 47 rfl (v := ?_) (by kernel_rfl) (by rfl) (fun V hV => ?hy) HS0.out ?_
  case hy => ((try dsimp only at hV);  obtain ⟨⟨y0, y1, y2⟩, ⟨y3, y4, y5⟩⟩ := hV; go_simp; try with_reducible rfl)
  try simp only [Act.put, List.getElem_toArray, List.getElem_cons_succ, List.getElem_cons_zero, List.setIfInBounds_toArray, List.set_cons_zero, List.set_cons_succ]
  refine' anyI_take R 48 rfl (v := ?_) (by kernel_rfl) (by rfl) (fun V hV => ?hy) HS0.out ?_
  case hy => ((try dsimp only at hV);  obtain ⟨⟨y0, y1, y2⟩, ⟨y3, y4, y5⟩⟩ := hV; go_simp; try with_reducible rfl)
  try simp only [Act.put, List.getElem_toArray, List.getElem_cons_succ, List.getElem_cons_zero, List.setIfInBounds_toArray, List.set_cons_zero, List.set_cons_succ]
  refine anyI_one 49 (by kernel_rfl) rfl ?_
  try simp only [List.getElem_toArray, List.getElem_cons_succ, List.getElem_cons_zero]
  refine opE_step ?_
  rw [if_pos (by rfl)]
  go_simp
  go_at_call 18
  (with_reducible refine (re5 hg1 hg2 Hlv.out hd1D he1 hle1 hk100 Q4.out).mono ?_)
  rintro e v5 ⟨rfl, H5, q5⟩
  have Q5 := Lib.hid q5
  replace HS0 := Lib.hid (show (fun V => GAt V w1.heap.size l (D : Int) c ∧ GAt V (w1.heap.size + 1) l' (D' : Int) c') v5 from ⟨Q5.out.gat (g := w1.heap.size) (l := l) (d := (D : Int)) (c := c) (t := 25) (f := (0, 0)) (by simp), Q5.out.gat (g := w1.heap.size + 1) (l := l') (d := (D' : Int)) (c := c') (t := 25) (f := (0, 0)) (by simp)⟩)
  clear q5 Q4
  try dsimp only
  refine ⟨HS0.out, ?_⟩
  try simp only [Act.put, List.getElem_toArray, List.getElem_cons_succ, List.getElem_cons_zero, List.setIfInBounds_toArray, List.set_cons_zero, List.set_cons_succ]
  refine' anyI_take R 50 rfl (v := ?_) (by kernel_rfl) (by rfl) (fun V hV => ?hy) HS0.out ?_
  case hy => ((try dsimp only at hV);  obtain ⟨⟨y0, y1, y2⟩, ⟨y3, y4, y5⟩⟩ := hV; go_simp; try with_reducible rfl)
  try simp only [Act.put, List.getElem_toArray, List.getElem_cons_succ, List.getElem_cons_zero, List.setIfInBounds_toArray, List.set_cons_zero, List.set_cons_succ]
  refine' anyI_take R 51 rfl (v := ?_) (by kernel_rfl) (by rfl) (fun V hV => ?hy) HS0.out ?_
  case hy => ((try dsimp only at hV);  obtain ⟨⟨y0, y1, y2⟩, ⟨y3, y4, y5⟩⟩ := hV; go_simp; try with_reducible rfl)
  try simp only [Act.put, List.getElem_toArray, List.getElem_cons_succ, List.getElem_cons_zero, List.setIfInBounds_toArray, List.set_cons_zero, List.set_cons_succ]
  refine' anyI_take R 52 rfl (v := ?_) (by kernel_rfl) (by rfl) (fun V hV => ?hy) HS0.out ?_
  case hy => ((try dsimp only at hV);  obtain ⟨⟨y0, y1, y2⟩, ⟨y3, y4, y5⟩⟩ := hV; go_simp; try with_reducible rfl)
  try simp only [Act.put, List.getElem_toArray, List.getElem_cons_succ, List.getElem_cons_zero, List.setIfInBounds_toArray, List.set_cons_zero, List.set_cons_succ]
  refine' anyI_take R 53 rfl (v := ?_) (by kernel_rfl) (by rfl) (fun V hV => ?hy) HS0.out ?_
  case hy => ((try dsimp only at hV);  obtain ⟨⟨y0, y1, y2⟩, ⟨y3, y4, y5⟩⟩ := hV; go_simp; try with_reducible rfl)
  try simp only [Act.put, List.getElem_toArray, List.getElem_cons_succ, List.getElem_cons_zero, List.setIfInBounds_toArray, List.set_cons_zero, List.set_cons_succ]
  refine' anyI_take R 54 rfl (v := ?_) (by kernel_rfl) (by rfl) (fun V hV => ?hy) HS0.out ?_
  case hy => ((try dsimp only at hV);  obtain ⟨⟨y0, y1, y2⟩, ⟨y3, y4, y5⟩⟩ := hV; go_simp; try with_reducible rfl)
  try simp only [Act.put, List.getElem_toArray, List.getElem_cons_succ, List.getElem_cons_zero, List.setIfInBounds_toArray, List.set_cons_zero, List.set_cons_succ]
  refine' anyI_take R 55 rfl (v := ?_) (by kernel_rfl) (by rfl) (fun V hV => ?hy) HS0.out ?_
  case hy => ((try dsimp only at hV);  obtain ⟨⟨y0, y1, y2⟩, ⟨y3, y4, y5⟩⟩ := hV; go_simp; try with_reducible rfl)
  try simp only [Act.put, List.getElem_toArray, List.getElem_cons_succ, List.getElem_cons_zero, List.setIfInBounds_toArray, List.set_cons_zero, List.set_cons_succ]
  refine' anyI_take R 56 rfl (v := ?_) (by kernel_rfl) (by rfl) (fun V hV => ?hy) HS0.out ?_
  case hy => ((try dsimp only at hV);  obtain ⟨⟨y0, y1, y2⟩, ⟨y3, y4, y5⟩⟩ := hV; go_simp; try with_reducible rfl)
  try simp only [Act.put, List.getElem_toArray, List.getElem_cons_succ, List.getElem_cons_zero, List.setIfInBounds_toArray, List.set_cons_zero, List.set_cons_succ]
  refine' anyI_take R 57 rfl (v := ?_) (by kernel_rfl) (by rfl) (fun V hV => ?hy) HS0.out ?_
  case hy => ((try dsimp only at hV);  obtain ⟨⟨y0, y1, y2⟩, ⟨y3, y4, y5⟩⟩ := hV; go_simp; try with_reducible rfl)
  try simp only [Act.put, List.getElem_toArray, List.getElem_cons_succ, List.getElem_cons_zero, List.setIfInBounds_toArray, List.set_cons_zero, List.set_cons_succ]
  refine' anyI_take R 58 rfl (v := ?_) (by kernel_rfl) (by rfl) (fun V hV => ?hy) HS0.out ?_
  case hy => ((try dsimp only at hV);  obtain ⟨⟨y0, y1, y2⟩, ⟨y3, y4, y5⟩⟩ := hV; go_simp; try with_reducible rfl)
  try simp only [Act.put, List.getElem_toArray, List.getElem_cons_succ, List.getElem_cons_zero, List.setIfInBounds_toArray, List.set_cons_zero, List.set_cons_succ]
  refine' anyI_take R 59 rfl (v := ?_) (by kernel_rfl) (by rfl) (fun V hV => ?hy) HS0.out ?_
  case hy => ((try dsimp only at hV);  obtain ⟨⟨y0, y1, y2⟩, ⟨y3, y4, y5⟩⟩ := hV; go_simp; try with_reducible rfl)
  try simp only [Act.put, List.getElem_toArray, List.getElem_cons_succ, List.getElem_cons_zero, List.setIfInBounds_toArray, List.set_cons_zero, List.set_cons_succ]
  refine anyI_one 60 (by kernel_rfl) rfl ?_
  try simp only [List.getElem_toArray, List.getElem_cons_succ, List.getElem_cons_zero]
  refine opE_step ?_
  rw [if_pos (by rfl)]
  go_simp
  go_at_call 18
  (with_reducible refine (re6 hg1 hg2 Hlv.out hd1D he1 hle1 hk100 Q5.out).mono ?_)
  rintro e v6 ⟨rfl, H6, q6⟩
  have Q6 := Lib.hid q6
  replace HS0 := Lib.hid (show (fun V => GAt V w1.heap.size l (D : Int) c ∧ GAt V (w1.heap.size + 1) l' (D' : Int) c') v6 from ⟨Q6.out.gat (g := w1.heap.size) (l := l) (d := (D : Int)) (c := c) (t := 25) (f := (0, 0)) (by simp), Q6.out.gat (g := w1.heap.size + 1) (l := l') (d := (D' : Int)) (c := c') (t := 25) (f := (0, 0)) (by simp)⟩)
  clear q6 Q5
  try dsimp only
  refine ⟨HS0.out, ?_⟩
  try simp only [Act.put, List.getElem_toArray, List.getElem_cons_succ, List.getElem_cons_zero, List.setIfInBounds_toArray, List.set_cons_zero, List.set_cons_succ]
  refine' anyI_take R 61 rfl (v := ?_) (by kernel_rfl) (by rfl) (fun V hV => ?hy) HS0.out ?_
  case hy => ((try dsimp only at hV);  obtain ⟨⟨y0, y1, y2⟩, ⟨y3, y4, y5⟩⟩ := hV; go_simp; try with_reducible rfl)
  try simp only [Act.put, List.getElem_toArray, List.getElem_cons_succ, List.getElem_cons_zero, List.setIfInBounds_toArray, List.set_cons_zero, List.set_cons_succ]
  refine' anyI_take R 62 rfl (v := ?_) (by kernel_rfl) (by rfl) (fun V hV => ?hy) HS0.out ?_
  case hy => ((try dsimp only at hV);  obtain ⟨⟨y0, y1, y2⟩, ⟨y3, y4, y5⟩⟩ := hV; go_simp; try with_reducible rfl)
  try simp only [Act.put, List.getElem_toArray, List.getElem_cons_succ, List.getElem_cons_zero, List.setIfInBounds_toArray, List.set_cons_zero, List.set_cons_succ]
  refine' anyI_take R 63 rfl (v := ?_) (by kernel_rfl) (by rfl) (fun V hV => ?hy) HS0.out ?_
  case hy => ((try dsimp only at hV);  obtain ⟨⟨y0, y1, y2⟩, ⟨y3, y4, y5⟩⟩ := hV; go_simp; try with_reducible rfl)
  try simp only [Act.put, List.getElem_toArray, List.getElem_cons_succ, List.getElem_cons_zero, List.setIfInBounds_toArray, List.set_cons_zero, List.set_cons_succ]
  refine' anyI_take R 64 rfl (v := ?_) (by kernel_rfl) (by rfl) (fun V hV => ?hy) HS0.out ?_
  case hy => ((try dsimp only at hV);  obtain ⟨⟨y0, y1, y2⟩, ⟨y3, y4, y5⟩⟩ := hV; go_simp; try with_reducible rfl)
  try simp only [Act.put, List.getElem_toArray, List.getElem_cons_succ, List.getElem_cons_zero, List.setIfInBounds_toArray, List.set_cons_zero, List.set_cons_succ]
  refine' anyI_take R 65 rfl (v := ?_) (by kernel_rfl) (by rfl) (fun V hV => ?hy) HS0.out ?_
  case hy => ((try dsimp only at hV);  obtain ⟨⟨y0, y1, y2⟩, ⟨y3, y4, y5⟩⟩ := hV; go_simp; try with_reducible rfl)
  try simp only [Act.put, List.getElem_toArray, List.getElem_cons_succ, List.getElem_cons_zero, List.setIfInBounds_toArray, List.set_cons_zero, List.set_cons_succ]
  refine' anyI_take R 66 rfl (v := ?_) (by kernel_rfl) (by rfl) (fun V hV => ?hy) HS0.out ?_
  case hy => ((try dsimp only at hV);  obtain ⟨⟨y0, y1, y2⟩, ⟨y3, y4, y5⟩⟩ := hV; go_simp; try with_reducible rfl)
  try simp only [Act.put, List.getElem_toArray, List.getElem_cons_succ, List.getElem_cons_zero, List.setIfInBounds_toArray, List.set_cons_zero, List.set_cons_succ]
  refine' anyI_take R 67 rfl (v := ?_) (by kernel_rfl) (by rfl) (fun V hV => ?hy) HS0.out ?_
  case hy => ((try dsimp only at hV);  obtain ⟨⟨y0, y1, y2⟩, ⟨y3, y4, y5⟩⟩ := hV; go_simp; try with_reducible rfl)
  try simp only [Act.put, List.getElem_toArray, List.getElem_cons_succ, List.getElem_cons_zero, List.setIfInBounds_toArray, List.set_cons_zero, List.set_cons_succ]
  refine' anyI_take R 68 rfl (v := ?_) (by kernel_rfl) (by rfl) (fun V hV => ?hy) HS0.out ?_
  case hy => ((try dsimp only at hV);  obtain ⟨⟨y0, y1, y2⟩, ⟨y3, y4, y5⟩⟩ := hV; go_simp; try with_reducible rfl)
  try simp only [Act.put, List.getElem_toArray, List.getElem_cons_succ, List.getElem_cons_zero, List.setIfInBounds_toArray, List.set_cons_zero, List.set_cons_succ]
  refine' anyI_take R 69 rfl (v := ?_) (by kernel_rfl) (by rfl) (fun V hV => ?hy) HS0.out ?_
  case hy => ((try dsimp only at hV);  obtain ⟨⟨y0, y1, y2⟩, ⟨y3, y4, y5⟩⟩ := hV; go_simp; try with_reducible rfl)
  try simp only [Act.put, List.getElem_toArray, List.getElem_cons_succ, List.getElem_cons_zero, List.setIfInBounds_toArray, List.set_cons_zero, List.set_cons_succ]
  refine' anyI_take R 70 rfl (v := ?_) (by kernel_rfl) (by rfl) (fun V hV => ?hy) HS0.out ?_
  case hy => ((try dsimp only at hV);  obtain ⟨⟨y0, y1, y2⟩, ⟨y3, y4, y5⟩⟩ := hV; go_simp; try with_reducible rfl)
  try simp only [Act.put, List.getElem_toArray, List.getElem_cons_succ, List.getElem_cons_zero, List.setIfInBounds_toArray, List.set_cons_zero, List.set_cons_succ]
  refine anyI_one 71 (by kernel_rfl) rfl ?_
  try simp only [List.getElem_toArray, List.getElem_cons_succ, List.getElem_cons_zero]
  refine opE_step ?_
  rw [if_pos (by rfl)]
  go_simp
  go_at_call 18
  (with_reducible refine (re7 hg1 hg2 Hlv.out hd1D he1 hle1 hk100 Q6.out).mono ?_)
  rintro e v7 ⟨rfl, H7, q7⟩
  have Q7 := Lib.hid q7
  replace HS0 := Lib.hid (show (fun V => GAt V w1.heap.size l (D : Int) c ∧ GAt V (w1.heap.size + 1) l' (D' : Int) c') v7 from ⟨Q7.out.gat (g := w1.heap.size) (l := l) (d := (D : Int)) (c := c) (t := 25) (f := (0, 0)) (by simp), Q7.out.gat (g := w1.heap.size + 1) (l := l') (d := (D' : Int)) (c := c') (t := 25) (f := (0, 0)) (by simp)⟩)
  clear q7 Q6
  try dsimp only
  refine ⟨HS0.out, ?_⟩
  try simp only [Act.put, List.getElem_toArray, List.getElem_cons_succ, List.getElem_cons_zero, List.setIfInBounds_toArray, List.set_cons_zero, List.set_cons_succ]
  refine' anyI_take R 72 rfl (v := ?_) (by kernel_rfl) (by rfl) (fun V hV => ?hy) HS0.out ?_
  case hy => ((try dsimp only at hV);  obtain ⟨⟨y0, y1, y2⟩, ⟨y3, y4, y5⟩⟩ := hV; go_simp; try with_reducible rfl)
  try simp only [Act.put, List.getElem_toArray, List.getElem_cons_succ, List.getElem_cons_zero, List.setIfInBounds_toArray, List.set_cons_zero, List.set_cons_succ]
  refine' anyI_take R 73 rfl (v := ?_) (by kernel_rfl) (by rfl) (fun V hV => ?hy) HS0.out ?_
  case hy => ((try dsimp only at hV);  obtain ⟨⟨y0, y1, y2⟩, ⟨y3, y4, y5⟩⟩ := hV; go_simp; try with_reducible rfl)
  try simp only [Act.put, List.getElem_toArray, List.getElem_cons_succ, List.getElem_cons_zero, List.setIfInBounds_toArray, List.set_cons_zero, List.set_cons_succ]
  refine anyI_tail (by kernel_rfl) ?_
  try simp only [List.drop_succ_cons, List.drop_zero]
  clear R
  go_wp2_with fail
  refine NoPanic.normal ?_
  clear hmd hwA hwB hwC hwD hwE HS0
  obtain ⟨g1, g2, g3⟩ := Q7.out.gat (g := w1.heap.size) (l := l) (d := (D : Int)) (c := c) (t := 25) (f := (0, 0)) (by simp)
  obtain ⟨g4, g5, g6⟩ := Q7.out.gat (g := w1.heap.size + 1) (l := l') (d := (D' : Int)) (c := c') (t := 25) (f := (0, 0)) (by simp)
  have C8 := Lib.hid (re8 hg1 hg2 Hlv.out hDD hd1D Hlk.out Hlt.out (zr_new D') (show (Bch.new D').done ≤ 1000 from Nat.zero_le _) Q7.out)
  clear Q7
  go_wp2_with fail
  (with_reducible refine C8.out.mono ?_); rintro e v8 ⟨rfl, H8, N8, q8, z8, d8⟩
  have Q8 := Lib.hid q8
  have Z8 := Lib.hid z8
  obtain ⟨g1, g2, g3⟩ := q8.gat (g := w1.heap.size) (l := l) (d := (D : Int)) (c := c) (t := 25) (f := (0, 0)) (by simp)
  obtain ⟨g4, g5, g6⟩ := q8.gat (g := w1.heap.size + 1) (l := l') (d := (D' : Int)) (c := c') (t := 25) (f := (0, 0)) (by simp)
  have hd8 : N8.done ≤ 16 := by have : (Bch.new D').done = 0 := rfl; omega
  have C9 := Lib.hid (re9 hg1 hg2 Hlv.out hDD hd1D Hlk.out Hlt.out z8 (by omega) q8)
  clear q8 z8 d8 C8 Q8
  go_wp2_with fail
  (with_reducible refine C9.out.mono ?_); rintro e v9 ⟨rfl, H9, N9, q9, z9, d9⟩
  have CFa := Lib.hid (ks_fail q9 (d1 : Int) ⟨by omega, by omega⟩)
  have HN9 := Lib.hid (show (N9.fail (d1 : Int)).n = D' ∧ ((N9.fail (d1 : Int)).D d1).f = true ∧ (∀ i, i < (N9.fail (d1 : Int)).n → ((N9.fail (d1 : Int)).D i).ps.length ≤ 1999900) ∧ (N9.fail (d1 : Int)).done ≤ 1000 from by
    have hn9 := z9.n
    have e1 : ∀ i, (N9.fail (d1 : Int)).D i = if i = d1 then Dsk.failed else N9.D i := fail_D (by omega)
    refine ⟨fail_is.trans hn9, by rw [e1, if_pos rfl]; rfl, fun i hi => ?_, ?_⟩
    · rw [fail_is, hn9] at hi
      rw [e1]
      split
      · exact Nat.zero_le _
      · rw [z9.ps i hi]; exact Nat.zero_le _
    · have : (N9.fail (d1 : Int)).done = N9.done := by unfold Bch.fail; split <;> rfl
      omega)
  clear q9 z9 d9 C9 g1 g2 g3 g4 g5 g6
  go_wp2_with fail
  (with_reducible refine CFa.out.mono ?_); rintro e v10 ⟨rfl, H10, q10⟩
  obtain ⟨hn9, hf9, hp9, hdn9⟩ := HN9.out
  obtain ⟨g1, g2, g3⟩ := q10.gat (g := w1.heap.size) (l := l) (d := (D : Int)) (c := c) (t := 25) (f := (0, 0)) (by simp)
  obtain ⟨g4, g5, g6⟩ := q10.gat (g := w1.heap.size + 1) (l := l') (d := (D' : Int)) (c := c') (t := 25) (f := (0, 0)) (by simp)
  have C11 := Lib.hid (reF hg1 hg2 Hlv.out hd1D Hlk.out hn9 hf9 hp9 hdn9 q10)
  clear q10 hp9 hf9 hn9 hdn9 CFa HN9
  go_wp2_with fail
  (with_reducible refine C11.out.mono ?_); rintro e v11 ⟨rfl, hb11⟩
  have CW := Lib.hid (rbWakes_any v11)
  go_wp2_with fail
  (with_reducible refine CW.out.mono ?_); rintro e v12 ⟨rfl, hb12⟩
  go_wp2_with fail
  go_ret
  exact ⟨rfl, hb11.trans (hb12.mono hb11.size)⟩
end Go.Proofs.Ytadmofpipfdedaa
end
