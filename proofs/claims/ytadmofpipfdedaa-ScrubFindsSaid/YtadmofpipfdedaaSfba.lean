/- Texts put together: Only, RbdMath. -/
import Derived.Test.YtadmofpipfdedaaSfaz
import Derived.Test.YtadmofpipfdedaaSfau
section
set_option linter.unusedVariables false
set_option linter.unusedSimpArgs false
namespace Go.Proofs.Ytadmofpipfdedaa

/-! A bench on which, where it serves, a geometry's rows stand. -/
def only (N : Bch) (lv : List Bool) : Bch := { N with D := fun i => if srvD N lv i = true then N.D i else Dsk.failed }
end Go.Proofs.Ytadmofpipfdedaa
end
section
set_option linter.unusedVariables false
set_option linter.unusedSimpArgs false
namespace Go.Proofs.Ytadmofpipfdedaa

/-- Of two numbers the second one below the split, the first one from there on. -/
def rg (s x x' : Int) (r : Nat) : Int := if (r : Int) < s then x' else x
structure RG where
  l : Int
  d : Int
  c : Int
  l' : Int
  d' : Int
  c' : Int
  s : Int
namespace RG
def L (G : RG) (r : Nat) : Int := rg G.s G.l G.l' r
def D (G : RG) (r : Nat) : Int := rg G.s G.d G.d' r
def C (G : RG) (r : Nat) : Int := rg G.s G.c G.c' r
def ok (G : RG) : Bool := gOk G.l G.d G.c && (decide (0 ≤ G.s) && (decide (G.s ≤ 16) && (decide (G.s = 0) || gOk G.l' G.d' G.c')))
end RG
theorem RG.ok_yes {G : RG} (h : G.ok = true) : gOk G.l G.d G.c = true ∧ 0 ≤ G.s ∧ G.s ≤ 16 ∧ (G.s = 0 ∨ gOk G.l' G.d' G.c' = true) := by
  unfold RG.ok at h
  simp only [Bool.and_eq_true, Bool.or_eq_true, decide_eq_true_eq] at h
  exact ⟨h.1, h.2.1, h.2.2.1, h.2.2.2⟩
theorem RG.ok_mk {G : RG} (h1 : gOk G.l G.d G.c = true) (h2 : 0 ≤ G.s) (h3 : G.s ≤ 16) (h4 : G.s = 0 ∨ gOk G.l' G.d' G.c' = true) : G.ok = true := by
  unfold RG.ok
  simp only [Bool.and_eq_true, Bool.or_eq_true, decide_eq_true_eq]
  exact ⟨h1, h2, h3, h4⟩
theorem RG.good {G : RG} (h : G.ok = true) (r : Nat) : gOk (G.L r) (G.D r) (G.C r) = true := by
  obtain ⟨h1, h2, h3, h4⟩ := RG.ok_yes h
  unfold RG.L RG.D RG.C rg
  split
  · rcases h4 with h4 | h4
    · omega
    · exact h4
  · exact h1
/-- Any good geometry, any row of it. -/
theorem gr_mk {l c r : Int} {D : Nat} (hg : gOk l (D : Int) c = true) (h0 : 0 ≤ r) (h1 : r < 16) : Gr 0 l c r D (roF l (D : Int) c r) (roW l (D : Int)) := by
  have hb := gOk_bd hg
  have hok := plOk_mk hg h0 h1
  have R := ro_of hok
  have e : roD (D : Int) = D := by unfold roD; omega
  have hF := R.hF
  have hW := R.hW
  have d8 := R.d8
  have d3 := R.d3
  have lv := R.lv
  rw [e] at hF hW d8 d3 lv
  exact ⟨hok, R, e, rfl, rfl, hF, hW, R.w1, R.w7, d8, d3, lv, R.wd, by omega, by omega, by omega, by omega, ⟨h0, h1⟩⟩
section
variable {lv : List Bool} {G : RG} {dd : Nat} {N : Bch}
end
end Go.Proofs.Ytadmofpipfdedaa
end
