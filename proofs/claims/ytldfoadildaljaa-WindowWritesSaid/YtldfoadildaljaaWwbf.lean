/- Texts put together: Only, RbdMath. -/
import Derived.Test.YtldfoadildaljaaWwbe
import Derived.Test.YtldfoadildaljaaWwax
section
set_option linter.unusedVariables false
set_option linter.unusedSimpArgs false
namespace Go.Proofs.Ytldfoadildaljaa

/-! A bench on which, where it serves, a geometry's rows stand. -/
def only (N : Bch) (lv : List Bool) : Bch := { N with D := fun i => if srvD N lv i = true then N.D i else Dsk.failed }
end Go.Proofs.Ytldfoadildaljaa
end
section
set_option linter.unusedVariables false
set_option linter.unusedSimpArgs false
namespace Go.Proofs.Ytldfoadildaljaa

structure RG where
  l : Int
  d : Int
  c : Int
  l' : Int
  d' : Int
  c' : Int
  s : Int
namespace RG
end RG
/-- Any good geometry, any row of it. -/
theorem gr_mk {l c r : Int} {D : Nat} (hg : gOk l (D : Int) c = true) (h0 : 0 ≤ r) (h1 : r < 16) : Gr 0 l c r D (roF l (D : Int) c r) (roW l (D : Int)) := by
  have hb := gOk_bd hg
  have hok := plOk_mk hg h0 h1
  have R := ro_of hok
  have e : roD (D : Int) = D := by unfold roD; omega
  have hF := R.hF
  have hW := R.hW
  have d8 := R.d8
  have d3 := R.d3
  have lv := R.lv
  rw [e] at hF hW d8 d3 lv
  exact ⟨hok, R, e, rfl, rfl, hF, hW, R.w1, R.w7, d8, d3, lv, R.wd, by omega, by omega, by omega, by omega, ⟨h0, h1⟩⟩
section
variable {lv : List Bool} {G : RG} {dd : Nat} {N : Bch}
end
end Go.Proofs.Ytldfoadildaljaa
end
