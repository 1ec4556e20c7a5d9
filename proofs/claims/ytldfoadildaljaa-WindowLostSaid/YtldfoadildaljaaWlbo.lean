/- Texts put together: WinFail, RbdFr, RbdPut. -/
import Derived.Test.YtldfoadildaljaaWlbl
import Derived.Test.YtldfoadildaljaaWlbm
import Derived.Test.YtldfoadildaljaaWlbj
section
set_option linter.unusedVariables false
set_option linter.unusedSimpArgs false
namespace Go.Proofs.Ytldfoadildaljaa
open Go.RowKit

/-- A bench that was filled: its rows stand. -/
theorem Fld.mr {N : Bch} {m D : Nat} {l c : Int} {zs : List Int} (h : Fld N m D (rowL l c D (roW l (D : Int)) zs) 16 0) (lv : List Bool) : Mr N lv l (D : Int) c (fun t => datL zs t (roW l (D : Int))) 0 := ⟨h.gd.dn, fun t ht _ i hi hs => by
  rw [h.all (by omega) ht, show roD (D : Int) = D by unfold roD; omega]; rfl⟩
theorem Mr.fail {M : Bch} {lv : List Bool} {l d c : Int} {rs : Nat → List (List UInt8)} {s : Int} (h : Mr M lv l d c rs s) {k : Nat} (hk : k < M.n) : Mr (M.fail (k : Int)) lv l d c rs s := ⟨fail_up.trans h.dn, fun t ht h1 i hi hs => by
  rw [srv_fail hk] at hs
  rw [Bool.and_eq_true] at hs
  have hik : i ≠ k := fun e => by rw [e, decide_eq_true rfl] at hs; cases hs.2
  rw [fail_D hk, if_neg hik]
  exact h.st t ht h1 i hi hs.1⟩
theorem dat_rows (l d : Int) (zs : List Int) : ∀ t, t < 16 → (datL zs t (roW l d)).length = roW l d ∧ ∀ x ∈ datL zs t (roW l d), x.length = 32 := fun t _ => ⟨datL_len _ _ _, datL_mem⟩
end Go.Proofs.Ytldfoadildaljaa
end
section
set_option linter.unusedVariables false
set_option linter.unusedSimpArgs false
namespace Go.Proofs.Ytldfoadildaljaa
open Go.RowKit

section
variable {W w : World} {b : Nat} {H : BH} {N : Bch} {K : List (Nat × Obj)} {R : List (Option Addr × List (List UInt8))} {S : List (Option Addr × List UInt8)}
end
section
variable {N : Bch} {m k : Nat} {G : RG} {zs : List Int}
end
end Go.Proofs.Ytldfoadildaljaa
end
section
set_option linter.unusedVariables false
set_option linter.unusedSimpArgs false
namespace Go.Proofs.Ytldfoadildaljaa
open Go.RowKit

end Go.Proofs.Ytldfoadildaljaa
end
