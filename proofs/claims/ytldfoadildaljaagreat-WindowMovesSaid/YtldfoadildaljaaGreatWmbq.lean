/- Texts put together: RbdCut, WinCut, WinKit. -/
import Derived.Test.YtldfoadildaljaaGreatWmbp
import Derived.Test.YtldfoadildaljaaGreatWmay
import Derived.Test.YtldfoadildaljaaGreatWmbn
import Derived.Test.YtldfoadildaljaaGreatWmbj
section
set_option maxRecDepth 20000
set_option linter.unusedVariables false
set_option linter.unusedSimpArgs false
namespace Go.Proofs.YtldfoadildaljaaGreat
open Go.RowKit
section
variable {W w:World} {b:Nat} {H:BH} {N:Bch} {K:List (Nat × Obj)} {R:List (Option Addr × List (List UInt8))} {S:List (Option Addr × List UInt8)}
end
section
variable {N M:Bch} {m k:Nat} {G:RG} {zs:List Int} {lv:List Bool}
end
end Go.Proofs.YtldfoadildaljaaGreat
end
section
set_option linter.unusedVariables false
set_option linter.unusedSimpArgs false
namespace Go.Proofs.YtldfoadildaljaaGreat
section
variable {D0 D:Dsk} {lo hi:Nat}
end
section
variable {N M:Bch} {lo hi:Nat}
end
section
variable {N M:Bch} {lv:List Bool} {l' c' fr:Int} {D r0:Nat} {ds:List (List UInt8)}
end
section
variable {l d c l' d' c' R K wa wb:Int}
end
end Go.Proofs.YtldfoadildaljaaGreat
end
section
set_option maxRecDepth 20000
set_option linter.unusedVariables false
set_option linter.unusedSimpArgs false
namespace Go.Proofs.YtldfoadildaljaaGreat
open Go.RowKit
section
variable {N:Bch} {lv:List Bool} {l d c l' d' c' k r r0 fr:Int} {rs ds:List (List UInt8)}
theorem swrS_done:(swrS N lv l d c r rs).2.done ≤ N.done + roD d:=by
 unfold swrS;split
 ·exact Nat.le_add_right _ _
 ·exact swTo_done _
theorem wwrTo_done:∀ j,(wwrTo N lv l' d' c' r0 fr ds j).2.done ≤ N.done + j * roD d'
 | 0=>by rw [Nat.zero_mul];exact Nat.le_refl _
 | j + 1=>by
   have ih:=wwrTo_done j
   have e:(j + 1) * roD d'=j * roD d' + roD d':=Nat.succ_mul _ _
   rw [wwrTo]
   split
   ·omega
   ·have:=swrS_done (N:=(wwrTo N lv l' d' c' r0 fr ds j).2) (lv:=lv) (l:=l') (d:=d') (c:=c') (r:=r0 + (j:Int)) (rs:=wrow l' d' c' (r0 + (j:Int)) fr ds);omega
theorem sflS_done:(sflS N lv).2.done=N.done:=onTo_any (fun M=>M.done=N.done) rfl (fun M i h=>(show (M.flush _).done=M.done by unfold Bch.flush;split <;> rfl).trans h) _
theorem wwrS_done:(wwrS N lv l d c l' d' c' k ds).2.done ≤ N.done + (pnR l d c l' d' c').toNat * roD d':=by
 unfold wwrS
 split
 ·exact Nat.le_add_right _ _
 ·split
  ·exact wwrTo_done _
  ·rw [sflS_done];exact wwrTo_done _
end
section
variable {W w:World} {b gl:Nat} {H:BH} {N:Bch} {K:List (Nat × Obj)} {R0:List (Option Addr × List (List UInt8))} {lv:List Bool} {l d c l' d' c' k:Int}
end
end Go.Proofs.YtldfoadildaljaaGreat
end
