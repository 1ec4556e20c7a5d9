/- Texts put together: LogKeep, LogKr. -/
import Derived.Test.YtenkkdnepmoihaaGreatDoorUcbf
import Derived.Test.YtenkkdnepmoihaaGreatDoorUcbg
import Derived.Test.YtenkkdnepmoihaaGreatDoorUcbh
import Derived.Test.YtenkkdnepmoihaaGreatDoorUcbe
section
set_option maxRecDepth 8000
set_option linter.unusedVariables false
set_option linter.unusedSimpArgs false
namespace Go.Proofs.YtenkkdnepmoihaaGreatDoor
open Go.RowKit
section
variable {W w:World} {b:Nat} {H:BH} {N:Bch} {K:List (Nat × Obj)} (h:KX W w b H N K)
include h
end
end Go.Proofs.YtenkkdnepmoihaaGreatDoor
end
section
set_option maxRecDepth 8000
set_option linter.unusedVariables false
set_option linter.unusedSimpArgs false
namespace Go.Proofs.YtenkkdnepmoihaaGreatDoor
open Go.RowKit
structure KR (W w:World) (b:Nat) (H:BH) (N:Bch) (K:List (Nat × Obj)) (R:List (Option Addr × List It)) (X:Nat→Prop):Prop where
 kx:KX W w b H N K
 it:∀ p ∈ R,RdIF w (fun k=>BF b H N.n k∨X k) p.1 p.2
section
variable {W w w':World} {b:Nat} {H:BH} {N:Bch} {K:List (Nat × Obj)} {R:List (Option Addr × List It)} {X:Nat→Prop}
section
variable (h:KR W w b H N K R X)
include h
end
end
structure FlS (N M:Bch) (d:Nat):Prop where
 n:M.n=N.n
 good:GoodB M
 done:M.done=N.done
 at':(M.D d).f=true
 f:∀ j,j ≠ d→(M.D j).f=(N.D j).f
 has:∀ j,j ≠ d→onS M j=onS N j∧onL M j=onL N j
theorem fail_good {N:Bch} {d:Nat} (hg:GoodB N) (hd:d < N.n):FlS N (N.fail (d:Int)) d:=by
 have e:N.fail (d:Int)=N.set d Dsk.failed:=by unfold Bch.fail;rw [if_neg (by simp [Bch.pickE_ok (N:=N) (d:=(d:Int)) (by omega) (by omega)])];rfl
 rw [e]
 have hj:∀ j,j ≠ d→(N.set d Dsk.failed).D j=N.D j:=fun j h=>upd_other _ _ h
 have hdd:(N.set d Dsk.failed).D d=Dsk.failed:=upd_same _ _ _
 refine ⟨rfl,⟨hg.dn,hg.lf,fun j h=>?_,fun j h=>?_⟩,rfl,by rw [hdd];rfl,fun j h=>by rw [hj j h],fun j h=>?_⟩
 ·by_cases q:j=d
  ·subst q;rw [hdd];exact Dsk.failed_ok
  ·rw [hj j q];exact hg.ok j h
 ·by_cases q:j=d
  ·subst q;rw [hdd];rfl
  ·rw [hj j q];exact hg.ps j h
 ·exact onS_alike hg.dn hg.dn (by rw [hj j h]) (by rw [hj j h])
theorem get_max {N:Bch} {lv:List Bool} {s:Int} {l:List It} (hs:0 < s) (h1:∀ j,j < N.n→liveD N.n lv (j:Int)=true→onS N j < s∨(onS N j=s∧onL N j=l)) (h2:∃ j,j < N.n∧liveD N.n lv (j:Int)=true∧onS N j=s):getS N lv=(s,l):=by
 have h:∀ d,d ≤ N.n→(getTo N lv d=(s,l))∨((getTo N lv d).1 < s∧∀ j,j < d→¬ (liveD N.n lv (j:Int)=true∧onS N j=s)):=fun d=>by
  induction d with
  | zero=>intro _;exact .inr ⟨hs,fun j hj=>by omega⟩
  | succ d ih =>
    intro hd
    rw [getTo]
    rcases ih (by omega) with e | ⟨e1,e2⟩
    ·left
     rw [if_neg]
     ·exact e
     ·rintro ⟨g1,g2,g3⟩
      rw [e] at g3
      have g3':s < onS N d:=g3
      rcases h1 d (by omega) g1 with q | q <;> omega
    ·by_cases hl:liveD N.n lv (d:Int)=true
     ·rcases h1 d (by omega) hl with q | q
      ·right
       refine ⟨?_,fun j hj hh=>?_⟩
       ·split
        ·exact q
        ·exact e1
       ·by_cases hjd:j=d
        ·subst hjd;omega
        ·exact e2 j (by omega) hh
      ·left
       rw [if_pos ⟨hl,by rw [onB_pos,q.1];exact decide_eq_true hs,by rw [q.1];exact e1⟩,q.1,q.2]
     ·right
      rw [if_neg (fun g=>hl g.1)]
      refine ⟨e1,fun j hj hh=>?_⟩
      by_cases hjd:j=d
      ·subst hjd;exact hl hh.1
      ·exact e2 j (by omega) hh
 obtain ⟨j,hj,hl,hjs⟩:=h2
 rcases h N.n (Nat.le_refl _) with e | ⟨_,e⟩
 ·exact e
 ·exact absurd ⟨hl,hjs⟩ (e j hj)
end Go.Proofs.YtenkkdnepmoihaaGreatDoor
end
