/- Texts put together: RbdRun, RbdStd. -/
import Derived.Test.YtldfoadildaljaaGreatWmbk
import Derived.Test.YtldfoadildaljaaGreatWmbb
import Derived.Test.YtldfoadildaljaaGreatWmaj
section
set_option linter.unusedVariables false
set_option linter.unusedSimpArgs false
namespace Go.Proofs.YtldfoadildaljaaGreat
section
variable {G:RG} {k:Nat} {D:Dsk}
end
def flR (G:RG) (rs:Nat→List (List UInt8)) (t:Nat):List (List UInt8):=fillL (roD (G.D t)) (roF (G.L t) (G.D t) (G.C t) (t:Int)) (rs t)
section
variable {N:Bch} {lv:List Bool} {G:RG} {k:Nat} {rs:Nat→List (List UInt8)}
end
end Go.Proofs.YtldfoadildaljaaGreat
end
section
set_option linter.unusedVariables false
set_option linter.unusedSimpArgs false
namespace Go.Proofs.YtldfoadildaljaaGreat
section
variable {N:Bch} {lv:List Bool} {nn l c:Int} {t D F W:Nat} {rs:List (List UInt8)}
def oneL (N:Bch) (lv:List Bool) (D t:Nat) (x:List (List UInt8)) (t':Nat):List (List UInt8):=if t'=t then x else (List.range D).map fun i=>secAt ((only N lv).D i).now (36 + t')
theorem row_std (hd:N.down=false) (hst:∀ i,i < D→srvD N lv i=true→secAt (N.D i).now (36 + t)=(fillL D F rs).getD i []):Std (only N lv) N.n D (oneL N lv D t (fillL D F rs)) :=
 ⟨rfl,hd,fun i hi t' ht' hf=>by
  have hs:srvD N lv i=true:=by
   rw [← Bool.not_eq_false]
   intro e
   have:Dsk.f (if srvD N lv i=true then N.D i else Dsk.failed)=false:=hf
   rw [if_neg (by rw [e];decide)] at this
   cases this
  unfold oneL
  by_cases e:t'=t
  ·subst e;rw [if_pos rfl,only_D hs];exact hst i hi hs
  ·rw [if_neg e];simp [List.getD_eq_getElem?_getD,hi]⟩
theorem row_or (hd:N.down=false) (gr:Gr nn l c (t:Int) D F W) (hrs:rs.length=W) (ha:∀ x ∈ rs,x.length=32) (hst:∀ i,i < D→srvD N lv i=true→secAt (N.D i).now (36 + t)=(fillL D F rs).getD i []) :
    (srdE N lv l (D:Int) c (t:Int)=0∧srdL N lv l (D:Int) c (t:Int)=rs)∨srdE N lv l (D:Int) c (t:Int)=7:=by
 have h:=(row_std (F:=F) (rs:=rs) hd hst).told gr hrs ha (if_pos rfl) lv
 rw [only_ss,(only_srd N lv _ _ _ _).1,(only_srd N lv _ _ _ _).2] at h
 split at h
 ·exact .inl h
 ·exact .inr h.1
theorem row_ok (hd:N.down=false) (gr:Gr nn l c (t:Int) D F W) (hrs:rs.length=W) (ha:∀ x ∈ rs,x.length=32) (hst:∀ i,i < D→srvD N lv i=true→secAt (N.D i).now (36 + t)=(fillL D F rs).getD i [])
    (hc:((cntB D (fun i=>!srvD N lv i):Nat):Int) ≤ l - 4):srdE N lv l (D:Int) c (t:Int)=0∧srdL N lv l (D:Int) c (t:Int)=rs:=by
 have h:=(row_std (F:=F) (rs:=rs) hd hst).ok (lv:=lv) gr hrs ha (if_pos rfl) (by rw [cntB_congr (b':=fun i=>!srvD N lv i) fun i _=>by rw [only_srv]];exact hc)
 rwa [(only_srd N lv _ _ _ _).1,(only_srd N lv _ _ _ _).2] at h
end
def StR (N:Bch) (lv:List Bool) (G:RG) (rs:Nat→List (List UInt8)):Prop:=∀ t,t < 16→∀ i:Nat,(i:Int) < G.D t→srvD N lv i=true→secAt (N.D i).now (36 + t)=(flR G rs t).getD i []
section
variable {N:Bch} {lv:List Bool} {G:RG} {k:Nat} {rs:Nat→List (List UInt8)}
end
end Go.Proofs.YtldfoadildaljaaGreat
end
