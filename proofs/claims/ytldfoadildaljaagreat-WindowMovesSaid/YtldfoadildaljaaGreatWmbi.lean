/- Texts put together: Only, RbdMath, StpNums, UpdMath. -/
import Derived.Test.YtldfoadildaljaaGreatWmbh
import Derived.Test.YtldfoadildaljaaGreatWmay
import Derived.Test.YtldfoadildaljaaGreatWmbb
section
set_option linter.unusedVariables false
set_option linter.unusedSimpArgs false
namespace Go.Proofs.YtldfoadildaljaaGreat
def only (N:Bch) (lv:List Bool):Bch:={ N with D:=fun i=>if srvD N lv i=true then N.D i else Dsk.failed }
theorem only_srv (N:Bch) (lv:List Bool) (i:Nat):srvD (only N lv) lv i=srvD N lv i:=by
 cases h:srvD N lv i with
 | true =>
   obtain ⟨h1,h2,h3⟩:=srvD_yes h
   exact srvD_mk h1 h2 (by show Dsk.f (if srvD N lv i=true then N.D i else Dsk.failed)=false;rw [if_pos h];exact h3)
 | false =>
   refine srvD_no fun ⟨_,_,h3⟩=>?_
   have:Dsk.f (if srvD N lv i=true then N.D i else Dsk.failed)=false:=h3
   rw [if_neg (by rw [h];decide)] at this
   cases this
theorem only_D {N:Bch} {lv:List Bool} {i:Nat} (h:srvD N lv i=true):(only N lv).D i=N.D i:=if_pos h
theorem only_ss (N:Bch) (lv:List Bool) (a D:Nat):ssL (only N lv) lv a D=ssL N lv a D:=ext_getD (by rw [ssL_len,ssL_len]) fun i hi=>by
 rw [ssL_len] at hi
 rw [ssL_get hi,ssL_get hi,only_srv]
 split
 ·next h=>rw [only_D h]
 ·rfl
theorem only_any (N:Bch) (lv:List Bool) (k:Nat):anyS (only N lv) lv k=anyS N lv k:=by
 unfold anyS;congr 1;funext i;exact only_srv N lv i
theorem only_srd (N:Bch) (lv:List Bool) (l d c r:Int):srdE (only N lv) lv l d c r=srdE N lv l d c r∧srdL (only N lv) lv l d c r=srdL N lv l d c r:=by
 have e:srdE (only N lv) lv l d c r=srdE N lv l d c r:=by
  unfold srdE;rw [only_ss,only_any];rfl
 refine ⟨e,?_⟩
 unfold srdL;rw [e,only_ss]
theorem only_one (N:Bch) (lv:List Bool) (l d c n:Int):soneE (only N lv) lv l d c n=soneE N lv l d c n∧soneB (only N lv) lv l d c n=soneB N lv l d c n:=by
 have e:soneE (only N lv) lv l d c n=soneE N lv l d c n:=by
  unfold soneE;rw [only_srv,(only_srd N lv l d c _).1];rfl
 refine ⟨e,?_⟩
 unfold soneB
 rw [e,only_srv,(only_srd N lv l d c _).2]
 by_cases h:srvD N lv (plOfD l d c n).toNat=true
 ·rw [only_D h]
 ·rw [if_neg h,if_neg h]
end Go.Proofs.YtldfoadildaljaaGreat
end
section
set_option linter.unusedVariables false
set_option linter.unusedSimpArgs false
namespace Go.Proofs.YtldfoadildaljaaGreat
def rg (s x x':Int) (r:Nat):Int:=if (r:Int) < s then x' else x
structure RG where
 l:Int
 d:Int
 c:Int
 l':Int
 d':Int
 c':Int
 s:Int
namespace RG
def L (G:RG) (r:Nat):Int:=rg G.s G.l G.l' r
def D (G:RG) (r:Nat):Int:=rg G.s G.d G.d' r
def C (G:RG) (r:Nat):Int:=rg G.s G.c G.c' r
end RG
theorem gr_mk {l c r:Int} {D:Nat} (hg:gOk l (D:Int) c=true) (h0:0 ≤ r) (h1:r < 16):Gr 0 l c r D (roF l (D:Int) c r) (roW l (D:Int)):=by
 have hb:=gOk_bd hg
 have hok:=plOk_mk hg h0 h1
 have R:=ro_of hok
 have e:roD (D:Int)=D:=by unfold roD;omega
 have hF:=R.hF
 have hW:=R.hW
 have d8:=R.d8
 have d3:=R.d3
 have lv:=R.lv
 rw [e] at hF hW d8 d3 lv
 exact ⟨hok,R,e,rfl,rfl,hF,hW,R.w1,R.w7,d8,d3,lv,R.wd,by omega,by omega,by omega,by omega,⟨h0,h1⟩⟩
section
variable {lv:List Bool} {G:RG} {dd:Nat} {N:Bch}
end
end Go.Proofs.YtldfoadildaljaaGreat
end
section
set_option linter.unusedVariables false
set_option linter.unusedSimpArgs false
namespace Go.Proofs.YtldfoadildaljaaGreat
open Go.RowKit
section
variable {W w:World} {b:Nat} {H:BH} {N:Bch} {K:List (Nat × Obj)} {R:List (Option Addr × List (List UInt8))} {S:List (Option Addr × List UInt8)}
theorem ks_numsG (h:KS W w b H N K R S) {n l c:Int} {ρ D F Wd:Nat} (gr:Gr n l c (ρ:Int) D F Wd) :
    Calls Tryz.prog 17 #[.agg #[.int .i64 l,.int .i64 (D:Int),.int .i64 c],.int .i64 (ρ:Int)] w fun e w'=>∃ gn cn cur,e=.returned (.slice (some ⟨gn,0,none⟩) Wd cn)∧KS W w' b H N ((gn,Obj.cells cur 3 (0,0))::K) R S∧(∀ k,k < Wd→cur[k]?=some (.int .i64 (plN l (D:Int) c (ρ:Int) (k:Int))))∧w.heap.size ≤ gn:=by
 have hwd:=gr.wd
 have hlen:(plNums l (D:Int) c (ρ:Int)).length=Wd:=by rw [plNums_len gr.ok,hwd];omega
 refine (refNumbers_own l (D:Int) c (ρ:Int) w (Lib.hid gr.ok) gr.l64 gr.d64 gr.c64 gr.r64).mono ?_
 rintro e w' ⟨v,rfl,ho,hb⟩
 rcases ho.2 with ⟨_,h0⟩ | ⟨g,cap,cur,rfl,hB,hg,hc,_,_,htk⟩
 ·have:=gr.w1;omega
 ·rw [hlen]
  refine ⟨g,cap,cur,rfl,h.block hb hg hB,fun k hk=>?_,hB⟩
  have h1:=congrArg (fun t:List Value=>t[k]?) htk
  simp only [List.getElem?_take,List.getElem?_map] at h1
  rw [if_pos (by rw [hlen];omega),Array.getElem?_toList] at h1
  rw [h1,List.getElem?_eq_getElem (by rw [hlen];exact hk)]
  have e:=plNums_get gr.ok (k:=k) (by rw [hwd];omega)
  rw [List.getD_eq_getElem?_getD,List.getElem?_eq_getElem (by rw [hlen];exact hk)] at e
  show some (zv _)=_
  rw [show (plNums l (D:Int) c (ρ:Int))[k]'(by rw [hlen];exact hk)=plN l (D:Int) c (ρ:Int) (k:Int) from e]
  rfl
end
end Go.Proofs.YtldfoadildaljaaGreat
end
section
set_option linter.unusedVariables false
set_option linter.unusedSimpArgs false
namespace Go.Proofs.YtldfoadildaljaaGreat
section
variable {N:Bch} {lv:List Bool} {nn l c:Int} {ρ D F W k:Nat} {x:List UInt8}
end
section
variable {N:Bch} {lv:List Bool} {nn l c:Int} {ρ D F W k:Nat} {fl:Nat→List (List UInt8)} {rs:List (List UInt8)}
end
end Go.Proofs.YtldfoadildaljaaGreat
end
