/- Texts put together: StpNums. -/
import Derived.Test.YtenkkdnepmoihaaGreatDoorUcbk
section
set_option linter.unusedVariables false
set_option linter.unusedSimpArgs false
namespace Go.Proofs.YtenkkdnepmoihaaGreatDoor
open Go.RowKit
section
variable {W w:World} {b:Nat} {H:BH} {N:Bch} {K:List (Nat × Obj)} {R:List (Option Addr × List (List UInt8))} {S:List (Option Addr × List UInt8)}
theorem ks_numsG (h:KS W w b H N K R S) {n l c:Int} {ρ D F Wd:Nat} (gr:Gr n l c (ρ:Int) D F Wd) :
    Calls Tryz.prog 12 #[.agg #[.int .i64 l,.int .i64 (D:Int),.int .i64 c],.int .i64 (ρ:Int)] w fun e w'=>∃ gn cn cur,e=.returned (.slice (some ⟨gn,0,none⟩) Wd cn)∧KS W w' b H N ((gn,Obj.cells cur 3 (0,0))::K) R S∧(∀ k,k < Wd→cur[k]?=some (.int .i64 (plN l (D:Int) c (ρ:Int) (k:Int))))∧w.heap.size ≤ gn:=by
 have hwd:=gr.wd
 have hlen:(plNums l (D:Int) c (ρ:Int)).length=Wd:=by rw [plNums_len gr.ok,hwd];omega
 refine (refNumbers_own l (D:Int) c (ρ:Int) w (Lib.hid gr.ok) gr.l64 gr.d64 gr.c64 gr.r64).mono ?_
 rintro e w' ⟨v,rfl,ho,hb⟩
 rcases ho.2 with ⟨_,h0⟩ | ⟨g,cap,cur,rfl,hB,hg,hc,_,_,htk⟩
 ·have:=gr.w1;omega
 ·rw [hlen]
  refine ⟨g,cap,cur,rfl,h.block hb hg hB,fun k hk=>?_,hB⟩
  have h1:=congrArg (fun t:List Value=>t[k]?) htk
  simp only [List.getElem?_take,List.getElem?_map] at h1
  rw [if_pos (by rw [hlen];omega),Array.getElem?_toList] at h1
  rw [h1,List.getElem?_eq_getElem (by rw [hlen];exact hk)]
  have e:=plNums_get gr.ok (k:=k) (by rw [hwd];omega)
  rw [List.getD_eq_getElem?_getD,List.getElem?_eq_getElem (by rw [hlen];exact hk)] at e
  show some (zv _)=_
  rw [show (plNums l (D:Int) c (ρ:Int))[k]'(by rw [hlen];exact hk)=plN l (D:Int) c (ρ:Int) (k:Int) from e]
  rfl
theorem ks_nums (h:KS W w b H N K R S) {n l c:Int} {ρ D F Wd:Nat} (gr:Gr n l c (ρ:Int) D F Wd) :
    Calls Tryz.prog 12 #[.agg #[.int .i64 l,.int .i64 (D:Int),.int .i64 c],.int .i64 (ρ:Int)] w fun e w'=>∃ gn cn cur,e=.returned (.slice (some ⟨gn,0,none⟩) Wd cn)∧KS W w' b H N ((gn,Obj.cells cur 3 (0,0))::K) R S∧∀ k,k < Wd→cur[k]?=some (.int .i64 (plN l (D:Int) c (ρ:Int) (k:Int))):=by
 refine (ks_numsG h gr).mono ?_
 rintro e w' ⟨gn,cn,cur,rfl,k,hc,_⟩
 exact ⟨gn,cn,cur,rfl,k,hc⟩
end
end Go.Proofs.YtenkkdnepmoihaaGreatDoor
end
