/- Texts put together: RbdFr, RbdPut, WinFail. -/
import Derived.Test.YtldfoadildaljaaGreatWmbo
import Derived.Test.YtldfoadildaljaaGreatWmbk
import Derived.Test.YtldfoadildaljaaGreatWmbn
section
set_option linter.unusedVariables false
set_option linter.unusedSimpArgs false
namespace Go.Proofs.YtldfoadildaljaaGreat
open Go.RowKit
section
variable {W w:World} {b:Nat} {H:BH} {N:Bch} {K:List (Nat × Obj)} {R:List (Option Addr × List (List UInt8))} {S:List (Option Addr × List UInt8)}
end
section
variable {N:Bch} {m k:Nat} {G:RG} {zs:List Int}
end
end Go.Proofs.YtldfoadildaljaaGreat
end
section
set_option linter.unusedVariables false
set_option linter.unusedSimpArgs false
namespace Go.Proofs.YtldfoadildaljaaGreat
open Go.RowKit
theorem bool_cell {w:World} {p:Nat} {lv:List Bool} {t:TypeId} {f:Nat × Nat} (h:w.heap[p]?=some (.cells (lv.map Value.bool).toArray t f)) {o:Nat} {v:Value} (hc:w.cell? ⟨p,o,none⟩=some v):∃ x:Bool,v=.bool x:=by
 rw [cell_of_row w p o _ t f h,List.getElem?_toArray,List.getElem?_map] at hc
 cases hx:lv[o]? with
 | none=>rw [hx] at hc;cases hc
 | some x=>rw [hx] at hc;injection hc with hc;exact ⟨x,hc.symm⟩
theorem KS.putB {W w w':World} {b:Nat} {H:BH} {N:Bch} {p:Nat} {lv:List Bool} {t:TypeId} {f:Nat × Nat} {o':Obj} {K:List (Nat × Obj)} {R:List (Option Addr × List (List UInt8))} {S:List (Option Addr × List UInt8)} (h:KS W w b H N ((p,.cells (lv.map Value.bool).toArray t f)::K) R S) (hg:w.grownBy w' (some p)) (hb:w'.heap[p]?=some o') (hne:∀ r ∈ K,r.1 ≠ p):KS W w' b H N ((p,o')::K) R S:=by
 have hp:=(h.kx.kp _ (List.mem_cons_self ..)).1
 dsimp only at hp
 have hcell:∀ q:Addr,q.block ≠ p→q.block < w.heap.size→w'.cell? q=w.cell? q:=fun q h1 h2=>World.cell?_of_block (hg.block q.block h2 fun e=>h1 (by injection e))
 have hB:∀ {A:Option Addr} {bs:List UInt8},RdBX (BF b H N.n) w A bs→RdBX (BF b H N.n) w' A bs:=fun {A bs} h0=>⟨h0.1,fun hn=>by
  obtain ⟨b',off,e,hl,hF,hc⟩:=h0.2 hn
  have hbp:b' ≠ p:=fun e2=>by
   subst e2
   obtain ⟨x,hx⟩:=bool_cell hp (hc 0 hn)
   cases hx
  exact ⟨b',off,e,Nat.lt_of_lt_of_le hl hg.size,hF,fun k hk=>(hcell ⟨b',off + k,none⟩ hbp hl).trans (hc k hk)⟩⟩
 refine ⟨h.kx.put (K1:=[]) rfl hg hb (by simpa using hne),fun q hq=>?_,fun q hq=>hB (h.sx q hq)⟩
 have h0:=h.rx q hq
 refine ⟨h0.1,fun hn=>?_⟩
 obtain ⟨b',off,e,hl,hF,hc⟩:=h0.2 hn
 have hbp:b' ≠ p:=fun e2=>by
  subst e2
  obtain ⟨A',c,h1,_⟩:=hc 0 hn
  obtain ⟨x,hx⟩:=bool_cell hp h1
  cases hx
 refine ⟨b',off,e,Nat.lt_of_lt_of_le hl hg.size,hF,fun k hk=>?_⟩
 obtain ⟨A',c,h1,h2⟩:=hc k hk
 exact ⟨A',c,(hcell ⟨b',off + k,none⟩ hbp hl).trans h1,hB h2⟩
theorem pend_zero {N:Bch} (h:∀ i,i < N.n→(N.D i).ps=[]):N.pend=0:=offs_zero h
end Go.Proofs.YtldfoadildaljaaGreat
end
section
set_option linter.unusedVariables false
set_option linter.unusedSimpArgs false
namespace Go.Proofs.YtldfoadildaljaaGreat
open Go.RowKit
theorem wdat_rows (l d:Int) (zs:List Int):∀ t,t < 16→(datL zs t (roW l d)).length=roW l d∧∀ x ∈ datL zs t (roW l d),x.length=32:=fun t _=>⟨datL_len _ _ _,datL_mem⟩
end Go.Proofs.YtldfoadildaljaaGreat
end
