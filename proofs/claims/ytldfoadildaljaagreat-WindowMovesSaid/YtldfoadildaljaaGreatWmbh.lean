/- Texts put together: StpLawKit, StpOneMath, KsFar, StripeErrorsLoop. -/
import Derived.Test.YtldfoadildaljaaGreatWmbf
import Derived.Test.YtldfoadildaljaaGreatWmbb
import Derived.Test.YtldfoadildaljaaGreatWmbe
import Derived.Test.YtldfoadildaljaaGreatWmbd
import Derived.Test.YtldfoadildaljaaGreatWmam
import Derived.Test.YtldfoadildaljaaGreatWmax
import Derived.Test.YtldfoadildaljaaGreatWmay
section
set_option maxRecDepth 20000
set_option linter.unusedVariables false
set_option linter.unusedSimpArgs false
namespace Go.Proofs.YtldfoadildaljaaGreat
open Go.RowKit
section
variable {W w:World} {b:Nat} {H:BH} {N:Bch} {K:List (Nat × Obj)} {R:List (Option Addr × List (List UInt8))} {S:List (Option Addr × List UInt8)} (h:KS W w b H N K R S)
include h
end
theorem live0 {d i:Nat} (hi:i < d):(liveL 0 d).getD i false=true:=by
 rw [liveL_get 0 hi]
 unfold liveB
 rw [if_neg,if_neg]
 ·rintro ⟨h,_⟩;revert h;decide
 ·rintro ⟨h,_⟩;revert h;decide
end Go.Proofs.YtldfoadildaljaaGreat
end
section
set_option linter.unusedVariables false
set_option linter.unusedSimpArgs false
namespace Go.Proofs.YtldfoadildaljaaGreat
open Go.RowKit
theorem RdRX.cellAt {F:Nat→Prop} {w:World} {b off:Nat} {rs:List (List UInt8)} (h:RdRX F w (some ⟨b,off,none⟩) rs) {k:Nat} (hk:k < rs.length):∃ A' c,w.cell? ⟨b,off + k,none⟩=some (.slice A' (rs.getD k []).length c)∧RdBX F w A' (rs.getD k []):=by
 obtain ⟨b',off',A',c,e,h1,h2⟩:=h.at hk
 injection e with e
 injection e with e1 e2 _
 subst e1 e2
 exact ⟨A',c,h1,h2⟩
theorem num_place {n l c:Int} {ρ D F W k:Nat} (gr:Gr n l c (ρ:Int) D F W) (hk:k < W):plOfOk l (D:Int) c (plN l (D:Int) c (ρ:Int) (k:Int))=true∧plOfD l (D:Int) c (plN l (D:Int) c (ρ:Int) (k:Int))=((roS D F k:Nat):Int)∧plOfR l (D:Int) c (plN l (D:Int) c (ρ:Int) (k:Int))=(ρ:Int)∧kOf l (D:Int) c (plN l (D:Int) c (ρ:Int) (k:Int))=k:=by
 have hg:=(plOk_yes gr.ok).1
 have hwd:=gr.wd
 have hw:gWid l (D:Int) c=(D:Int) - (l - 4):=gWid_yes hg
 have hd:=plDok_mk (k:=(k:Int)) gr.ok (by omega) (by omega)
 obtain ⟨h1,h2,h3⟩:=of_num hd
 have hp:=gr.R.pD k (by rw [gr.eW];exact hk)
 rw [gr.eD,gr.eF] at hp
 refine ⟨h1,h2.trans hp,h3,?_⟩
 have:=(num_row hd).2.2.2
 unfold kOf
 rw [this];omega
theorem one_own {N:Bch} {lv:List Bool} {n l c:Int} {ρ D F W k:Nat} (gr:Gr n l c (ρ:Int) D F W) (hk:k < W) (hd:N.down=false) (hs:srvD N lv (roS D F k)=true):soneE N lv l (D:Int) c (plN l (D:Int) c (ρ:Int) (k:Int))=0∧soneB N lv l (D:Int) c (plN l (D:Int) c (ρ:Int) (k:Int))=secAt (N.D (roS D F k)).now (36 + ρ):=by
 obtain ⟨h1,h2,h3,_⟩:=num_place gr hk
 have h:=soneE_own (N:=N) (lv:=lv) h1 (by rw [h2];exact hs)
 rw [hd,h2,h3] at h
 exact h
theorem one_row {N:Bch} {lv:List Bool} {n l c:Int} {ρ D F W k:Nat} (gr:Gr n l c (ρ:Int) D F W) (hk:k < W) (hs:srvD N lv (roS D F k)=false):soneE N lv l (D:Int) c (plN l (D:Int) c (ρ:Int) (k:Int))=srdE N lv l (D:Int) c (ρ:Int)∧soneB N lv l (D:Int) c (plN l (D:Int) c (ρ:Int) (k:Int))=if srdE N lv l (D:Int) c (ρ:Int) ≠ 0 then [] else (srdL N lv l (D:Int) c (ρ:Int)).getD k []:=by
 obtain ⟨h1,h2,h3,h4⟩:=num_place gr hk
 have h:=soneE_row (N:=N) (lv:=lv) h1 (by rw [h2];exact hs)
 rw [h3,h4] at h
 exact h
theorem Std.one {N:Bch} {lv:List Bool} {n l c:Int} {m ρ D F W k:Nat} {fl:Nat→List (List UInt8)} {rs:List (List UInt8)} (h:Std N m D fl) (gr:Gr n l c (ρ:Int) D F W) (hρ:ρ < 16) (hrs:rs.length=W) (hfl:fl ρ=fillL D F rs) (hE:srdE N lv l (D:Int) c (ρ:Int)=0∧srdL N lv l (D:Int) c (ρ:Int)=rs) (hk:k < W) :
    soneE N lv l (D:Int) c (plN l (D:Int) c (ρ:Int) (k:Int))=0∧soneB N lv l (D:Int) c (plN l (D:Int) c (ρ:Int) (k:Int))=rs.getD k []:=by
 have hW:=gr.hW
 cases hs:srvD N lv (roS D F k) with
 | true =>
   obtain ⟨h1,h2⟩:=one_own gr hk h.dn hs
   refine ⟨h1,h2.trans ?_⟩
   rw [h.at' _ (roS_lt gr.hF (by omega)) ρ hρ (srvD_yes hs).2.2,hfl,fillL_at gr.hF (by omega),allL_data (by omega)]
 | false =>
   obtain ⟨h1,h2⟩:=one_row (N:=N) (lv:=lv) gr hk hs
   rw [hE.1] at h1 h2
   rw [if_neg (by simp),hE.2] at h2
   exact ⟨h1,h2⟩
theorem row_setCell {w:World} {b k:Nat} {cur:Array Value} {u:Value} {t:TypeId} (h:w.heap[b]?=some (.cells cur t (0,0))):(w.setCell ⟨b,k,none⟩ u).heap[b]?=some (.cells (cur.setIfInBounds k u) t (0,0)):=by
 obtain ⟨hlt,hb⟩:=Array.getElem?_eq_some_iff.1 h
 show (w.heap.modify b _)[b]?=_
 rw [Array.getElem?_eq_getElem (by simpa using hlt),Array.getElem_modify_self,hb]
 rfl
theorem row_frozen {w:World} {b k:Nat} {cur:Array Value} {t:TypeId} (h:w.heap[b]?=some (.cells cur t (0,0))):w.frozen? ⟨b,k,none⟩=false:=by
 simp [World.frozen?,h]
theorem lv_setCell {w:World} {g d:Nat} {lv:List Bool} {t:TypeId} (h:w.heap[g]?=some (.cells (lv.map Value.bool).toArray t (0,0))) (hd:d < lv.length) (v:Bool):w.cell? ⟨g,d,none⟩=some (.bool (lv.getD d false))∧w.frozen? ⟨g,d,none⟩=false∧(w.setCell ⟨g,d,none⟩ (.bool v)).heap[g]?=some (.cells ((lv.set d v).map Value.bool).toArray t (0,0))∧w.grownBy (w.setCell ⟨g,d,none⟩ (.bool v)) (some g):=by
 refine ⟨?_,row_frozen h,?_,⟨rfl,rfl,rfl,by simp,fun k _ hne=>Below.heap_setCell w _ _ k (fun e=>hne (by rw [e]))⟩⟩
 ·rw [cell_of_row w g d _ t _ h,List.getElem?_toArray,List.getElem?_map,List.getElem?_eq_getElem hd]
  simp [List.getD_eq_getElem?_getD,hd]
 ·rw [row_setCell h,List.setIfInBounds_toArray,List.map_set]
end Go.Proofs.YtldfoadildaljaaGreat
end
section
set_option maxRecDepth 20000
set_option linter.unusedVariables false
set_option linter.unusedSimpArgs false
namespace Go.Proofs.YtldfoadildaljaaGreat
open Go.RowKit
section
variable {W w w':World} {b:Nat} {H:BH} {N:Bch} {K:List (Nat × Obj)} {R:List (Option Addr × List (List UInt8))} {S:List (Option Addr × List UInt8)}
end
end Go.Proofs.YtldfoadildaljaaGreat
end
section
set_option linter.unusedVariables false
set_option linter.unusedSimpArgs false
namespace Go.Proofs.YtldfoadildaljaaGreat
open Go.RowKit
section
variable {W w:World} {b:Nat} {H:BH} {N:Bch} {K:List (Nat × Obj)} {R:List (Option Addr × List (List UInt8))} {S:List (Option Addr × List UInt8)} (h:KS W w b H N K R S)
include h
end
end Go.Proofs.YtldfoadildaljaaGreat
end
