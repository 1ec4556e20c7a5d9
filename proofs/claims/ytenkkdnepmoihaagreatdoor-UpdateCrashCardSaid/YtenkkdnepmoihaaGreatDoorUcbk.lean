/- Texts put together: StpLawKit, StpOneMath, StripeErrorsLoop. -/
import Derived.Test.YtenkkdnepmoihaaGreatDoorUcbi
import Derived.Test.YtenkkdnepmoihaaGreatDoorUcbd
import Derived.Test.YtenkkdnepmoihaaGreatDoorUcbh
import Derived.Test.YtenkkdnepmoihaaGreatDoorUcbe
import Derived.Test.YtenkkdnepmoihaaGreatDoorUcan
import Derived.Test.YtenkkdnepmoihaaGreatDoorUcbb
section
set_option maxRecDepth 20000
set_option linter.unusedVariables false
set_option linter.unusedSimpArgs false
namespace Go.Proofs.YtenkkdnepmoihaaGreatDoor
open Go.RowKit
section
variable {W w w':World} {b:Nat} {H:BH} {N:Bch} {K:List (Nat × Obj)} {R:List (Option Addr × List (List UInt8))} {S:List (Option Addr × List UInt8)}
theorem KS.block (h:KS W w b H N K R S) (hb:Below w.heap.size w w') {g:Nat} {o:Obj} (hg:w'.heap[g]?=some o) (hw:w.heap.size ≤ g):KS W w' b H N ((g,o)::K) R S:=by
 have h':=h.below hb
 refine ⟨⟨h'.bp,fun p hp=>?_⟩,h'.rx,h'.sx⟩
 rcases List.mem_cons.1 hp with rfl | hp
 ·exact ⟨hg,fun e=>by have:=h.flt _ e;omega,by have:=h.bp.bel.size;omega⟩
 ·exact h'.kx.kp p hp
theorem KS.rdz (h:KS W w b H N K R S) {A:Option Addr} {zs:List Int} (hz:RdZ W W.heap.size A zs):RdZ w w.heap.size A zs:=(hz.below h.bp.bel (Nat.le_refl _)).keep h.bp.bel.size fun _ _=>rfl
theorem KS.owv (h:KS W w b H N K R S) (hb:Below w.heap.size w w') {v:Value} {rs:List (List UInt8)} (ho:OwV w.heap.size w' v rs) (hl:rs.length ≤ 1000000):∃ A c,v=.slice A rs.length c∧KS W w' b H N K ((A,rs)::R) S:=by
 obtain ⟨xs,h1,h2⟩:=ho
 obtain ⟨A,c,e,_,hr⟩:=rdf_own h1 (by omega) h2
 exact ⟨A,c,e,h.rows hb hr⟩
end
section
variable {W w:World} {b:Nat} {H:BH} {N:Bch} {K:List (Nat × Obj)} {R:List (Option Addr × List (List UInt8))} {S:List (Option Addr × List UInt8)} (h:KS W w b H N K R S)
include h
theorem ks_live (n:Int) (d:Nat) (hn:(-9223372036854775808 ≤ n∧n ≤ 9223372036854775807)) (hd:1 ≤ d∧d ≤ 8) :
    Calls Tryz.prog 9 #[.int .i64 n,.int .i64 (d:Int)] w fun e w'=>∃ g,e=.returned (.slice (some ⟨g,0,none⟩) d d)∧KS W w' b H N ((g,Obj.cells ((liveL n d).map Value.bool).toArray 4 (0,0))::K) R S:=by
 refine (live_any n d w hn hd).mono ?_
 rintro e w' ⟨g,rfl,hg,hw,hb⟩
 exact ⟨g,rfl,h.block hb hg hw⟩
theorem ks_data {n l c r:Int} {D F Wd:Nat} (gr:Gr n l c r D F Wd) (ρ:Nat) (hρ:ρ ≤ 1000) {A:Option Addr} {zs:List Int} (m cp:Nat) (hm:m=zs.length) (hcp:zs.length ≤ cp) (hz:RdZ W W.heap.size A zs) :
    Calls Tryz.prog 11 #[.agg #[.int .i64 l,.int .i64 (D:Int),.int .i64 c],.int .i64 (ρ:Int),.slice A m cp] w fun e w'=>∃ A' c',e=.returned (.slice A' Wd c')∧KS W w' b H N K ((A',datL zs ρ Wd)::R) S:=by
 refine (data_any gr ρ hρ A zs m cp w hm hcp (h.rdz hz)).mono ?_
 rintro e w' ⟨v,rfl,ho,hb⟩
 obtain ⟨A',c',rfl,k⟩:=h.owv hb ho (by rw [datL_len];have:=gr.w7;omega)
 rw [datL_len]
 exact ⟨A',c',rfl,k⟩
end
theorem filled_open {n l c r:Int} {D F Wd:Nat} (gr:Gr n l c r D F Wd) (m:Nat) (hD:D ≤ m) (hm:m ≤ 8) {A:Option Addr} {zs:List Int} (k cp:Nat) {W w1:World} (hb:Below W.heap.size W w1) (hk:k=zs.length) (hcp:zs.length ≤ cp) (hz:RdZ W W.heap.size A zs) :
    Calls Tryz.prog 8 #[.agg #[.int .i64 l,.int .i64 (D:Int),.int .i64 c],.int .i64 (m:Int),.slice A k cp] (w1.alloc (.cells #[.int .i64 l,.int .i64 (D:Int),.int .i64 c] 24)) fun e w'=>∃ b H N,e=.returned (.pointer (some ⟨b,0,none⟩))∧KS W w' b H N [(w1.heap.size,Obj.cells #[.int .i64 l,.int .i64 (D:Int),.int .i64 c] 24 (0,0))] [] []∧Fld N m D (rowL l c D Wd zs) 16 0:=by
 have hb1:=hb.alloc hb.size (.cells #[.int .i64 l,.int .i64 (D:Int),.int .i64 c] 24)
 refine (stpFilled_any gr m hD hm A zs k cp _ hk hcp ((hz.below hb1 (Nat.le_refl _)).keep hb1.size fun _ _=>rfl)).mono ?_
 rintro e w' ⟨b,H,N,rfl,k,f⟩
 exact ⟨b,H,N,rfl,k.open hb1 (hp_new _ _ _ rfl) hb.size,f⟩
theorem live0 {d i:Nat} (hi:i < d):(liveL 0 d).getD i false=true:=by
 rw [liveL_get 0 hi]
 unfold liveB
 rw [if_neg,if_neg]
 ·rintro ⟨h,_⟩;revert h;decide
 ·rintro ⟨h,_⟩;revert h;decide
end Go.Proofs.YtenkkdnepmoihaaGreatDoor
end
section
set_option linter.unusedVariables false
set_option linter.unusedSimpArgs false
namespace Go.Proofs.YtenkkdnepmoihaaGreatDoor
open Go.RowKit
theorem RdRX.cellAt {F:Nat→Prop} {w:World} {b off:Nat} {rs:List (List UInt8)} (h:RdRX F w (some ⟨b,off,none⟩) rs) {k:Nat} (hk:k < rs.length):∃ A' c,w.cell? ⟨b,off + k,none⟩=some (.slice A' (rs.getD k []).length c)∧RdBX F w A' (rs.getD k []):=by
 obtain ⟨b',off',A',c,e,h1,h2⟩:=h.at hk
 injection e with e
 injection e with e1 e2 _
 subst e1 e2
 exact ⟨A',c,h1,h2⟩
theorem num_place {n l c:Int} {ρ D F W k:Nat} (gr:Gr n l c (ρ:Int) D F W) (hk:k < W):plOfOk l (D:Int) c (plN l (D:Int) c (ρ:Int) (k:Int))=true∧plOfD l (D:Int) c (plN l (D:Int) c (ρ:Int) (k:Int))=((roS D F k:Nat):Int)∧plOfR l (D:Int) c (plN l (D:Int) c (ρ:Int) (k:Int))=(ρ:Int)∧kOf l (D:Int) c (plN l (D:Int) c (ρ:Int) (k:Int))=k:=by
 have hg:=(plOk_yes gr.ok).1
 have hwd:=gr.wd
 have hw:gWid l (D:Int) c=(D:Int) - (l - 4):=gWid_yes hg
 have hd:=plDok_mk (k:=(k:Int)) gr.ok (by omega) (by omega)
 obtain ⟨h1,h2,h3⟩:=of_num hd
 have hp:=gr.R.pD k (by rw [gr.eW];exact hk)
 rw [gr.eD,gr.eF] at hp
 refine ⟨h1,h2.trans hp,h3,?_⟩
 have:=(num_row hd).2.2.2
 unfold kOf
 rw [this];omega
theorem row_setCell {w:World} {b k:Nat} {cur:Array Value} {u:Value} {t:TypeId} (h:w.heap[b]?=some (.cells cur t (0,0))):(w.setCell ⟨b,k,none⟩ u).heap[b]?=some (.cells (cur.setIfInBounds k u) t (0,0)):=by
 obtain ⟨hlt,hb⟩:=Array.getElem?_eq_some_iff.1 h
 show (w.heap.modify b _)[b]?=_
 rw [Array.getElem?_eq_getElem (by simpa using hlt),Array.getElem_modify_self,hb]
 rfl
theorem row_frozen {w:World} {b k:Nat} {cur:Array Value} {t:TypeId} (h:w.heap[b]?=some (.cells cur t (0,0))):w.frozen? ⟨b,k,none⟩=false:=by
 simp [World.frozen?,h]
theorem lv_setCell {w:World} {g d:Nat} {lv:List Bool} {t:TypeId} (h:w.heap[g]?=some (.cells (lv.map Value.bool).toArray t (0,0))) (hd:d < lv.length) (v:Bool):w.cell? ⟨g,d,none⟩=some (.bool (lv.getD d false))∧w.frozen? ⟨g,d,none⟩=false∧(w.setCell ⟨g,d,none⟩ (.bool v)).heap[g]?=some (.cells ((lv.set d v).map Value.bool).toArray t (0,0))∧w.grownBy (w.setCell ⟨g,d,none⟩ (.bool v)) (some g):=by
 refine ⟨?_,row_frozen h,?_,⟨rfl,rfl,rfl,by simp,fun k _ hne=>Below.heap_setCell w _ _ k (fun e=>hne (by rw [e]))⟩⟩
 ·rw [cell_of_row w g d _ t _ h,List.getElem?_toArray,List.getElem?_map,List.getElem?_eq_getElem hd]
  simp [List.getD_eq_getElem?_getD,hd]
 ·rw [row_setCell h,List.setIfInBounds_toArray,List.map_set]
theorem KS.put {W w w':World} {b:Nat} {H:BH} {N:Bch} {p:Nat} {o o':Obj} {K:List (Nat × Obj)} (h:KS W w b H N ((p,o)::K) [] []) (hg:w.grownBy w' (some p)) (hb:w'.heap[p]?=some o') (hne:∀ r ∈ K,r.1 ≠ p):KS W w' b H N ((p,o')::K) [] [] :=
 ⟨h.kx.put (K1:=[]) rfl hg hb (by simpa using hne),fun _ hp=>absurd hp (by simp),fun _ hp=>absurd hp (by simp)⟩
end Go.Proofs.YtenkkdnepmoihaaGreatDoor
end
section
set_option linter.unusedVariables false
set_option linter.unusedSimpArgs false
namespace Go.Proofs.YtenkkdnepmoihaaGreatDoor
open Go.RowKit
section
variable {W w:World} {b:Nat} {H:BH} {N:Bch} {K:List (Nat × Obj)} {R:List (Option Addr × List (List UInt8))} {S:List (Option Addr × List UInt8)} (h:KS W w b H N K R S)
include h
end
end Go.Proofs.YtenkkdnepmoihaaGreatDoor
end
