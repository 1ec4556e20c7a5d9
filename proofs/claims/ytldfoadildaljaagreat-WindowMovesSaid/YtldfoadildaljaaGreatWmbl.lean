/- Texts put together: UpdWnt, WinRd. -/
import Derived.Test.YtldfoadildaljaaGreatWmbk
import Derived.Test.YtldfoadildaljaaGreatWmbg
import Derived.Test.YtldfoadildaljaaGreatWmbi
import Derived.Test.YtldfoadildaljaaGreatWmaj
import Derived.Test.YtldfoadildaljaaGreatWmbj
import Derived.Test.YtldfoadildaljaaGreatWmal
section
set_option maxRecDepth 20000
set_option linter.unusedVariables false
set_option linter.unusedSimpArgs false
namespace Go.Proofs.YtldfoadildaljaaGreat
open Go.RowKit
section
variable {l:Int} {D:Nat} {c:Int} {W:Nat} {ds:Nat→List (List UInt8)} {F:Int→Option Value} {S S':List (Option Addr × List UInt8)}
end
def Frm (S:List (Option Addr × List UInt8)) (p:Nat):Prop:=∀ q ∈ S,0 < q.2.length→∀ a,q.1=some a→a.block ≠ p
theorem Frm.nil (p:Nat):Frm [] p:=fun _ h=>absurd h (by simp)
section
variable {W0 w w':World} {b:Nat} {H:BH} {N:Bch} {K:List (Nat × Obj)} {R:List (Option Addr × List (List UInt8))} {S:List (Option Addr × List UInt8)}
theorem ks_dataK (h:KS W0 w b H N K R S) {n l c r:Int} {D F W:Nat} (gr:Gr n l c r D F W) (ρ:Nat) (hρ:ρ ≤ 1000) {A:Option Addr} {zs:List Int} (m cp:Nat) (hm:m=zs.length) (hcp:zs.length ≤ cp) (hz:RdZ W0 W0.heap.size A zs) :
    Calls Tryz.prog 18 #[.agg #[.int .i64 l,.int .i64 (D:Int),.int .i64 c],.int .i64 (ρ:Int),.slice A m cp] w fun e w'=>∃ g c' cur L,e=.returned (.slice (some ⟨g,0,none⟩) W c')∧KS W0 w' b H N ((g,Obj.cells cur 48 (0,0))::K) R (L ++ S)∧(∀ k,k < W→∃ A cc,cur[k]?=some (.slice A 32 cc)∧(A,(datL zs ρ W).getD k []) ∈ L)∧(∀ q ∈ L,∀ a,q.1=some a→w.heap.size ≤ a.block)∧w.heap.size ≤ g:=by
 have hw1:=gr.w1
 have hw7:=gr.w7
 refine (data_any gr ρ hρ A zs m cp w hm hcp (h.rdz hz)).mono ?_
 rintro e w' ⟨v,rfl,⟨xs,h1,h2⟩,hb⟩
 have hlen:=datL_len zs ρ W
 have h32:∀ k,k < W→((datL zs ρ W).getD k []).length=32:=fun k hk=>mem_getD datL_mem (by rw [hlen];exact hk)
 rw [hlen] at h1
 rcases h1.2 with ⟨_,h0⟩ | ⟨g,cap,cur,rfl,hB,hg,hc,_,_,htk⟩
 ·omega
 ·have hxl:xs.length=W:=by have:=h2.1;rw [hlen] at this;exact this
  have hrow:∀ k,k < W→∃ A cc,xs[k]?=some (.slice A 32 cc)∧RdBF w.heap.size w' A ((datL zs ρ W).getD k []):=fun k hk=>by
   obtain ⟨A',cc,q1,q2,_⟩:=h2.2 k (by rw [hlen];exact hk)
   rw [h32 k hk] at q1
   exact ⟨A',cc,q1,q2⟩
  let adr:Value→Option Addr:=fun v=>match v with | .slice A _ _=>A | _=>none
  refine ⟨g,cap,cur,(List.range W).map fun k=>(adr (xs.getD k (.bool false)),(datL zs ρ W).getD k []),rfl,?_,fun k hk=>?_,fun q hq a ha=>?_,hB⟩
  ·have h':=h.below hb
   have hk':KS W0 w' b H N ((g,Obj.cells cur 48 (0,0))::K) R S:=h.block hb hg hB
   refine ⟨hk'.kx,hk'.rx,fun p hp=>?_⟩
   rcases List.mem_append.1 hp with hp | hp
   ·obtain ⟨k,hk,rfl⟩:=List.mem_map.1 hp
    obtain ⟨A',cc,q1,q2⟩:=hrow k (List.mem_range.1 hk)
    have e1:xs.getD k (.bool false)=.slice A' 32 cc:=by rw [List.getD_eq_getElem?_getD,q1];rfl
    show RdBX _ _ (adr (xs.getD k (.bool false))) _
    rw [e1]
    exact q2.rdbx (h.off (Nat.le_refl _))
   ·exact hk'.sx p hp
  ·obtain ⟨A',cc,q1,q2⟩:=hrow k hk
   refine ⟨A',cc,?_,List.mem_map.2 ⟨k,List.mem_range.2 hk,?_⟩⟩
   ·have e:=congrArg (fun t:List Value=>t[k]?) htk
    simp only [List.getElem?_take] at e
    rw [if_pos (by omega),Array.getElem?_toList] at e
    rw [e];exact q1
   ·have e1:xs.getD k (.bool false)=.slice A' 32 cc:=by rw [List.getD_eq_getElem?_getD,q1];rfl
    rw [e1]
  ·obtain ⟨k,hk,rfl⟩:=List.mem_map.1 hq
   obtain ⟨A',cc,q1,q2⟩:=hrow k (List.mem_range.1 hk)
   have e1:xs.getD k (.bool false)=.slice A' 32 cc:=by rw [List.getD_eq_getElem?_getD,q1];rfl
   dsimp only at ha
   rw [e1] at ha
   obtain ⟨b',off,e2,_,hlo,_⟩:=q2.2 (by rw [h32 k (List.mem_range.1 hk)];omega)
   have ha':A'=some a:=ha
   rw [e2] at ha'
   injection ha' with ha'
   rw [← ha'];exact hlo
theorem KS.farSx (h:∀ p ∈ S,RdBX (BF b H N.n) w p.1 p.2) {p:Nat} (hg:w.grownBy w' (some p)) (hS:Frm S p):∀ q ∈ S,RdBX (BF b H N.n) w' q.1 q.2:=fun q hq=>by
 have h0:=h q hq
 have h1:RdBX (fun k=>BF b H N.n k∨some p=some k) w q.1 q.2:=⟨h0.1,fun hn=>by
  obtain ⟨b',off,e,hl,hf,hc⟩:=h0.2 hn
  exact ⟨b',off,e,hl,fun hh=>hh.elim hf fun e2=>by injection e2 with e2;exact hS q hq hn _ e e2.symm,hc⟩⟩
 have hc:=chg_grown hg
 exact h1.chg (show Chg (fun k=>BF b H N.n k∨some p=some k) w w' from ⟨hc.os,hc.tape,hc.output,hc.size,fun i hi hn=>hc.block i hi fun e=>hn (.inr e)⟩) fun k _ e=>.inl e
theorem KS.turn {p:Nat} {o o':Obj} (h:KS W0 w b H N ((p,o)::K) [] S) (hg:w.grownBy w' (some p)) (hb:w'.heap[p]?=some o') (hne:∀ r ∈ K,r.1 ≠ p) (hS:Frm S p):KS W0 w' b H N ((p,o')::K) [] S :=
 ⟨h.kx.put (K1:=[]) rfl hg hb (by simpa using hne),fun _ hp=>absurd hp (by simp),KS.farSx h.sx hg hS⟩
end
end Go.Proofs.YtldfoadildaljaaGreat
end
section
set_option maxRecDepth 20000
set_option linter.unusedVariables false
set_option linter.unusedSimpArgs false
namespace Go.Proofs.YtldfoadildaljaaGreat
open Go.RowKit
def wrdF (N:Bch) (lv:List Bool) (l d c fr:Int) (m j:Nat):List (List UInt8):=(wrdTo N lv l d c fr j).2 ++ List.replicate (m - j) []
theorem wrdF_all (N:Bch) (lv:List Bool) (l d c fr:Int) (m:Nat):wrdF N lv l d c fr m m=(wrdTo N lv l d c fr m).2:=by simp [wrdF]
theorem wrdF_zero (N:Bch) (lv:List Bool) (l d c fr:Int) (m:Nat):wrdF N lv l d c fr m 0=List.replicate m []:=by simp [wrdF,wrdTo]
theorem wrdTo_step {N:Bch} {lv:List Bool} {l d c fr:Int} {j:Nat} (h:(wrdTo N lv l d c fr j).1=0) (he:woneE N lv l d c (fr + (j:Int))=0):wrdTo N lv l d c fr (j + 1)=(0,(wrdTo N lv l d c fr j).2 ++ [woneB N lv l d c (fr + (j:Int))]):=by
 unfold woneE at he
 unfold woneB
 by_cases q:gCap l d c ≤ fr + (j:Int)
 ·rw [wrdTo_zero h q,if_pos q]
 ·rw [if_neg q] at he ⊢
  exact wrdTo_goes h q he
theorem wrdTo_fail {N:Bch} {lv:List Bool} {l d c fr:Int} {j:Nat} (h:(wrdTo N lv l d c fr j).1=0) (he:woneE N lv l d c (fr + (j:Int)) ≠ 0):wrdTo N lv l d c fr (j + 1)=(woneE N lv l d c (fr + (j:Int)),[]):=by
 unfold woneE at he ⊢
 by_cases q:gCap l d c ≤ fr + (j:Int)
 ·rw [if_pos q] at he;exact absurd rfl he
 ·rw [if_neg q] at he ⊢
  exact wrdTo_err h q he
theorem wrdF_step {N:Bch} {lv:List Bool} {l d c fr:Int} {m j:Nat} (hj:j < m) (h:(wrdTo N lv l d c fr j).1=0) (he:woneE N lv l d c (fr + (j:Int))=0):(wrdF N lv l d c fr m j).set j (woneB N lv l d c (fr + (j:Int)))=wrdF N lv l d c fr m (j + 1):=by
 have hl:=wrdTo_len j h
 unfold wrdF
 rw [wrdTo_step h he,List.set_append_right _ _ (by omega),hl,Nat.sub_self,show m - j=(m - (j + 1)) + 1 by omega,List.replicate_succ,List.set_cons_zero,List.append_assoc]
 rfl
def WnR (w:World) (E:Int) (rs:List (List UInt8)) (e:Ending) (w':World):Prop:=∃ A c,e=.returned (.tuple #[.slice A rs.length c,.int .i64 E])∧RdF w.heap.size w' A rs∧Below w.heap.size w w'
theorem wnR_none {w w':World} {E:Int} {e:Ending} {rs:List (List UInt8)} (he:e=.returned (.tuple #[.slice none 0 0,.int .i64 E])) (hr:rs=[]) (hb:Below w.heap.size w w'):WnR w E rs e w':=by
 subst hr
 exact ⟨none,0,he,⟨by simp,fun h=>by simp at h⟩,hb⟩
theorem winRow_new (w:World) (n:Nat) (hn:n ≤ 1000000):OwR (w.alloc (.cells (madeCells #[.slice none 0 0] n) 48)) w.heap.size w.heap.size n n (List.replicate n []):=(rq_new w n hn).owr
theorem gat_one {W:World} {b g j:Nat} {l d c:Int} {v:Value} (h:GAt W b l d c) (hne:g ≠ b):GAt (W.setCell ⟨g,j,none⟩ v) b l d c :=
 ⟨(World.cell?_setCell_far _ _ _ _ hne).trans h.1,(World.cell?_setCell_far _ _ _ _ hne).trans h.2.1,(World.cell?_setCell_far _ _ _ _ hne).trans h.2.2⟩
theorem rdf_le {lo lo':Nat} {w:World} {A:Option Addr} {rs:List (List UInt8)} (h:RdF lo w A rs) (hl:lo' ≤ lo):RdF lo' w A rs :=
 ⟨h.1,fun h0=>by
  obtain ⟨b,off,e,hb,hl2,hc⟩:=h.2 h0
  refine ⟨b,off,e,hb,by omega,fun k hk=>?_⟩
  obtain ⟨A',c,h1,h2⟩:=hc k hk
  exact ⟨A',c,h1,h2.le hl⟩⟩
set_option maxHeartbeats 3200000 in
theorem winRead_any (B b:Nat) (H:BH) (N:Bch) (w:World) (h:BAt w B b H N) (lv:List Bool) (A:Option Addr) (m cp:Nat) (hm:m=lv.length) (hv:RdO w w.heap.size A lv) (l d c l' d' c' k:Int) (hl:(-9223372036854775808 ≤ l∧l ≤ 9223372036854775807)) (hd:(-9223372036854775808 ≤ d∧d ≤ 9223372036854775807)) (hc:(-9223372036854775808 ≤ c∧c ≤ 9223372036854775807)) (hl':(-9223372036854775808 ≤ l'∧l' ≤ 9223372036854775807)) (hd':(-9223372036854775808 ≤ d'∧d' ≤ 9223372036854775807)) (hc':(-9223372036854775808 ≤ c'∧c' ≤ 9223372036854775807)) (hk:(-9223372036854775808 ≤ k∧k ≤ 9223372036854775807)) :
    Calls Tryz.prog 10 #[.pointer (some ⟨b,0,none⟩),.slice A m cp,.agg #[.int .i64 l,.int .i64 d,.int .i64 c],.agg #[.int .i64 l',.int .i64 d',.int .i64 c'],.int .i64 k] w (WnR w (wrdS N lv l d c l' d' c' k).1 (wrdS N lv l d c l' d' c' k).2):=by
 subst hm
 have S0:=gs2_start w l d c l' d' c' 25 25 (0,0) (0,0)
 have CS:=Lib.hid (fun W=>planSpan_any l d c l' d' c' k W hl hd hc hl' hd' hc' hk)
 have bF:=pnF_bd l d c l' d' c' k
 have bN:=pnN_bd l d c l' d' c'
 have CO:=Lib.hid (fun W (hb:Below w.heap.size w W) (n:Int) (hn:(-9223372036854775808 ≤ n∧n ≤ 9223372036854775807))=>winOne_any B b H N W (h.below hb) lv A lv.length cp rfl (hv.keep hb.size fun p hp=>hb.cell hp) l d c n hl hd hc hn)
 clear h hv
 cases hs:pnSok l d c l' d' c' k with
 | false =>
   have e1:pnF l d c l' d' c' k=0:=if_neg (by rw [hs];decide)
   have e2:pnT l d c l' d' c' k=0:=if_neg (by rw [hs];decide)
   have HW:=Lib.hid (wrdS_bad (N:=N) (lv:=lv) hs)
   rw [e1,e2] at CS
   generalize wrdS N lv l d c l' d' c' k=r at HW ⊢
   clear hs e1 e2 CO bF
   go_enter Tryz.func10,Tryz.ntmps10
   go_wp2_with fail
   (with_reducible refine (CS.out _).mono ?_);rintro e w1 ⟨rfl,hb⟩
   have F:=(S0.later hb).2.2.2.2.2.2
   clear hb S0 CS
   go_wp2_with fail
   go_ret2
   exact wnR_none (by rw [HW.out];rfl) (by rw [HW.out]) F
 | true =>
   obtain ⟨mm,hmm⟩:∃ mm:Nat,pnN l d c l' d' c'=(mm:Int):=⟨(pnN l d c l' d' c').toNat,by omega⟩
   have hgc:gCan l d c l' d' c'=true:=by
    cases hg:gCan l d c l' d' c' with
    | true=>rfl
    | false =>
      unfold pnSok pnW at hs
      rw [hg,if_neg (by decide)] at hs
      have:=of_decide_eq_true hs
      omega
   obtain ⟨R,K,wa,wb,P⟩:=pn_of hgc
   have hpos:=P.n_bd
   have hPn:=P.n
   have e1:pnT l d c l' d' c' k=pnF l d c l' d' c' k + (mm:Int):=by
    unfold pnT pnF
    rw [if_pos hs,if_pos hs,Int.add_mul,Int.one_mul,hmm]
   have HW:=Lib.hid (show wrdS N lv l d c l' d' c' k=wrdTo N lv l d c (pnF l d c l' d' c' k) mm by unfold wrdS;rw [if_pos hs,hmm];rfl)
   rw [e1] at CS
   have hm0:0 < mm:=by omega
   have hm28:mm ≤ 28:=by omega
   generalize wrdS N lv l d c l' d' c' k=r at HW ⊢
   generalize pnF l d c l' d' c' k=fr at CS bF HW
   have km:=make_rows mm (by omega)
   have hwr:IntKind.i64.wrap (fr + (mm:Int))=fr + (mm:Int):=IntWalk.i64_in _ (by omega)
   have hwd:IntKind.i64.wrap (fr + (mm:Int) - fr)=(mm:Int):=by rw [show fr + (mm:Int) - fr=(mm:Int) by omega];exact IntWalk.i64_in _ (by omega)
   have hne:(fr == fr + (mm:Int))=false:=by rw [beq_eq_false_iff_ne];omega
   have hdf:fr + (mm:Int) - fr=(mm:Int):=by omega
   clear hs hgc P hpos hPn e1 hmm bN
   go_enter Tryz.func10,Tryz.ntmps10
   go_wp2_with fail
   (with_reducible refine (CS.out _).mono ?_);rintro e w1 ⟨rfl,hb⟩
   have S1:=S0.later hb
   clear hb S0 CS
   obtain ⟨g1,g2,g3,_,_,_,F1⟩:=S1
   have z1:=World.block_lt_of_cell? _ _ g1
   go_wp2_with fail
   have O0:=winRow_new w1 mm (by omega)
   rw [← wrdF_zero N lv l d c fr mm] at O0
   have F2:=F1.trans ((below1 w1 (.cells (madeCells #[.slice none 0 0] mm) 48)).mono F1.size)
   have G2:=GAt.below (b:=w.heap.size) (l:=l) (d:=d) (c:=c) ⟨g1,g2,g3⟩ (below1 w1 (.cells (madeCells #[.slice none 0 0] mm) 48)) z1
   obtain ⟨g,hg⟩:∃ g,w1.heap.size=g:=⟨_,rfl⟩
   rw [hg] at O0 z1 ⊢
   generalize w1.alloc (.cells (madeCells #[.slice none 0 0] mm) 48)=w2 at O0 F2 G2 ⊢
   clear F1 g1 g2 g3
   go_loopw [34] (fun i wr=>∃ j:Nat,j ≤ mm∧i=.int .i64 j∧(wrdTo N lv l d c fr j).1=0∧OwR wr g g mm mm (wrdF N lv l d c fr mm j)∧GAt wr w.heap.size l d c∧Below w.heap.size w wr) (fun i _=>mm - (intOf i).toNat)
   case atStart=>exact ⟨0,Nat.zero_le _,rfl,rfl,O0,G2,F2⟩
   case round =>
    obtain ⟨j,hj,rfl,h0,ho,hG,hF⟩:=hrel
    have Ho:=Lib.hid ho
    have H0:=Lib.hid h0
    have hgl:=ho.lt
    clear O0 ho h0
    by_cases hlt:j < mm
    ·have i0:(0:Int) ≤ (j:Int):=by omega
     have i1:(j:Int) < (mm:Int):=by omega
     have hwj:IntKind.i64.wrap (fr + (j:Int))=fr + (j:Int):=IntWalk.i64_in _ (by omega)
     have C1:=CO.out wr hF (fr + (j:Int)) (by omega)
     have Hst:=Lib.hid (fun he=>wrdTo_fail (N:=N) (lv:=lv) (l:=l) (d:=d) (c:=c) (fr:=fr) H0.out he)
     have Hgo:=Lib.hid (fun he=>wrdF_step (N:=N) (lv:=lv) (l:=l) (d:=d) (c:=c) (fr:=fr) hlt H0.out he)
     have Hg2:=Lib.hid (fun he=>wrdTo_step (N:=N) (lv:=lv) (l:=l) (d:=d) (c:=c) (fr:=fr) H0.out he)
     have Hsp:=Lib.hid (fun he=>wrdTo_stop (N:=N) (lv:=lv) (l:=l) (d:=d) (c:=c) (fr:=fr) (j:=j + 1) he mm (by omega))
     generalize woneE N lv l d c (fr + (j:Int))=E at C1 Hst Hgo Hg2
     generalize woneB N lv l d c (fr + (j:Int))=x at C1 Hgo Hg2
     have C1:=Lib.hid C1
     obtain ⟨g1,g2,g3⟩:=hG
     by_cases e0:E=0
     ·subst e0
      have Hgo3:=Lib.hid (Hgo.out rfl)
      have Hg3:=Lib.hid (show (wrdTo N lv l d c fr (j + 1)).1=0 by rw [Hg2.out rfl])
      clear Hg2 Hgo
      go_wp2_with fail
      (with_reducible refine C1.out.mono ?_);rintro e w3 ⟨A1,c1,rfl,hr,hb3⟩
      have hr':=hr.le (show g ≤ wr.heap.size by omega)
      have hne:0 < x.length→∀ a,A1=some a→a.block ≠ g:=fun hp a ha=>by
       obtain ⟨q,off,e,_,hq,_⟩:=hr.2 hp
       rw [ha] at e
       injection e with e
       subst e
       show q ≠ g
       omega
      have O3:=((Ho.out.below hb3).set (c:=c1) j hr' hne)
      rw [Hgo3.out] at O3
      obtain ⟨_,_,c3,_,f3⟩:=(Ho.out.below hb3).cell j hlt
      have hF3:=(hF.trans (hb3.mono hF.size)).setCell (p:=⟨g,j,none⟩) (by show w.heap.size ≤ g;omega) (.slice A1 x.length c1)
      have hG3:=gat_one (j:=j) (v:=.slice A1 x.length c1) (GAt.below (b:=w.heap.size) (l:=l) (d:=d) (c:=c) ⟨g1,g2,g3⟩ hb3 (by omega)) (show g ≠ w.heap.size by omega)
      clear hr hr' hne C1 Ho Hgo3 Hst Hsp g1 g2 g3
      go_wp2_with fail
      go_roundw
      case rel=>exact ⟨j + 1,by omega,by go_num,Hg3.out,O3,hG3,hF3⟩
      case measure=>simp [intOf];omega
     ·have hf:=Hst.out e0
      have HW2:=Lib.hid (show r=(E,[]) by rw [HW.out,Hsp.out (by rw [hf];exact e0),hf])
      have en:(E != 0)=true:=by rw [bne_iff_ne];exact e0
      clear Hst Hgo Hg2 Hsp hf e0 HW
      go_wp2_with fail
      (with_reducible refine C1.out.mono ?_);rintro e w3 ⟨A1,c1,rfl,hr,hb3⟩
      have hF3:=hF.trans (hb3.mono hF.size)
      clear hr hb3 C1
      go_wp2_with fail
      go_ret2
      exact wnR_none (by rw [HW2.out];rfl) (by rw [HW2.out]) hF3
    ·obtain rfl:j=mm:=by omega
     have hrr:=(Ho.out.rdf (by omega))
     rw [wrdF_all] at hrr
     have hl:=wrdTo_len j H0.out
     have H1:=Lib.hid (show r=(0,(wrdTo N lv l d c fr j).2) by rw [HW.out,← H0.out])
     have HR:=Lib.hid hrr
     have HL:=Lib.hid hl
     clear HW H0 Ho hrr hl
     go_wp2_with fail
     go_ret2
     exact ⟨some ⟨g,0,none⟩,j,by rw [H1.out];dsimp only;rw [HL.out];rfl,by rw [H1.out];exact rdf_le HR.out (by omega),hF⟩
theorem winRd:WinRd:=fun W w b H N K R S h lv A n cp hn hv l d c l' d' c' k hl hd hc hl' hd' hc' hk=>by
 refine (winRead_any W.heap.size b H N w h.bp.at' lv A n cp hn hv.rdo l d c l' d' c' k hl hd hc hl' hd' hc' hk).mono ?_
 rintro e w' ⟨A',c0,rfl,hr,hb⟩
 exact ⟨A',c0,rfl,h.rows hb hr⟩
end Go.Proofs.YtldfoadildaljaaGreat
end
