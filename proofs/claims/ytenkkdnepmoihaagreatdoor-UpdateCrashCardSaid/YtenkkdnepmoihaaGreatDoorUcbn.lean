/- Texts put together: UpdKit, UpdWnt, UpdCrash, UpdStrange. -/
import Derived.Test.YtenkkdnepmoihaaGreatDoorUcbl
import Derived.Test.YtenkkdnepmoihaaGreatDoorUcbk
import Derived.Test.YtenkkdnepmoihaaGreatDoorUcbj
import Derived.Test.YtenkkdnepmoihaaGreatDoorUcbm
import Derived.Test.YtenkkdnepmoihaaGreatDoorUcak
import Derived.Test.YtenkkdnepmoihaaGreatDoorUcax
import Derived.Test.YtenkkdnepmoihaaGreatDoorUcar
import Derived.Test.YtenkkdnepmoihaaGreatDoorUcbb
section
set_option maxRecDepth 20000
set_option linter.unusedVariables false
set_option linter.unusedSimpArgs false
namespace Go.Proofs.YtenkkdnepmoihaaGreatDoor
open Go.RowKit
theorem bat_blocks {w:World} {B b:Nat} {H:BH} {N:Bch} (h:BAt w B b H N):∃ L:List (Nat × Obj),(∀ p ∈ L,w.heap[p.1]?=some p.2∧BF b H N.n p.1)∧∀ V:World,(∀ p ∈ L,V.heap[p.1]?=some p.2)→BAt V B b H N:=by
 let keys:=b::H.g::(List.range N.n).flatMap fun i=>H.bk i::(H.pv i).ownBlock.toList
 have hk:∀ k,k ∈ keys ↔ BF b H N.n k:=fun k=>by
  show k ∈ b::H.g::_ ↔ _
  unfold BF DF
  simp only [List.mem_cons,List.mem_flatMap,List.mem_range,Option.mem_toList,Option.mem_def]
 refine ⟨keys.filterMap fun k=>(w.heap[k]?).map fun o=>(k,o),fun p hp=>?_,fun V hV=>h.heap fun k hk'=>?_⟩
 ·obtain ⟨k,h1,h2⟩:=List.mem_filterMap.1 hp
  obtain ⟨o,h3,rfl⟩:=Option.map_eq_some_iff.1 h2
  exact ⟨h3,(hk k).1 h1⟩
 ·have hl:=(h.flt hk').2
  obtain ⟨o,ho⟩:∃ o,w.heap[k]?=some o:=⟨w.heap[k],by simp [hl]⟩
  rw [ho]
  exact hV (k,o) (List.mem_filterMap.2 ⟨k,(hk k).2 hk',by rw [ho];rfl⟩)
section
variable {W w w':World} {b:Nat} {H:BH} {N:Bch} {K:List (Nat × Obj)} {R:List (Option Addr × List (List UInt8))} {S:List (Option Addr × List UInt8)}
theorem ks_clone (h:KS W w b H N K R S) (hps:∀ i,i < N.n→(N.D i).ps.length ≤ 2000000) :
    Calls Tryz.prog 24 #[.pointer (some ⟨b,0,none⟩)] w fun e w'=>∃ b2 H2 L,e=.returned (.pointer (some ⟨b2,0,none⟩))∧KS W w' b H N (L ++ K) R S∧Below w.heap.size w w'∧∀ V:World,(∀ p ∈ L,V.heap[p.1]?=some p.2)→BAt V W.heap.size b2 H2 N:=by
 refine (bch_clone_any _ _ _ _ _ h.bp.at' hps).mono ?_
 rintro e w' ⟨b2,H2,rfl,ha,hb⟩
 obtain ⟨L,hL,hV⟩:=bat_blocks (ha.mono (B':=W.heap.size) h.bp.bel.size)
 refine ⟨b2,H2,L,rfl,?_,hb,hV⟩
 have h':=h.below hb
 refine ⟨⟨h'.bp,fun p hp=>?_⟩,h'.rx,h'.sx⟩
 rcases List.mem_append.1 hp with h1 | h1
 ·obtain ⟨h2,h3⟩:=hL p h1
  have h4:=(ha.flt h3).1
  exact ⟨h2,fun e=>by have:=h.flt _ e;omega,by have:=h.bp.bel.size;omega⟩
 ·exact h'.kx.kp p h1
theorem KS.far (h:KS W w b H N K [] []) {ob:Option Nat} (hg:w.grownBy w' ob) (ho:∀ p,ob=some p→W.heap.size ≤ p∧¬ BF b H N.n p∧∀ q ∈ K,q.1 ≠ p):KS W w' b H N K [] []:=by
 have hch:=chg_grown hg
 refine ⟨⟨h.bp.chg hch (fun k e=>(ho k e).1) (fun k hk e=>(ho k e).2.1 hk),fun p hp=>?_⟩,fun _ hp=>absurd hp (by simp),fun _ hp=>absurd hp (by simp)⟩
 obtain ⟨h1,h2,h3⟩:=h.kx.kp p hp
 exact ⟨(hg.block _ (Array.getElem?_eq_some_iff.1 h1).1 (fun e=>(ho _ e.symm).2.2 p hp rfl)).trans h1,h2,h3⟩
end
structure Up (M:Bch) (D:Nat):Prop where
 n:M.n=D
 dn:M.down=false
 f:∀ i,i < D→(M.D i).f=false
end Go.Proofs.YtenkkdnepmoihaaGreatDoor
end
section
set_option maxRecDepth 20000
set_option linter.unusedVariables false
set_option linter.unusedSimpArgs false
namespace Go.Proofs.YtenkkdnepmoihaaGreatDoor
open Go.RowKit
section
variable {l:Int} {D:Nat} {c:Int} {W:Nat} {ds:Nat→List (List UInt8)} {F:Int→Option Value} {S S':List (Option Addr × List UInt8)}
end
def Frm (S:List (Option Addr × List UInt8)) (p:Nat):Prop:=∀ q ∈ S,0 < q.2.length→∀ a,q.1=some a→a.block ≠ p
theorem Frm.nil (p:Nat):Frm [] p:=fun _ h=>absurd h (by simp)
section
variable {W0 w w':World} {b:Nat} {H:BH} {N:Bch} {K:List (Nat × Obj)} {R:List (Option Addr × List (List UInt8))} {S:List (Option Addr × List UInt8)}
theorem KS.farSx (h:∀ p ∈ S,RdBX (BF b H N.n) w p.1 p.2) {p:Nat} (hg:w.grownBy w' (some p)) (hS:Frm S p):∀ q ∈ S,RdBX (BF b H N.n) w' q.1 q.2:=fun q hq=>by
 have h0:=h q hq
 have h1:RdBX (fun k=>BF b H N.n k∨some p=some k) w q.1 q.2:=⟨h0.1,fun hn=>by
  obtain ⟨b',off,e,hl,hf,hc⟩:=h0.2 hn
  exact ⟨b',off,e,hl,fun hh=>hh.elim hf fun e2=>by injection e2 with e2;exact hS q hq hn _ e e2.symm,hc⟩⟩
 have hc:=chg_grown hg
 exact h1.chg (show Chg (fun k=>BF b H N.n k∨some p=some k) w w' from ⟨hc.os,hc.tape,hc.output,hc.size,fun i hi hn=>hc.block i hi fun e=>hn (.inr e)⟩) fun k _ e=>.inl e
theorem KS.farS {p:Nat} (h:KS W0 w b H N K [] S) (hg:w.grownBy w' (some p)) (hW:W0.heap.size ≤ p) (hb:¬ BF b H N.n p) (hK:∀ q ∈ K,q.1 ≠ p) (hS:Frm S p):KS W0 w' b H N K [] S :=
 ⟨((h.less (S':=[]) (fun _ h=>h) (fun _ h=>h) (fun _ h=>absurd h (by simp))).far hg fun q e=>by injection e with e;subst e;exact ⟨hW,hb,hK⟩).kx,fun _ hp=>absurd hp (by simp),KS.farSx h.sx hg hS⟩
theorem KS.newer (h:KS W0 w b H N K R S) {p:Nat} (hp:w.heap.size ≤ p):W0.heap.size ≤ p∧¬ BF b H N.n p∧(∀ q ∈ K,q.1 ≠ p)∧Frm S p:=by
 have:=h.bp.bel.size
 refine ⟨by omega,fun e=>by have:=h.flt p e;omega,fun q hq e=>by have:=(Array.getElem?_eq_some_iff.1 (h.kx.kp q hq).1).1;omega,fun q hq h0 a ha e=>?_⟩
 obtain ⟨b',off,e2,hl,_⟩:=(h.sx q hq).2 h0
 rw [ha] at e2;injection e2 with e2;rw [e2] at e
 have e3:b'=p:=e
 omega
end
theorem upIts_pos {N:Bch} {D:Nat} {lv:List Bool} {nn l c:Int} {ρ F W k a:Nat} {xs:List (List UInt8)} (gr:Gr nn l c (ρ:Int) D F W) (hk:k < W) (h1:cntB D (fun i=>!srvD N lv i) ≤ 1):1 ≤ (upIts N lv a xs (ksL l D F W k)).length:=by
 have hF:=gr.hF;have hW:=gr.hW;have hlv:=gr.lv
 have a1:=roS_lt (D:=D) (F:=F) (k:=k) hF (by omega)
 have a2:=roS_lt (D:=D) (F:=F) (k:=W) hF (by omega)
 have n1:roS D F k ≠ roS D F W:=fun e=>by have:=roS_inj hF (by omega) (by omega) e;omega
 have key:∃ i ∈ ksL l D F W k,srvD N lv i=true:=by
  by_cases s1:srvD N lv (roS D F k)=true
  ·exact ⟨_,by unfold ksL;simp,s1⟩
  ·by_cases s2:srvD N lv (roS D F W)=true
   ·exact ⟨_,by unfold ksL;simp,s2⟩
   ·exfalso
    have h2:[roS D F k,roS D F W].length ≤ cntB D (fun i=>!srvD N lv i):=by
     unfold cntB
     refine len_le_map (f:=id) (by simp [n1]) (fun a _ b _ e=>e) fun i hi=>?_
     simp only [List.mem_cons,List.not_mem_nil,or_false] at hi
     refine List.mem_filter.2 ⟨List.mem_range.2 ?_,?_⟩
     ·rcases hi with rfl | rfl <;> assumption
     ·rcases hi with rfl | rfl
      ·simp [s1]
      ·simp [s2]
    simp at h2;omega
 obtain ⟨i,hi,hs⟩:=key
 have:=List.length_pos_of_mem (mem_upIts.2 ⟨i,hi,hs,rfl⟩:_ ∈ upIts N lv a xs (ksL l D F W k))
 omega
end Go.Proofs.YtenkkdnepmoihaaGreatDoor
end
section
set_option linter.unusedVariables false
set_option linter.unusedSimpArgs false
namespace Go.Proofs.YtenkkdnepmoihaaGreatDoor
def Mix (M:Bch) (D:Nat) (l c:Int) (W ρ k:Nat) (ds ds':Nat→List (List UInt8)):Prop :=
 ∀ i,i < D→∀ t,t < 16→(M.D i).f=false→secAt (M.D i).now (36 + t)=(flG l c D ds t).getD i []∨(t=ρ∧i ∈ ksL l D (roF l (D:Int) c (ρ:Int)) W k∧secAt (M.D i).now (36 + t)=(flG l c D ds' t).getD i [])
def Olds (M:Bch) (D:Nat) (o n:List (List UInt8)):Prop:=∀ j,j < D→∀ k,k < 4→secAt (M.D j).now (2 + k)=o.getD k []∨secAt (M.D j).now (2 + k)=n.getD k []
theorem put_log {N:Bch} {lv:List Bool} {s:Int} {l:List It} (hg:GoodB N) (hk:recOk s l=true):∀ j,j < N.n→liveD N.n lv (j:Int)=true→(N.D j).f=false→logR ((putS N lv s l).2.D j)=recB s l:=fun j hj hl hf=>by
 obtain ⟨h0,g⟩:=settle_good hg (fit_put (lv:=lv) hk)
 have e:putS N lv s l=settleS N (putTo N.n lv (recB s l) N.n):=if_pos hk
 have h4:=((sect_iff _).1 (sect_recB hk)).1
 rw [e]
 refine logR_ext h4 fun k hk4=>?_
 rw [g.sec j hj hf (2 + k) (by omega)]
 refine lastI_one (fun x hx he=>?_) (.inr ⟨secIt j (recB s l) k,mem_put.2 ⟨j,k,hj,by omega,hl,rfl⟩,rfl,rfl⟩)
 obtain ⟨j',k',_,_,_,rfl⟩:=mem_put.1 hx
 have h2:((2 + k':Nat):Int)=((2 + k:Nat):Int):=he.2
 obtain rfl:k'=k:=by omega
 rfl
theorem app_log {N:Bch} {lv:List Bool} {s:Int} {l:List It} (hg:GoodB N) (hk:recOk s l=true):∀ j,j < N.n→(N.D j).f=false→logR ((appS N lv s l).2.D j)=logR (N.D j):=fun j hj hf=>by
 obtain ⟨_,ag⟩:=app_good (lv:=lv) hg hk
 refine List.map_congr_left fun k hk4=>ag.not j hj hf (2 + k) (by have:=List.mem_range.1 hk4;omega) fun x hx _ he=>?_
 have h3:=recOk_may hk x hx
 have:=List.mem_range.1 hk4
 omega
theorem Md.refl {N:Bch} (hg:GoodB N) (hf:∀ j,j < N.n→(N.D j).f=false) (l:List It):Md N N l:=⟨rfl,hf,hg.ok,fun j hj=>by
 show (N.D j).S=nowOf (N.D j).S (N.D j).ps
 rw [hg.ps j hj];rfl,fun j hj p hp=>by rw [hg.ps j hj] at hp;cases hp⟩
section
variable {N:Bch} {D:Nat} {lv:List Bool} {nn l c r:Int} {F W ρ k:Nat} {ds:Nat→List (List UInt8)} {x:List UInt8}
def chIts (N:Bch) (D:Nat) (lv:List Bool) (l c:Int) (W ρ k:Nat) (ds:Nat→List (List UInt8)) (x:List UInt8):List It:=upIts N lv (36 + ρ) (fillL D (roF l (D:Int) c (ρ:Int)) ((ds ρ).set k x)) (ksL l D (roF l (D:Int) c (ρ:Int)) W k)
theorem ch_ok (gr:Gr nn l c r D F W) (hd:Dat W ds) (hρ:ρ < 16) (hk:k < W) (hx:x.length=32) {s:Int} (hs:1 ≤ s∧s ≤ 2147483647):recOk s (chIts N D lv l c W ρ k ds x)=true:=by
 obtain ⟨k1,k2,k3,_⟩:=ksL_facts (gr.at hρ) hk
 exact upIts_ok hs k1 k2 (fun i hi=>by have:=k3 i hi;have:=gr.d8;omega) (by omega) (fun i hi=>(gr.at hρ).fills (by rw [List.length_set];exact hd.len ρ) (set_32 (hd.m ρ) hx) (k3 i hi))
theorem ch_mem {y:It} (h:y ∈ chIts N D lv l c W ρ k ds x):∃ i,i ∈ ksL l D (roF l (D:Int) c (ρ:Int)) W k∧y.d=(i:Int)∧y.a=((36 + ρ:Nat):Int)∧y.b=(flG l c D (dsSet ds ρ k x) ρ).getD i []:=by
 obtain ⟨i,hi,_,rfl⟩:=mem_upIts.1 h
 refine ⟨i,hi,rfl,rfl,?_⟩
 unfold flG dsSet;rw [if_pos rfl]
theorem mix_old {M:Bch} (h:∀ i,i < D→∀ t,t < 16→(M.D i).f=false→secAt (M.D i).now (36 + t)=(flG l c D ds t).getD i []) (ds':Nat→List (List UInt8)):Mix M D l c W ρ k ds ds':=fun i hi t ht hf=>.inl (h i hi t ht hf)
theorem mix_apply {M:Bch} {lv':List Bool} (gr:Gr nn l c r D F W) (hd:Dat W ds) (hρ:ρ < 16) (hk:k < W) (hx:x.length=32) (hn:M.n=D) (hg:GoodB M) (hm:Mix M D l c W ρ k ds (dsSet ds ρ k x)) (hall:∀ i,i < D→srvD N lv i=true) {s:Int} (hs:1 ≤ s∧s ≤ 2147483647) :
    (putS M lv' s (chIts N D lv l c W ρ k ds x)).1=0∧(appS (putS M lv' s (chIts N D lv l c W ρ k ds x)).2 lv' s (chIts N D lv l c W ρ k ds x)).1=0∧Arr (appS (putS M lv' s (chIts N D lv l c W ρ k ds x)).2 lv' s (chIts N D lv l c W ρ k ds x)).2 D lv' l c W (dsSet ds ρ k x) ∧
    (∀ j,j < D→((appS (putS M lv' s (chIts N D lv l c W ρ k ds x)).2 lv' s (chIts N D lv l c W ρ k ds x)).2.D j).f=(M.D j).f)∧(putS M lv' s (chIts N D lv l c W ρ k ds x)).2.done ≤ M.done + 32:=by
 have hok:=ch_ok (N:=N) (lv:=lv) gr hd hρ hk hx hs
 obtain ⟨p0,pg⟩:=put_good (lv:=lv') hg (by rw [hn];exact gr.d8) hok
 have pd:=put_data (lv:=lv') hg hok
 obtain ⟨a0,ag⟩:=app_good (lv:=lv') pg.good hok
 have hmem:∀ y ∈ chIts N D lv l c W ρ k ds x,_:=fun y hy=>ch_mem hy
 have hin:∀ i,i ∈ ksL l D (roF l (D:Int) c (ρ:Int)) W k→(⟨(i:Int),((36 + ρ:Nat):Int),(flG l c D (dsSet ds ρ k x) ρ).getD i []⟩:It) ∈ chIts N D lv l c W ρ k ds x:=fun i hi=>by
  refine mem_upIts.2 ⟨i,hi,hall i ((ksL_facts (gr.at hρ) hk).2.2.1 i hi),?_⟩
  unfold flG dsSet;rw [if_pos rfl]
 generalize chIts N D lv l c W ρ k ds x=its at *
 generalize putS M lv' s its=q at *
 have hqn:q.2.n=D:=pg.n.trans hn
 have hMn:(appS q.2 lv' s its).2.n=D:=ag.n.trans hqn
 have hf:∀ j,j < D→((appS q.2 lv' s its).2.D j).f=(M.D j).f:=fun j hj=>(ag.f j (by rw [hqn];exact hj)).trans (pg.f j (by rw [hn];exact hj))
 refine ⟨p0,a0,⟨⟨hMn,ag.good,fun i hi t ht hs=>?_⟩,hd.set ρ k hx⟩,hf,pg.done⟩
 have hs':=(srvD_congr (N:=M) (hMn.trans hn.symm) (hf i hi)).symm.trans hs
 have hqf:(q.2.D i).f=false:=(pg.f i (by rw [hn];exact hi)).trans (srvD_yes hs').2.2
 have hql:liveD q.2.n lv' (i:Int)=true:=by rw [pg.n];exact (srv_live hs').1
 by_cases hc:t=ρ∧i ∈ ksL l D (roF l (D:Int) c (ρ:Int)) W k
 ·obtain ⟨rfl,hc⟩:=hc
  have:=ag.at' _ (hin i hc) hql (by show (q.2.D ((i:Int)).toNat).f=false;rw [Int.toNat_natCast];exact hqf)
  dsimp only at this
  rw [Int.toNat_natCast,Int.toNat_natCast] at this
  exact this
 ·rw [ag.not i (by rw [hqn];exact hi) hqf (36 + t) (by omega) (fun y hy _ he=>by
    obtain ⟨i',h1,h2,h3,_⟩:=hmem y hy
    obtain rfl:i'=i:=by omega
    exact hc ⟨by omega,h1⟩),pd i (by rw [hn];exact hi) (srvD_yes hs').2.2 (36 + t) (by omega) (by omega)]
  rcases hm i hi t ht (srvD_yes hs').2.2 with e | ⟨e1,e2,_⟩
  ·rw [e]
   unfold flG dsSet
   by_cases ht2:t=ρ
   ·subst ht2
    rw [if_pos rfl]
    exact (fill_else (gr.at hρ) hk (hd.len t) hi (fun q=>hc ⟨rfl,q⟩)).symm
   ·rw [if_neg ht2]
  ·exact absurd ⟨e1,e2⟩ hc
theorem cut_do (ha:Arr N D lv l c W ds) (hup:Up N D) (hlive:∀ i,i < D→lv.getD i false=true) (gr:Gr nn l c r D F W) (hρ:ρ < 16) (hk:k < W) (hx:x.length=32) (hlog:∀ j,j < D→logR (N.D j)=recB 1 []) (v:Nat) (ks:List Bool) :
    ∃ e M dn,doS { N with left:=(v:Int) } lv l (D:Int) c (plN l (D:Int) c (ρ:Int) (k:Int)) x 2=(e,M)∧M.down=dn∧((e=6∧dn=true)∨(e=0∧dn=false))∧M.n=D ∧
    GoodB (M.crash ks)∧(M.crash ks).n=D∧(∀ j,j < D→((M.crash ks).D j).f=false)∧Olds (M.crash ks) D (recB 1 []) (recB 2 (chIts N D lv l c W ρ k ds x))∧Mix (M.crash ks) D l c W ρ k ds (dsSet ds ρ k x) ∧
    ((dn=true∧∀ i,i < D→∀ t,t < 16→secAt ((M.crash ks).D i).now (36 + t)=(flG l c D ds t).getD i [])∨(∀ j,j < D→logR ((M.crash ks).D j)=recB 2 (chIts N D lv l c W ρ k ds x))):=by
 have hn:=hup.n
 have hg:=ha.st.good
 have hf:∀ j,j < N.n→(N.D j).f=false:=fun j hj=>hup.f j (by rw [← hn];exact hj)
 have hall:∀ i,i < D→srvD N lv i=true:=fun i hi=>srvD_mk (by rw [hn];exact hi) (hlive i hi) (hup.f i hi)
 have hcnt:((cntB D (fun i=>!srvD N lv i):Nat):Int) ≤ l - 4:=by
  rw [cntB_none fun i hi=>by rw [hall i hi];rfl]
  have:=gr.lv;omega
 obtain ⟨u0,u1,_⟩:=up_at (gr.at hρ) hk hx (ha.ok gr hρ hcnt)
 have hok:=ch_ok (N:=N) (lv:=lv) gr ha.da hρ hk hx (s:=2) (by omega)
 have happ:=mix_apply (M:=N) (lv':=lv) gr ha.da hρ hk hx hn hg (mix_old (fun i hi t ht _=>ha.st.at' i hi t ht (hall i hi)) _) hall (s:=2) (by omega)
 have hmem:∀ y ∈ chIts N D lv l c W ρ k ds x,_:=fun y hy=>ch_mem hy
 rw [show upIts N lv (36 + ρ) (fillL D (roF l (D:Int) c (ρ:Int)) ((ds ρ).set k x)) (ksL l D (roF l (D:Int) c (ρ:Int)) W k)=chIts N D lv l c W ρ k ds x from rfl] at u1
 generalize chIts N D lv l c W ρ k ds x=its at *
 have hold:∀ j,j < D→∀ k,k < 4→secAt (N.D j).now (2 + k)=(recB 1 []).getD k []:=fun j hj k hk4=>by rw [← hlog j hj,logR_get' _ hk4]
 have hdat:∀ i,i < D→∀ t,t < 16→secAt (N.D i).now (36 + t)=(flG l c D ds t).getD i []:=fun i hi t ht=>ha.st.at' i hi t ht (hall i hi)
 have h4:=((sect_iff _).1 (sect_recB hok)).1
 have hfit:=fit_put (N:=N) (lv:=lv) hok
 have e0:doS { N with left:=(v:Int) } lv l (D:Int) c (plN l (D:Int) c (ρ:Int) (k:Int)) x 2=if (putS { N with left:=(v:Int) } lv 2 its).1 ≠ 0 then putS { N with left:=(v:Int) } lv 2 its else appS (putS { N with left:=(v:Int) } lv 2 its).2 lv 2 its:=by
  have a1:upE { N with left:=(v:Int) } lv l (D:Int) c (plN l (D:Int) c (ρ:Int) (k:Int)) x=0:=u0
  have a2:upL { N with left:=(v:Int) } lv l (D:Int) c (plN l (D:Int) c (ρ:Int) (k:Int)) x=its:=u1
  unfold doS;rw [if_neg (fun h=>h a1),a2]
 have e1:putS { N with left:=(v:Int) } lv 2 its=settleS { N with left:=(v:Int) } (putTo N.n lv (recB 2 its) N.n):=if_pos hok
 have e2:putS N lv 2 its=settleS N (putTo N.n lv (recB 2 its) N.n):=if_pos hok
 by_cases hv:v < (putTo N.n lv (recB 2 its) N.n).length
 ·rw [stop_settle hg hf hfit hv] at e1
  rw [e1,if_pos n60] at e0
  have m:=md_run hg hf hfit v (by omega)
  obtain ⟨c1,c2,c3,c4⟩:=m.crash ks 0 true
  refine ⟨6,_,true,e0,rfl,.inl ⟨rfl,rfl⟩,m.n.trans hn,c1,c2.trans hn,fun j hj=>c3 j (by rw [hn];exact hj),fun j hj k hk4=>?_,?_,.inl ⟨rfl,?_⟩⟩
  ·rcases c4 j (by rw [hn];exact hj) (2 + k) (by omega) with h | ⟨y,hy,h1,h2,h3⟩
   ·exact .inl (h.trans (hold j hj k hk4))
   ·obtain ⟨j',k',_,_,_,rfl⟩:=mem_put.1 (List.mem_of_mem_take hy)
    have h2':((2 + k':Nat):Int)=((2 + k:Nat):Int):=h2
    obtain rfl:k'=k:=by omega
    exact .inr h3
  ·exact mix_old (fun i hi t ht _=>by
     rcases c4 i (by rw [hn];exact hi) (36 + t) (by omega) with h | ⟨y,hy,h1,h2,h3⟩
     ·exact h.trans (hdat i hi t ht)
     ·obtain ⟨j',k',_,hk',_,rfl⟩:=mem_put.1 (List.mem_of_mem_take hy)
      have h2':((2 + k':Nat):Int)=((36 + t:Nat):Int):=h2
      omega) _
  ·intro i hi t ht
   rcases c4 i (by rw [hn];exact hi) (36 + t) (by omega) with h | ⟨y,hy,h1,h2,h3⟩
   ·exact h.trans (hdat i hi t ht)
   ·obtain ⟨j',k',_,hk',_,rfl⟩:=mem_put.1 (List.mem_of_mem_take hy)
    have h2':((2 + k':Nat):Int)=((36 + t:Nat):Int):=h2
    omega
 ·obtain ⟨w,hw⟩:∃ w:Nat,(v:Int) - ((putTo N.n lv (recB 2 its) N.n).length:Int)=(w:Int):=⟨v - (putTo N.n lv (recB 2 its) N.n).length,by omega⟩
  rw [lim_settle hg hf hfit (by omega),← e2,hw] at e1
  rw [e1,if_neg (fun h=>h rfl)] at e0
  dsimp only at e0
  obtain ⟨p0,pg⟩:=put_good (lv:=lv) hg (by rw [hn];exact gr.d8) hok
  have pd:=put_data (lv:=lv) hg hok
  have pl:=put_log (lv:=lv) hg hok
  obtain ⟨_,_,aa,af,_⟩:=happ
  have al:=app_log (lv:=lv) pg.good hok
  generalize putS N lv 2 its=q at *
  have hqn:q.2.n=D:=pg.n.trans hn
  have hqf:∀ j,j < q.2.n→(q.2.D j).f=false:=fun j hj=>(pg.f j (by rw [← pg.n];exact hj)).trans (hf j (by rw [← pg.n];exact hj))
  have hql:∀ j,j < D→logR (q.2.D j)=recB 2 its:=fun j hj=>pl j (by rw [hn];exact hj) (srv_live (hall j hj)).1 (hf j (by rw [hn];exact hj))
  have hqd:∀ i,i < D→∀ t,t < 16→secAt (q.2.D i).now (36 + t)=(flG l c D ds t).getD i []:=fun i hi t ht=>(pd i (by rw [hn];exact hi) (hf i (by rw [hn];exact hi)) (36 + t) (by omega) (by omega)).trans (hdat i hi t ht)
  have e3:∀ z,appS { q.2 with left:=z } lv 2 its=settleS { q.2 with left:=z } (its.filter (liveI q.2.n lv)):=fun z=>if_pos hok
  have e4:appS q.2 lv 2 its=settleS q.2 (its.filter (liveI q.2.n lv)):=if_pos hok
  have hfa:FitI q.2.n (its.filter (liveI q.2.n lv)):=fun y hy=>by
   obtain ⟨y1,y2⟩:=List.mem_filter.1 hy
   have h3:=recOk_may hok y y1
   unfold liveI liveD at y2
   have h5:y.d < (q.2.n:Int):=of_decide_eq_true (Bool.and_eq_true_iff.1 y2).1
   exact ⟨h3.1,h5,by omega,h3.2.2.2.1,h3.2.2.2.2⟩
  rw [e3] at e0
  by_cases hwl:w < (its.filter (liveI q.2.n lv)).length
  ·rw [stop_settle pg.good hqf hfa hwl] at e0
   have m:=md_run pg.good hqf hfa w (by omega)
   obtain ⟨c1,c2,c3,c4⟩:=m.crash ks 0 true
   have hL:∀ j,j < D→∀ k,k < 4→secAt ((Bch.crash { (runTo itWr (its.filter (liveI q.2.n lv)) q.2 w).2 with left:=0,down:=true } ks).D j).now (2 + k)=(recB 2 its).getD k []:=fun j hj k hk4=>by
    rcases c4 j (by rw [hqn];exact hj) (2 + k) (by omega) with h | ⟨y,hy,h1,h2,h3⟩
    ·rw [h,← hql j hj,logR_get' _ hk4]
    ·have h5:=recOk_may hok y (List.mem_filter.1 (List.mem_of_mem_take hy)).1
     omega
   refine ⟨6,_,true,e0,rfl,.inl ⟨rfl,rfl⟩,m.n.trans hqn,c1,c2.trans hqn,fun j hj=>c3 j (by rw [hqn];exact hj),fun j hj k hk4=>.inr (hL j hj k hk4),fun i hi t ht _=>?_,.inr fun j hj=>logR_ext h4 fun k hk4=>hL j hj k hk4⟩
   rcases c4 i (by rw [hqn];exact hi) (36 + t) (by omega) with h | ⟨y,hy,h1,h2,h3⟩
   ·exact .inl (h.trans (hqd i hi t ht))
   ·obtain ⟨i',g1,g2,g3,g4⟩:=hmem y (List.mem_filter.1 (List.mem_of_mem_take hy)).1
    obtain rfl:i'=i:=by omega
    obtain rfl:t=ρ:=by omega
    exact .inr ⟨rfl,g1,h3.trans g4⟩
  ·rw [lim_settle pg.good hqf hfa (by omega),← e4] at e0
   have hAn:(appS q.2 lv 2 its).2.n=D:=aa.st.n
   have hAf:∀ j,j < (appS q.2 lv 2 its).2.n→((appS q.2 lv 2 its).2.D j).f=false:=fun j hj=>(af j (by rw [← hAn];exact hj)).trans (hup.f j (by rw [← hAn];exact hj))
   have m:=Md.refl aa.st.good hAf []
   have hAs:∀ i,i < D→srvD (appS q.2 lv 2 its).2 lv i=true:=fun i hi=>srvD_mk (by rw [hAn];exact hi) (hlive i hi) (hAf i (by rw [hAn];exact hi))
   obtain ⟨c1,c2,c3,c4⟩:=m.crash ks ((w:Int) - (its.filter (liveI q.2.n lv)).length) (appS q.2 lv 2 its).2.down
   have c5:∀ j,j < D→∀ k,k < 52→_:=fun j hj k hk=>(c4 j (by rw [hAn];exact hj) k hk).resolve_right fun ⟨y,hy,_⟩=>by cases hy
   have hL:∀ j,j < D→∀ k,k < 4→secAt ((Bch.crash { (appS q.2 lv 2 its).2 with left:=(w:Int) - (its.filter (liveI q.2.n lv)).length } ks).D j).now (2 + k)=(recB 2 its).getD k []:=fun j hj k hk4=>by
    have:=c5 j hj (2 + k) (by omega)
    refine this.trans ?_
    have h6:=al j (by rw [hqn];exact hj) (hqf j (by rw [hqn];exact hj))
    rw [← hql j hj,← h6,logR_get' _ hk4]
   refine ⟨0,_,false,e0,aa.st.good.dn,.inr ⟨rfl,rfl⟩,hAn,c1,c2.trans hAn,fun j hj=>c3 j (by rw [hAn];exact hj),fun j hj k hk4=>.inr (hL j hj k hk4),fun i hi t ht _=>?_,.inr fun j hj=>logR_ext h4 fun k hk4=>hL j hj k hk4⟩
   have h7:=(c5 i hi (36 + t) (by omega)).trans (aa.st.at' i hi t ht (hAs i hi))
   by_cases hc:t=ρ∧i ∈ ksL l D (roF l (D:Int) c (ρ:Int)) W k
   ·exact .inr ⟨hc.1,hc.2,h7⟩
   ·refine .inl (h7.trans ?_)
    unfold flG dsSet
    by_cases ht2:t=ρ
    ·subst ht2
     rw [if_pos rfl]
     exact fill_else (gr.at hρ) hk (ha.da.len t) hi (fun q=>hc ⟨rfl,q⟩)
    ·rw [if_neg ht2]
end
end Go.Proofs.YtenkkdnepmoihaaGreatDoor
end
section
set_option maxRecDepth 20000
set_option linter.unusedVariables false
set_option linter.unusedSimpArgs false
namespace Go.Proofs.YtenkkdnepmoihaaGreatDoor
open Go.RowKit
noncomputable def codeST:Code:=Tryz.f28.body.getD .skip
def logT (M:Bch) (d i:Nat):List (List UInt8):=(List.range i).map fun k=>secAt (M.D d).now (2 + k)
theorem logT_len (M:Bch) (d i:Nat):(logT M d i).length=i:=by simp [logT]
theorem logT_succ (M:Bch) (d i:Nat):logT M d (i + 1)=logT M d i ++ [secAt (M.D d).now (2 + i)]:=by simp [logT,List.range_succ]
theorem logT_four (M:Bch) (d:Nat):logT M d 4=logR (M.D d):=rfl
theorem Up.log {M:Bch} {D:Nat} (h:Up M D) {i s:Nat} (hi:i < D) (hs:s < 4):M.readE (i:Int) (2 + (s:Int))=0∧M.read (i:Int) (2 + (s:Int))=secAt (M.D i).now (2 + s):=by
 have:=Bch.read_ok (N:=M) (d:=i) (k:=2 + s) (by rw [h.n];exact hi) (by omega) (h.f i hi) h.dn
 rwa [show ((2 + s:Nat):Int)=2 + (s:Int) by omega] at this
def Fine (M N:Bch) (its:List It) (j:Nat):Prop:=rcO (logR (M.D j))=true→rcL (logR (M.D j))=[]∨rcL (logR (M.D j))=its∨(rcO (logR (N.D j))=true∧rcL (logR (M.D j))=rcL (logR (N.D j)))
def StrP (w:World) (D:Nat) (M N:Bch) (its:List It) (e:Ending) (w':World):Prop:=∃ v,e=.returned (.bool v)∧Below w.heap.size w w'∧(v=false→∀ j,j < D→Fine M N its j)
theorem strP_yes {w w':World} {D:Nat} {M N:Bch} {its:List It} {e:Ending} (he:e=.returned (.bool true)) (hb:Below w.heap.size w w'):StrP w D M N its e w':=⟨true,he,hb,fun e=>by cases e⟩
theorem strP_no {w w':World} {D:Nat} {M N:Bch} {its:List It} {e:Ending} (he:e=.returned (.bool false)) (hb:Below w.heap.size w w') (h:∀ j,j < D→Fine M N its j):StrP w D M N its e w':=⟨false,he,hb,fun _=>h⟩
set_option maxRecDepth 100000 in
set_option maxHeartbeats 3200000 in
theorem stRb {w0:World} {B0 b bw D d lo:Nat} {H H2:BH} {M N:Bch} {va:Value} {vb:Value} {i:Nat} {xs:List Value} {ys:List Value} {w:World} (u2 u3 u4 u5 u6 u11 u12 u13 u14 u15 u16 u17 u18 u19 u20 u21 u22 u23 u24 u25 u26 u27 u28 u29 u30 u31 u32 u33 u34 u35 u36 u37 u38 u39 u40 u41 u42 u43 u44 u45 u46 u47 u48 u49 u50 u51 u52 u53 u54 u55 u56 u57 u58 u59 u60 u61 u62 u63 u64 u65 u66 u67 u68 u69 u70 u71 u72 u73 u74 u75 u76 u77 u78 u79 u80 u81 u82 u83 u84 u85 u86 u87 u88 u89 u90 u91 u92 u93 u94 u95 u96 u97 u98 u99 u100 u101 u102 u103 u104 u105 u106 u107 u108 u109 u110:Value) (K:Act→World→Prop) (Q0:Exit→Act→World→Prop) (hb:BAt w0 B0 b H M) (hw:BAt w0 B0 bw H2 N) (um:Up M D) (un:Up N D) (hd:d < D) (hD:D ≤ 8) (hlo0:w0.heap.size ≤ lo) (h32:∀ k,k < 4→(secAt (M.D d).now (2 + k)).length=32∧(secAt (N.D d).now (2 + k)).length=32) (hI:(i ≤ 4∧TwoV lo w va vb (logT M d i) (logT N d i) xs ys∧Below w0.heap.size w0 w∧lo ≤ w.heap.size))
    (hK:∀ (v11 v12 v13 v14 v36 v37 v38 v39 v40 v41 v42 v43 v44 v45 v46 v47 v48 v49 v50 v51 v52 v53 v54 v55 v56 v57 v58 v59 v60 v61 v62 v63:Value) (va2:Value) (vb2:Value) (xs2:List Value) (ys2:List Value) (V:World),((i + 1) ≤ 4∧TwoV lo V va2 vb2 (logT M d (i + 1)) (logT N d (i + 1)) xs2 ys2∧Below w0.heap.size w0 V∧lo ≤ V.heap.size)→4 - (i + 1) < 4 - i→K ⟨List.toArray ((.pointer (some ⟨b,0,none⟩))::(.pointer (some ⟨bw,0,none⟩))::u2::u3::u4::u5::u6::(.int .i64 (d:Int))::va2::vb2::(.int .i64 (((i + 1):Nat):Int))::v11::v12::v13::v14::u15::u16::u17::u18::u19::u20::u21::u22::u23::u24::u25::u26::u27::u28::u29::u30::u31::u32::u33::u34::u35::v36::v37::v38::v39::v40::v41::v42::v43::v44::v45::v46::v47::v48::v49::v50::v51::v52::v53::v54::v55::v56::v57::v58::v59::v60::v61::v62::v63::u64::u65::u66::u67::u68::u69::u70::u71::u72::u73::u74::u75::u76::u77::u78::u79::u80::u81::u82::u83::u84::u85::u86::u87::u88::u89::u90::u91::u92::u93::u94::u95::u96::u97::u98::u99::u100::u101::u102::u103::u104::u105::u106::u107::u108::u109::u110::[]),[]⟩ V)
    (hX:∀ (v11 v12 v13 v14 v36 v37 v38 v39 v40 v41 v42 v43 v44 v45 v46 v47 v48 v49 v50 v51 v52 v53 v54 v55 v56 v57 v58 v59 v60 v61 v62 v63:Value),(i=4)→Q0 (.exit 2) ⟨List.toArray ((.pointer (some ⟨b,0,none⟩))::(.pointer (some ⟨bw,0,none⟩))::u2::u3::u4::u5::u6::(.int .i64 (d:Int))::va::vb::(.int .i64 ((i:Nat):Int))::v11::v12::v13::v14::u15::u16::u17::u18::u19::u20::u21::u22::u23::u24::u25::u26::u27::u28::u29::u30::u31::u32::u33::u34::u35::v36::v37::v38::v39::v40::v41::v42::v43::v44::v45::v46::v47::v48::v49::v50::v51::v52::v53::v54::v55::v56::v57::v58::v59::v60::v61::v62::v63::u64::u65::u66::u67::u68::u69::u70::u71::u72::u73::u74::u75::u76::u77::u78::u79::u80::u81::u82::u83::u84::u85::u86::u87::u88::u89::u90::u91::u92::u93::u94::u95::u96::u97::u98::u99::u100::u101::u102::u103::u104::u105::u106::u107::u108::u109::u110::[]),[]⟩ w) :
    Code.wp Tryz.prog (sub [1,0,1,0,0,1,0,0,1,0,1,0,0] codeST) (Exit.then K Q0) ⟨List.toArray ((.pointer (some ⟨b,0,none⟩))::(.pointer (some ⟨bw,0,none⟩))::u2::u3::u4::u5::u6::(.int .i64 (d:Int))::va::vb::(.int .i64 ((i:Nat):Int))::u11::u12::u13::u14::u15::u16::u17::u18::u19::u20::u21::u22::u23::u24::u25::u26::u27::u28::u29::u30::u31::u32::u33::u34::u35::u36::u37::u38::u39::u40::u41::u42::u43::u44::u45::u46::u47::u48::u49::u50::u51::u52::u53::u54::u55::u56::u57::u58::u59::u60::u61::u62::u63::u64::u65::u66::u67::u68::u69::u70::u71::u72::u73::u74::u75::u76::u77::u78::u79::u80::u81::u82::u83::u84::u85::u86::u87::u88::u89::u90::u91::u92::u93::u94::u95::u96::u97::u98::u99::u100::u101::u102::u103::u104::u105::u106::u107::u108::u109::u110::[]),[]⟩ w:=by
 have HK:=Lib.hid hK
 have HX:=Lib.hid hX
 clear hK hX
 conv=>arg 2;whnf
 obtain ⟨hi,h2,hbel,hlo⟩:=hI
 by_cases hlt:i < 4
 ·have i0:(0:Int) ≤ (i:Int):=by omega
  have i1:(i:Int) < 4:=by omega
  have CA:=fun V (hV:Below w0.heap.size w0 V)=>bch_read_any B0 b H M V (hb.below hV) (d:Int) (2 + (i:Int)) ⟨by omega,by omega⟩ ⟨by omega,by omega⟩
  simp only [(um.log hd hlt).1,(um.log hd hlt).2] at CA
  have CB:=fun V (hV:Below w0.heap.size w0 V)=>bch_read_any B0 bw H2 N V (hw.below hV) (d:Int) (2 + (i:Int)) ⟨by omega,by omega⟩ ⟨by omega,by omega⟩
  simp only [(un.log hd hlt).1,(un.log hd hlt).2] at CB
  unfold ptr at CA CB
  obtain ⟨h3,h4⟩:=h32 i hlt
  have Hsa:=Lib.hid (logT_succ M d i)
  have Hsb:=Lib.hid (logT_succ N d i)
  have hla:=logT_len M d i
  have hlb:=logT_len N d i
  generalize logT M d i=ra at h2 hla Hsa
  generalize logT N d i=rb at h2 hlb Hsb
  generalize secAt (M.D d).now (2 + i)=y at CA h3 Hsa
  generalize secAt (N.D d).now (2 + i)=z at CB h4 Hsb
  have Hb0:=Lib.hid hbel
  have CA:=Lib.hid (CA w hbel)
  have CB:=Lib.hid CB
  have H2v:=Lib.hid h2
  clear HX hb hw um un h32 h2 hbel
  go_wp2_with fail
  (with_reducible refine CA.out.mono ?_);rintro e w1 ⟨v1,rfl,hy,hb1⟩
  have B1:=Lib.hid (Hb0.out.trans (hb1.mono Hb0.out.size))
  have CB:=Lib.hid (CB.out w1 B1.out)
  obtain ⟨Ay,cy,rfl,hcy,_⟩:=hy.rd
  have hyr:=hy.rdbf
  rw [h3] at hcy ⊢
  have hys:=hy.addr_ob
  have H2a:=Lib.hid (H2v.out.below hb1)
  have hs1:=hb1.size
  have Hlt:=Lib.hid H2v.out.lt
  clear CA hy H2v hb1
  go_wp2_with fail
  (with_reducible refine CB.out.mono ?_);rintro e w2 ⟨v2,rfl,hz,hb2⟩
  have B2:=Lib.hid (B1.out.trans (hb2.mono B1.out.size))
  obtain ⟨Az,cz,rfl,hcz,_⟩:=hz.rd
  have hzr:=hz.rdbf
  rw [h4] at hcz ⊢
  have hzs:=hz.addr_ob
  have H2b:=Lib.hid (H2a.out.below hb2)
  have hs2:=hb2.size
  have Ryy:=Lib.hid (show RdBF lo w2 Ay y from (hyr.keep hb2.size fun _ _ hp=>hb2.cell hp).le (by omega))
  have Rzz:=Lib.hid (show RdBF lo w2 Az z from hzr.le (by omega))
  have hlo2:lo ≤ w2.heap.size:=by omega
  have HNy:=Lib.hid (show 0 < y.length→∀ a,Ay=some a→va.ownBlock ≠ some a.block∧vb.ownBlock ≠ some a.block from fun h0 a ha=>by
   have h1:=hys h0 a ha
   exact ⟨fun e=>by have:=(Hlt.out.1 _ e).2;omega,fun e=>by have:=(Hlt.out.2 _ e).2;omega⟩)
  have HNz:=Lib.hid (show 0 < z.length→∀ a,Az=some a→va.ownBlock ≠ some a.block∧vb.ownBlock ≠ some a.block∧a.block < w2.heap.size from fun h0 a ha=>by
   have h1:=hzs h0 a ha
   obtain ⟨b',off,e,hbz,_⟩:=hzr.2 h0
   rw [ha] at e;injection e with e
   exact ⟨fun e=>by have:=(Hlt.out.1 _ e).2;omega,fun e=>by have:=(Hlt.out.2 _ e).2;omega,by rw [e];exact hbz⟩)
  have hlaN:ra.length ≤ 1000000:=by omega
  have hlbN:rb.length ≤ 1000000:=by omega
  clear CB hz H2a hb2 hyr hzr hys hzs B1 Hb0
  have BX:=below1 w2 (.cells #[.slice Ay 32 cy] 35)
  go_wp2_with (first
   |((with_reducible refine (id ?_:wpList _ _ _ (⟨some 59,_,_,_,_,_⟩::_) _ _));refine wpList_two_A rfl _ _ _ rfl Tryz.underlying32 lo _ _ ra rb xs ys rfl (H2b.out.below BX) w2.heap.size _ _ Ay cy y rfl (by rw [h3];exact hp_new _ _ _ rfl) (by omega) (Ryy.out.keep BX.size fun _ _ hp=>BX.cell hp) HNy.out hlaN (by have:=BX.size;omega) fun v3 w3 t3 g3 o3=>?_
     have T3:=Lib.hid t3
     have G3:=Lib.hid (show Below w0.heap.size w0 w3 from ((B2.out.alloc B2.out.size _).grown g3 (by have:=B2.out.size;have:=BX.size;omega) (fun k e=>by have h1:=(Hlt.out.1 k e).1;omega)))
     have Z3:=Lib.hid (show (w2.alloc (.cells #[.slice Ay 32 cy] 35)).heap.size ≤ w3.heap.size from g3.size)
     have BY:=below1 w3 (.cells #[.slice Az 32 cz] 35)
     have Rz3:=Lib.hid (show RdBF lo w3 Az z from rdbf_grown (Rzz.out.keep BX.size fun _ _ hp=>BX.cell hp) g3 (fun h0 a ha=>(HNz.out h0 a ha).1))
     have HN3:=Lib.hid (show 0 < z.length→∀ a,Az=some a→vb.ownBlock ≠ some a.block∧v3.ownBlock ≠ some a.block from fun h0 a ha=>by
      obtain ⟨n1,n2,n3⟩:=HNz.out h0 a ha
      refine ⟨n2,fun e=>?_⟩
      rcases o3 with q | q
      ·rw [q] at e;exact n1 e
      ·rw [q] at e;injection e with e;have:=BX.size;omega)
     clear t3)
   |((with_reducible refine (id ?_:wpList _ _ _ (⟨some 63,_,_,_,_,_⟩::_) _ _));refine wpList_two_A rfl _ _ _ rfl Tryz.underlying32 lo vb v3 rb (ra ++ [y]) ys (xs ++ [Value.slice Ay y.length cy]) rfl (T3.out.swap.below BY) w3.heap.size _ _ Az cz z rfl (by rw [h4];exact hp_new _ _ _ rfl) (by omega) (Rz3.out.keep BY.size fun _ _ hp=>BY.cell hp) HN3.out hlbN (by have:=BY.size;have:=Z3.out;have:=BX.size;omega) fun v4 w4 t4 g4 o4=>?_
     have T4:=Lib.hid t4.swap
     have G4:=Lib.hid (show Below w0.heap.size w0 w4 from ((G3.out.alloc G3.out.size _).grown g4 (by have:=G3.out.size;have:=BY.size;omega) (fun k e=>by have h1:=(Hlt.out.2 k e).1;omega)))
     have Z4:=Lib.hid (show lo ≤ w4.heap.size by have h1:=g4.size;have h2:=BY.size;have h3:=Z3.out;have h4:=BX.size;omega)
     clear t4))
  exact HK.out _ _ _ _ _ _ _ _ _ _ _ _ _ _ _ _ _ _ _ _ _ _ _ _ _ _ _ _ _ _ _ _ _ _ _ _ _ ⟨by omega,by rw [Hsa.out,Hsb.out];exact T4.out,G4.out,Z4.out⟩ (by omega)
 ·have i1:¬ (i:Int) < 4:=by omega
  have Hin:=Lib.hid (show i=4 by omega)
  clear HK h2
  go_wp2_with fail
  exact HX.out _ _ _ _ _ _ _ _ _ _ _ _ _ _ _ _ _ _ _ _ _ _ _ _ _ _ _ _ _ _ _ _ Hin.out
set_option maxRecDepth 100000 in
set_option maxHeartbeats 3200000 in
theorem stR {w0:World} {B0 b bw D d lo:Nat} {H H2:BH} {M N:Bch}  {w:World} (u2 u3 u4 u5 u6 u11 u12 u13 u14 u15 u16 u17 u18 u19 u20 u21 u22 u23 u24 u25 u26 u27 u28 u29 u30 u31 u32 u33 u34 u35 u36 u37 u38 u39 u40 u41 u42 u43 u44 u45 u46 u47 u48 u49 u50 u51 u52 u53 u54 u55 u56 u57 u58 u59 u60 u61 u62 u63 u64 u65 u66 u67 u68 u69 u70 u71 u72 u73 u74 u75 u76 u77 u78 u79 u80 u81 u82 u83 u84 u85 u86 u87 u88 u89 u90 u91 u92 u93 u94 u95 u96 u97 u98 u99 u100 u101 u102 u103 u104 u105 u106 u107 u108 u109 u110:Value) (Q:Exit→Act→World→Prop) (hb:BAt w0 B0 b H M) (hw:BAt w0 B0 bw H2 N) (um:Up M D) (un:Up N D) (hd:d < D) (hD:D ≤ 8) (hlo0:w0.heap.size ≤ lo) (h32:∀ k,k < 4→(secAt (M.D d).now (2 + k)).length=32∧(secAt (N.D d).now (2 + k)).length=32) (hI:(0 ≤ 4∧TwoV lo w (.slice none 0 0) (.slice none 0 0) (logT M d 0) (logT N d 0) [] []∧Below w0.heap.size w0 w∧lo ≤ w.heap.size))
    (hX:∀ (v11 v12 v13 v14 v36 v37 v38 v39 v40 v41 v42 v43 v44 v45 v46 v47 v48 v49 v50 v51 v52 v53 v54 v55 v56 v57 v58 v59 v60 v61 v62 v63:Value) (va:Value) (vb:Value) (i:Nat) (xs:List Value) (ys:List Value) (V:World),(i ≤ 4∧TwoV lo V va vb (logT M d i) (logT N d i) xs ys∧Below w0.heap.size w0 V∧lo ≤ V.heap.size)→(i=4)→Q (.exit 2) ⟨List.toArray ((.pointer (some ⟨b,0,none⟩))::(.pointer (some ⟨bw,0,none⟩))::u2::u3::u4::u5::u6::(.int .i64 (d:Int))::va::vb::(.int .i64 ((i:Nat):Int))::v11::v12::v13::v14::u15::u16::u17::u18::u19::u20::u21::u22::u23::u24::u25::u26::u27::u28::u29::u30::u31::u32::u33::u34::u35::v36::v37::v38::v39::v40::v41::v42::v43::v44::v45::v46::v47::v48::v49::v50::v51::v52::v53::v54::v55::v56::v57::v58::v59::v60::v61::v62::v63::u64::u65::u66::u67::u68::u69::u70::u71::u72::u73::u74::u75::u76::u77::u78::u79::u80::u81::u82::u83::u84::u85::u86::u87::u88::u89::u90::u91::u92::u93::u94::u95::u96::u97::u98::u99::u100::u101::u102::u103::u104::u105::u106::u107::u108::u109::u110::[]),[]⟩ V) :
    Code.wp Tryz.prog (.loop (sub [1,0,1,0,0,1,0,0,1,0,1,0,0] codeST)) Q ⟨List.toArray ((.pointer (some ⟨b,0,none⟩))::(.pointer (some ⟨bw,0,none⟩))::u2::u3::u4::u5::u6::(.int .i64 (d:Int))::(.slice none 0 0)::(.slice none 0 0)::(.int .i64 ((0:Nat):Int))::u11::u12::u13::u14::u15::u16::u17::u18::u19::u20::u21::u22::u23::u24::u25::u26::u27::u28::u29::u30::u31::u32::u33::u34::u35::u36::u37::u38::u39::u40::u41::u42::u43::u44::u45::u46::u47::u48::u49::u50::u51::u52::u53::u54::u55::u56::u57::u58::u59::u60::u61::u62::u63::u64::u65::u66::u67::u68::u69::u70::u71::u72::u73::u74::u75::u76::u77::u78::u79::u80::u81::u82::u83::u84::u85::u86::u87::u88::u89::u90::u91::u92::u93::u94::u95::u96::u97::u98::u99::u100::u101::u102::u103::u104::u105::u106::u107::u108::u109::u110::[]),[]⟩ w:=by
 refine wp_loop_ghost (fun gk a V=>∀ C:Prop,(∀ (u11 u12 u13 u14 u36 u37 u38 u39 u40 u41 u42 u43 u44 u45 u46 u47 u48 u49 u50 u51 u52 u53 u54 u55 u56 u57 u58 u59 u60 u61 u62 u63:Value) (va:Value) (vb:Value) (i:Nat) (xs:List Value) (ys:List Value),gk=4 - i→(i ≤ 4∧TwoV lo V va vb (logT M d i) (logT N d i) xs ys∧Below w0.heap.size w0 V∧lo ≤ V.heap.size)→a=⟨List.toArray ((.pointer (some ⟨b,0,none⟩))::(.pointer (some ⟨bw,0,none⟩))::u2::u3::u4::u5::u6::(.int .i64 (d:Int))::va::vb::(.int .i64 ((i:Nat):Int))::u11::u12::u13::u14::u15::u16::u17::u18::u19::u20::u21::u22::u23::u24::u25::u26::u27::u28::u29::u30::u31::u32::u33::u34::u35::u36::u37::u38::u39::u40::u41::u42::u43::u44::u45::u46::u47::u48::u49::u50::u51::u52::u53::u54::u55::u56::u57::u58::u59::u60::u61::u62::u63::u64::u65::u66::u67::u68::u69::u70::u71::u72::u73::u74::u75::u76::u77::u78::u79::u80::u81::u82::u83::u84::u85::u86::u87::u88::u89::u90::u91::u92::u93::u94::u95::u96::u97::u98::u99::u100::u101::u102::u103::u104::u105::u106::u107::u108::u109::u110::[]),[]⟩→C)→C) (4 - 0) ?_ ?_
 ·intro C hC
  exact hC _ _ _ _ _ _ _ _ _ _ _ _ _ _ _ _ _ _ _ _ _ _ _ _ _ _ _ _ _ _ _ _ ((.slice none 0 0)) ((.slice none 0 0)) (0) ([]) ([]) rfl hI rfl
 ·intro gk a V hI'
  refine hI' _ ?_
  intro u11 u12 u13 u14 u36 u37 u38 u39 u40 u41 u42 u43 u44 u45 u46 u47 u48 u49 u50 u51 u52 u53 u54 u55 u56 u57 u58 u59 u60 u61 u62 u63 va vb i xs ys hk hinv ha
  subst ha
  subst hk
  refine stRb _ _ _ _ _ _ _ _ _ _ _ _ _ _ _ _ _ _ _ _ _ _ _ _ _ _ _ _ _ _ _ _ _ _ _ _ _ _ _ _ _ _ _ _ _ _ _ _ _ _ _ _ _ _ _ _ _ _ _ _ _ _ _ _ _ _ _ _ _ _ _ _ _ _ _ _ _ _ _ _ _ _ _ _ _ _ _ _ _ _ _ _ _ _ _ _ _ _ _ _ _ _ _ _ _ _ _ hb hw um un hd hD hlo0 h32 hinv (fun v11 v12 v13 v14 v36 v37 v38 v39 v40 v41 v42 v43 v44 v45 v46 v47 v48 v49 v50 v51 v52 v53 v54 v55 v56 v57 v58 v59 v60 v61 v62 v63 va2 vb2 xs2 ys2 V2 h2 hm=>?_) (fun v11 v12 v13 v14 v36 v37 v38 v39 v40 v41 v42 v43 v44 v45 v46 v47 v48 v49 v50 v51 v52 v53 v54 v55 v56 v57 v58 v59 v60 v61 v62 v63 hx=>hX v11 v12 v13 v14 v36 v37 v38 v39 v40 v41 v42 v43 v44 v45 v46 v47 v48 v49 v50 v51 v52 v53 v54 v55 v56 v57 v58 v59 v60 v61 v62 v63 va vb i xs ys V hinv hx)
  refine ⟨_,hm,fun C hC=>?_⟩
  exact hC v11 v12 v13 v14 v36 v37 v38 v39 v40 v41 v42 v43 v44 v45 v46 v47 v48 v49 v50 v51 v52 v53 v54 v55 v56 v57 v58 v59 v60 v61 v62 v63 (va2) (vb2) ((i + 1)) (xs2) (ys2) rfl h2 rfl
set_option maxRecDepth 100000 in
set_option maxHeartbeats 3200000 in
theorem stFb {w0 w1:World} {gp:Nat} {Ai Ar:Option Addr} {li its:List It} {ci cr:Nat} {s:Int} {f0:Bool} {f:Bool} {j:Nat} {w:World} (u0 u1 u2 u3 u4 u5 u6 u7 u8 u9 u10 u11 u12 u13 u14 u15 u17 u18 u19 u20 u22 u23 u24 u25 u26 u27 u28 u29 u30 u31 u32 u33 u34 u35 u36 u37 u38 u39 u40 u41 u42 u43 u44 u45 u46 u47 u48 u49 u50 u51 u52 u53 u54 u55 u56 u57 u58 u59 u60 u61 u62 u63 u64 u65 u66 u67 u68 u69 u70 u71 u72 u73 u74 u75 u76 u77 u78 u79 u80 u81 u82 u83 u84 u85 u86 u87 u88 u89 u90 u91 u92 u93 u97 u98 u99 u100 u101 u102 u103 u104 u105 u106 u107 u108 u109 u110:Value) (K:Act→World→Prop) (Q0:Exit→Act→World→Prop) (hi:RdI w1 w1.heap.size Ai li) (hr:RdIc w0 w0.heap.size Ar its) (hrc:its.length ≤ cr) (hl:its.length ≤ 1000) (hbw:Below w0.heap.size w0 w1) (hc0:w0.cell? ⟨gp,0,none⟩=some (.int .i64 s)) (hc1:w0.cell? ⟨gp,1,none⟩=some (.slice Ar its.length cr)) (hI:(j ≤ 1∧(j=0→f=f0)∧(j=1→f=(f0 || decide (li=its)))∧Below w1.heap.size w1 w))
    (hK:∀ (v23 v97 v98 v99 v100 v101 v102 v103 v104 v105 v106 v107 v108:Value) (f2:Bool) (V:World),((j + 1) ≤ 1∧((j + 1)=0→f2=f0)∧((j + 1)=1→f2=(f0 || decide (li=its)))∧Below w1.heap.size w1 V)→1 - (j + 1) < 1 - j→K ⟨List.toArray (u0::u1::u2::u3::u4::u5::u6::u7::u8::u9::u10::u11::u12::u13::u14::u15::(.slice Ai li.length ci)::u17::u18::u19::u20::(.bool f2)::u22::v23::u24::u25::u26::u27::u28::u29::u30::u31::u32::u33::u34::u35::u36::u37::u38::u39::u40::u41::u42::u43::u44::u45::u46::u47::u48::u49::u50::u51::u52::u53::u54::u55::u56::u57::u58::u59::u60::u61::u62::u63::u64::u65::u66::u67::u68::u69::u70::u71::u72::u73::u74::u75::u76::u77::u78::u79::u80::u81::u82::u83::u84::u85::u86::u87::u88::u89::u90::u91::u92::u93::(.slice (some ⟨gp,0,none⟩) 1 1)::(.int .i64 1)::(.int .i64 (((j + 1):Nat):Int))::v97::v98::v99::v100::v101::v102::v103::v104::v105::v106::v107::v108::u109::u110::[]),[]⟩ V)
    (hX:∀ (v23 v97 v98 v99 v100 v101 v102 v103 v104 v105 v106 v107 v108:Value),(j=1)→Q0 (.exit 4) ⟨List.toArray (u0::u1::u2::u3::u4::u5::u6::u7::u8::u9::u10::u11::u12::u13::u14::u15::(.slice Ai li.length ci)::u17::u18::u19::u20::(.bool f)::u22::v23::u24::u25::u26::u27::u28::u29::u30::u31::u32::u33::u34::u35::u36::u37::u38::u39::u40::u41::u42::u43::u44::u45::u46::u47::u48::u49::u50::u51::u52::u53::u54::u55::u56::u57::u58::u59::u60::u61::u62::u63::u64::u65::u66::u67::u68::u69::u70::u71::u72::u73::u74::u75::u76::u77::u78::u79::u80::u81::u82::u83::u84::u85::u86::u87::u88::u89::u90::u91::u92::u93::(.slice (some ⟨gp,0,none⟩) 1 1)::(.int .i64 1)::(.int .i64 ((j:Nat):Int))::v97::v98::v99::v100::v101::v102::v103::v104::v105::v106::v107::v108::u109::u110::[]),[]⟩ w) :
    Code.wp Tryz.prog (sub [1,0,1,0,0,1,0,0,1,1,1,1,1,1,0,1,0,0] codeST) (Exit.then K Q0) ⟨List.toArray (u0::u1::u2::u3::u4::u5::u6::u7::u8::u9::u10::u11::u12::u13::u14::u15::(.slice Ai li.length ci)::u17::u18::u19::u20::(.bool f)::u22::u23::u24::u25::u26::u27::u28::u29::u30::u31::u32::u33::u34::u35::u36::u37::u38::u39::u40::u41::u42::u43::u44::u45::u46::u47::u48::u49::u50::u51::u52::u53::u54::u55::u56::u57::u58::u59::u60::u61::u62::u63::u64::u65::u66::u67::u68::u69::u70::u71::u72::u73::u74::u75::u76::u77::u78::u79::u80::u81::u82::u83::u84::u85::u86::u87::u88::u89::u90::u91::u92::u93::(.slice (some ⟨gp,0,none⟩) 1 1)::(.int .i64 1)::(.int .i64 ((j:Nat):Int))::u97::u98::u99::u100::u101::u102::u103::u104::u105::u106::u107::u108::u109::u110::[]),[]⟩ w:=by
 have HK:=Lib.hid hK
 have HX:=Lib.hid hX
 clear hK hX
 conv=>arg 2;whnf
 obtain ⟨hj,h0,h1,hb1⟩:=hI
 by_cases hlt:j < 1
 ·obtain rfl:j=0:=by omega
  obtain rfl:=h0 rfl
  have hb:=hbw.trans (hb1.mono hbw.size)
  have hgl:=World.block_lt_of_cell? _ _ hc0
  have c0:=(hb.cell (p:=⟨gp,0,none⟩) hgl).trans hc0
  have c1:=(hb.cell (p:=⟨gp,1,none⟩) hgl).trans hc1
  have Hb1:=Lib.hid hb1
  have B2:=below1 w (.cells #[.int .i64 s,.slice Ar its.length cr] 43)
  have CR:=Lib.hid (refRecs_any Ar its.length cr its (w.alloc (.cells #[.int .i64 s,.slice Ar its.length cr] 43)) rfl hl ((hr.later hb).later B2))
  have CAl:=Lib.hid (fun (V:World) (hV:Below w1.heap.size w1 V) (A:Option Addr) (c:Nat) (h:RdI V V.heap.size A its)=>lgAlike_any Ai A li.length its.length ci c li its V rfl rfl (hi.later hV) h)
  have Hb2:=Lib.hid (hb1.alloc hb1.size (.cells #[.int .i64 s,.slice Ar its.length cr] 43))
  have i1:((0:Nat):Int) < 1:=by decide
  clear HX hi hr hb hb1 h0 h1
  cases f with
  | true =>
    go_wp2_with fail
    exact HK.out _ _ _ _ _ _ _ _ _ _ _ _ _ true _ ⟨by omega,fun e=>absurd e (by omega),fun _=>rfl,Hb2.out⟩ (by omega)
  | false =>
    obtain ⟨res,hres⟩:∃ res,decide (li=its)=res:=⟨_,rfl⟩
    rw [hres] at CAl
    have Hres:=Lib.hid hres
    clear hres
    go_wp2_with (first
     |(go_at_call 59
       (with_reducible refine CR.out.mono ?_)
       rintro e w3 ⟨v3,rfl,ho3,hb3⟩
       obtain ⟨A3,c3,rfl,hc3,hr3⟩:=ho3.rd
       have B3:=Lib.hid (Hb2.out.trans (hb3.mono Hb2.out.size))
       have CB:=Lib.hid (CAl.out w3 B3.out A3 c3 hr3)
       clear ho3 hb3 hr3)
     |(go_at_call 58
       (with_reducible refine CB.out.mono ?_)
       rintro e w4 ⟨rfl,q4,rfl⟩
       have B4:=Lib.hid (B3.out.trans ((belowN _ _ q4).mono B3.out.size))))
    exact HK.out _ _ _ _ _ _ _ _ _ _ _ _ _ res _ ⟨by omega,fun e=>absurd e (by omega),fun _=>by rw [← Hres.out];rfl,B4.out⟩ (by omega)
 ·have i1:¬ ((j:Nat):Int) < 1:=by omega
  have Hin:=Lib.hid (show j=1 by omega)
  clear HK
  go_wp2_with fail
  exact HX.out _ _ _ _ _ _ _ _ _ _ _ _ _ Hin.out
set_option maxRecDepth 100000 in
set_option maxHeartbeats 3200000 in
theorem stF {w0 w1:World} {gp:Nat} {Ai Ar:Option Addr} {li its:List It} {ci cr:Nat} {s:Int} {f0:Bool} {f0:Bool} {w:World} (u0 u1 u2 u3 u4 u5 u6 u7 u8 u9 u10 u11 u12 u13 u14 u15 u17 u18 u19 u20 u22 u23 u24 u25 u26 u27 u28 u29 u30 u31 u32 u33 u34 u35 u36 u37 u38 u39 u40 u41 u42 u43 u44 u45 u46 u47 u48 u49 u50 u51 u52 u53 u54 u55 u56 u57 u58 u59 u60 u61 u62 u63 u64 u65 u66 u67 u68 u69 u70 u71 u72 u73 u74 u75 u76 u77 u78 u79 u80 u81 u82 u83 u84 u85 u86 u87 u88 u89 u90 u91 u92 u93 u97 u98 u99 u100 u101 u102 u103 u104 u105 u106 u107 u108 u109 u110:Value) (Q:Exit→Act→World→Prop) (hi:RdI w1 w1.heap.size Ai li) (hr:RdIc w0 w0.heap.size Ar its) (hrc:its.length ≤ cr) (hl:its.length ≤ 1000) (hbw:Below w0.heap.size w0 w1) (hc0:w0.cell? ⟨gp,0,none⟩=some (.int .i64 s)) (hc1:w0.cell? ⟨gp,1,none⟩=some (.slice Ar its.length cr)) (hI:(0 ≤ 1∧(0=0→f0=f0)∧(0=1→f0=(f0 || decide (li=its)))∧Below w1.heap.size w1 w))
    (hX:∀ (v23 v97 v98 v99 v100 v101 v102 v103 v104 v105 v106 v107 v108:Value) (f:Bool) (j:Nat) (V:World),(j ≤ 1∧(j=0→f=f0)∧(j=1→f=(f0 || decide (li=its)))∧Below w1.heap.size w1 V)→(j=1)→Q (.exit 4) ⟨List.toArray (u0::u1::u2::u3::u4::u5::u6::u7::u8::u9::u10::u11::u12::u13::u14::u15::(.slice Ai li.length ci)::u17::u18::u19::u20::(.bool f)::u22::v23::u24::u25::u26::u27::u28::u29::u30::u31::u32::u33::u34::u35::u36::u37::u38::u39::u40::u41::u42::u43::u44::u45::u46::u47::u48::u49::u50::u51::u52::u53::u54::u55::u56::u57::u58::u59::u60::u61::u62::u63::u64::u65::u66::u67::u68::u69::u70::u71::u72::u73::u74::u75::u76::u77::u78::u79::u80::u81::u82::u83::u84::u85::u86::u87::u88::u89::u90::u91::u92::u93::(.slice (some ⟨gp,0,none⟩) 1 1)::(.int .i64 1)::(.int .i64 ((j:Nat):Int))::v97::v98::v99::v100::v101::v102::v103::v104::v105::v106::v107::v108::u109::u110::[]),[]⟩ V) :
    Code.wp Tryz.prog (.loop (sub [1,0,1,0,0,1,0,0,1,1,1,1,1,1,0,1,0,0] codeST)) Q ⟨List.toArray (u0::u1::u2::u3::u4::u5::u6::u7::u8::u9::u10::u11::u12::u13::u14::u15::(.slice Ai li.length ci)::u17::u18::u19::u20::(.bool f0)::u22::u23::u24::u25::u26::u27::u28::u29::u30::u31::u32::u33::u34::u35::u36::u37::u38::u39::u40::u41::u42::u43::u44::u45::u46::u47::u48::u49::u50::u51::u52::u53::u54::u55::u56::u57::u58::u59::u60::u61::u62::u63::u64::u65::u66::u67::u68::u69::u70::u71::u72::u73::u74::u75::u76::u77::u78::u79::u80::u81::u82::u83::u84::u85::u86::u87::u88::u89::u90::u91::u92::u93::(.slice (some ⟨gp,0,none⟩) 1 1)::(.int .i64 1)::(.int .i64 ((0:Nat):Int))::u97::u98::u99::u100::u101::u102::u103::u104::u105::u106::u107::u108::u109::u110::[]),[]⟩ w:=by
 refine wp_loop_ghost (fun gk a V=>∀ C:Prop,(∀ (u23 u97 u98 u99 u100 u101 u102 u103 u104 u105 u106 u107 u108:Value) (f:Bool) (j:Nat),gk=1 - j→(j ≤ 1∧(j=0→f=f0)∧(j=1→f=(f0 || decide (li=its)))∧Below w1.heap.size w1 V)→a=⟨List.toArray (u0::u1::u2::u3::u4::u5::u6::u7::u8::u9::u10::u11::u12::u13::u14::u15::(.slice Ai li.length ci)::u17::u18::u19::u20::(.bool f)::u22::u23::u24::u25::u26::u27::u28::u29::u30::u31::u32::u33::u34::u35::u36::u37::u38::u39::u40::u41::u42::u43::u44::u45::u46::u47::u48::u49::u50::u51::u52::u53::u54::u55::u56::u57::u58::u59::u60::u61::u62::u63::u64::u65::u66::u67::u68::u69::u70::u71::u72::u73::u74::u75::u76::u77::u78::u79::u80::u81::u82::u83::u84::u85::u86::u87::u88::u89::u90::u91::u92::u93::(.slice (some ⟨gp,0,none⟩) 1 1)::(.int .i64 1)::(.int .i64 ((j:Nat):Int))::u97::u98::u99::u100::u101::u102::u103::u104::u105::u106::u107::u108::u109::u110::[]),[]⟩→C)→C) (1 - 0) ?_ ?_
 ·intro C hC
  exact hC _ _ _ _ _ _ _ _ _ _ _ _ _ (f0) (0) rfl hI rfl
 ·intro gk a V hI'
  refine hI' _ ?_
  intro u23 u97 u98 u99 u100 u101 u102 u103 u104 u105 u106 u107 u108 f j hk hinv ha
  subst ha
  subst hk
  refine stFb _ _ _ _ _ _ _ _ _ _ _ _ _ _ _ _ _ _ _ _ _ _ _ _ _ _ _ _ _ _ _ _ _ _ _ _ _ _ _ _ _ _ _ _ _ _ _ _ _ _ _ _ _ _ _ _ _ _ _ _ _ _ _ _ _ _ _ _ _ _ _ _ _ _ _ _ _ _ _ _ _ _ _ _ _ _ _ _ _ _ _ _ _ _ _ _ _ _ _ _ _ _ _ _ _ _ _ _ hi hr hrc hl hbw hc0 hc1 hinv (fun v23 v97 v98 v99 v100 v101 v102 v103 v104 v105 v106 v107 v108 f2 V2 h2 hm=>?_) (fun v23 v97 v98 v99 v100 v101 v102 v103 v104 v105 v106 v107 v108 hx=>hX v23 v97 v98 v99 v100 v101 v102 v103 v104 v105 v106 v107 v108 f j V hinv hx)
  refine ⟨_,hm,fun C hC=>?_⟩
  exact hC v23 v97 v98 v99 v100 v101 v102 v103 v104 v105 v106 v107 v108 (f2) ((j + 1)) rfl h2 rfl
set_option maxRecDepth 100000 in
set_option maxHeartbeats 3200000 in
theorem strange_any (W w:World) (b bw D gp:Nat) (H H2:BH) (M N:Bch) (hb:BAt w W.heap.size b H M) (hw:BAt w W.heap.size bw H2 N) (um:Up M D) (un:Up N D) (hD:D ≤ 8) (s:Int) (its:List It) (Ar:Option Addr) (cr:Nat) (hr:RdIc w w.heap.size Ar its) (hrc:its.length ≤ cr) (hl:its.length ≤ 1000)
    (hc0:w.cell? ⟨gp,0,none⟩=some (.int .i64 s)) (hc1:w.cell? ⟨gp,1,none⟩=some (.slice Ar its.length cr)) :
    Calls Tryz.prog 28 #[.pointer (some ⟨b,0,none⟩),.pointer (some ⟨bw,0,none⟩),.slice (some ⟨gp,0,none⟩) 1 1] w (StrP w D M N its):=by
 have CLa:=Lib.hid (fun V (hV:Below w.heap.size w V)=>bch_len_any W.heap.size b H M V (hb.below hV))
 have CLb:=Lib.hid (fun V (hV:Below w.heap.size w V)=>bch_len_any W.heap.size bw H2 N V (hw.below hV))
 rw [um.n] at CLa
 rw [un.n] at CLb
 unfold ptr at CLa CLb
 have H32:=Lib.hid (show ∀ d,d < D→∀ k,k < 4→(secAt (M.D d).now (2 + k)).length=32∧(secAt (N.D d).now (2 + k)).length=32 from fun d hd k hk=>⟨secAt_len (by rw [(hb.dsk d (by rw [um.n];exact hd)).ok.now];omega),secAt_len (by rw [(hw.dsk d (by rw [un.n];exact hd)).ok.now];omega)⟩)
 have Hb:=Lib.hid hb
 have Hw:=Lib.hid hw
 have Hr:=Lib.hid hr
 have Hc0:=Lib.hid hc0
 have Hc1:=Lib.hid hc1
 clear hb hw hr hc0 hc1
 go_enter Tryz.func28,Tryz.ntmps28
 go_wp2
 go_loopw [7] (fun i wr=>∃ d:Nat,d ≤ D∧i=.int .i64 d∧(∀ j,j < d→Fine M N its j)∧Below w.heap.size w wr) (fun i _=>D - (intOf i).toNat)
 case atStart=>exact ⟨0,Nat.zero_le _,rfl,fun j hj=>absurd hj (Nat.not_lt_zero _),Below.refl _ _⟩
 case round =>
  obtain ⟨d,hd,rfl,hall,hbr⟩:=hrel
  have Hall:=Lib.hid hall
  have Hbr:=Lib.hid hbr
  have i0:(0:Int) ≤ (d:Int):=by omega
  have CL1:=Lib.hid (CLa.out wr hbr)
  have CL2:=Lib.hid (CLb.out wr hbr)
  have hws:=hbr.size
  clear hall hbr
  by_cases hlt:d < D
  ·have i1:(d:Int) < (D:Int):=by omega
   go_upto_block 2 with (first
    |(go_at_call 45;(with_reducible refine CL1.out.mono ?_);rintro e w2 ⟨rfl,h2⟩;obtain rfl:wr=w2:=h2.symm)
    |(go_at_call 45;(with_reducible refine CL2.out.mono ?_);rintro e w2 ⟨rfl,h2⟩;obtain rfl:wr=w2:=h2.symm))
   refine wp_block ?_
   refine stR _ _ _ _ _ _ _ _ _ _ _ _ _ _ _ _ _ _ _ _ _ _ _ _ _ _ _ _ _ _ _ _ _ _ _ _ _ _ _ _ _ _ _ _ _ _ _ _ _ _ _ _ _ _ _ _ _ _ _ _ _ _ _ _ _ _ _ _ _ _ _ _ _ _ _ _ _ _ _ _ _ _ _ _ _ _ _ _ _ _ _ _ _ _ _ _ _ _ _ _ _ _ _ _ _ _ (Hb.out.below Hbr.out) (Hw.out.below Hbr.out) um un hlt hD (Nat.le_refl _) (H32.out d hlt) ⟨Nat.zero_le _,TwoV.nil _ _,Below.refl _ _,Nat.le_refl _⟩ (fun v11 v12 v13 v14 v36 v37 v38 v39 v40 v41 v42 v43 v44 v45 v46 v47 v48 v49 v50 v51 v52 v53 v54 v55 v56 v57 v58 v59 v60 v61 v62 v63 va vb i xs ys V1 hI hx=>?_)
   obtain ⟨_,t1,hb1,_⟩:=hI
   rw [hx] at t1
   clear hx
   have B1:=Lib.hid (Hbr.out.trans (hb1.mono Hbr.out.size))
   have hla:=logT_len M d 4
   have hlb:=logT_len N d 4
   obtain ⟨A1,c1,rfl,hc1',r1⟩:=t1.rdA (by omega)
   obtain ⟨A2,c2,rfl,hc2',r2⟩:=t1.swap.rdA (by omega)
   rw [hla] at hc1' ⊢
   rw [hlb] at hc2' ⊢
   rw [logT_four] at r1 r2
   have CD1:=Lib.hid (refDecRec_any A1 4 c1 (logR (M.D d)) V1 (logR_len _) r1)
   have CD2:=Lib.hid (fun V (hV:Below V1.heap.size V1 V)=>refDecRec_any A2 4 c2 (logR (N.D d)) V (logR_len _) ((r2.below hV (Nat.le_refl _)).more hV.size))
   have HFn:=Lib.hid (show (rcO (logR (M.D d))=true→rcL (logR (M.D d))=[]∨rcL (logR (M.D d))=its∨(rcO (logR (N.D d))=true∧rcL (logR (M.D d))=rcL (logR (N.D d))))→∀ j,j < d + 1→Fine M N its j from fun q j hj=>by
    by_cases e:j=d
    ·subst e;exact q
    ·exact Hall.out j (by omega))
   generalize rcS (logR (M.D d))=s1 at CD1
   generalize rcL (logR (M.D d))=l1 at CD1 HFn
   generalize rcO (logR (M.D d))=o1 at CD1 HFn
   generalize rcS (logR (N.D d))=s2 at CD2
   generalize rcL (logR (N.D d))=l2 at CD2 HFn
   generalize rcO (logR (N.D d))=o2 at CD2 HFn
   clear t1 r1 r2 hla hlb hb1
   go_wp2_with fail
   (with_reducible refine CD1.out.mono ?_);rintro e w3 ⟨v3,rfl,ho3,hb3⟩
   obtain ⟨A3,c3,rfl,hc3,hr3⟩:=ho3.rd
   have B3:=Lib.hid (B1.out.trans (hb3.mono B1.out.size))
   have CD2:=Lib.hid (CD2.out w3 hb3)
   have Hr3:=Lib.hid hr3
   clear ho3 hb3 hr3 CD1
   by_cases hsk:o1=true∧0 < l1.length
   ·obtain ⟨rfl,hl0⟩:=hsk
    have ne0:((l1.length:Int) == 0)=false:=by rw [beq_eq_false_iff_ne];omega
    go_wp2_with fail
    (with_reducible refine CD2.out.mono ?_);rintro e w4 ⟨v4,rfl,ho4,hb4⟩
    obtain ⟨A4,c4,rfl,hc4,hr4⟩:=ho4.rd
    have B4:=Lib.hid (B3.out.trans (hb4.mono B3.out.size))
    have R4:=Lib.hid (Hr3.out.later hb4)
    have CAl:=lgAlike_any A3 A4 l1.length l2.length c3 c4 l1 l2 w4 rfl rfl R4.out hr4
    obtain ⟨res,hres⟩:∃ res,decide (l1=l2)=res:=⟨_,rfl⟩
    rw [hres] at CAl
    have CAl:=Lib.hid CAl
    have Hres:=Lib.hid hres
    clear ho4 hb4 hr4 CD2 hres
    cases o2 with
    | false =>
      go_upto_block 4 with fail
      refine wp_block ?_
      refine stF _ _ _ _ _ _ _ _ _ _ _ _ _ _ _ _ _ _ _ _ _ _ _ _ _ _ _ _ _ _ _ _ _ _ _ _ _ _ _ _ _ _ _ _ _ _ _ _ _ _ _ _ _ _ _ _ _ _ _ _ _ _ _ _ _ _ _ _ _ _ _ _ _ _ _ _ _ _ _ _ _ _ _ _ _ _ _ _ _ _ _ _ _ _ _ _ _ _ _ _ _ _ _ _ _ _ _ R4.out Hr.out hrc hl B4.out Hc0.out Hc1.out (f0:=false) ⟨Nat.zero_le _,fun _=>rfl,fun e=>absurd e (by omega),Below.refl _ _⟩ (fun v23 v97 v98 v99 v100 v101 v102 v103 v104 v105 v106 v107 v108 f j V6 hI hx=>?_)
      obtain ⟨_,_,hf,hb6⟩:=hI
      have B6:=Lib.hid (Below.trans B4.out (hb6.mono (Below.size B4.out)))
      have hf:=hf hx
      clear hb6 hx CAl
      cases f with
      | false =>
        clear hf
        go_wp2
        go_ret
        exact strP_yes rfl B6.out
      | true =>
        have HF:=Lib.hid (HFn.out fun _=>.inr (.inl (by simpa using hf)))
        clear hf HFn
        go_wp2
        go_roundw
        case rel=>exact ⟨d + 1,by omega,by go_num,HF.out,B6.out⟩
        case measure=>simp [intOf];omega
    | true =>
      by_cases hs:s1=s2
      ·have es:(s1 == s2)=true:=by rw [hs];exact beq_self_eq_true _
       go_upto_block 4 with (go_at_call 58;(with_reducible refine CAl.out.mono ?_);rintro e w5 ⟨rfl,q5,rfl⟩)
       refine wp_block ?_
       refine stF _ _ _ _ _ _ _ _ _ _ _ _ _ _ _ _ _ _ _ _ _ _ _ _ _ _ _ _ _ _ _ _ _ _ _ _ _ _ _ _ _ _ _ _ _ _ _ _ _ _ _ _ _ _ _ _ _ _ _ _ _ _ _ _ _ _ _ _ _ _ _ _ _ _ _ _ _ _ _ _ _ _ _ _ _ _ _ _ _ _ _ _ _ _ _ _ _ _ _ _ _ _ _ _ _ _ _ (R4.out.later (belowN _ _ q5)) Hr.out hrc hl (B4.out.trans ((belowN _ _ q5).mono B4.out.size)) Hc0.out Hc1.out (f0:=res) ⟨Nat.zero_le _,fun _=>rfl,fun e=>absurd e (by omega),Below.refl _ _⟩ (fun v23 v97 v98 v99 v100 v101 v102 v103 v104 v105 v106 v107 v108 f j V6 hI hx=>?_)
       obtain ⟨_,_,hf,hb6⟩:=hI
       have B6:=Lib.hid (Below.trans (B4.out.trans ((belowN _ _ q5).mono B4.out.size)) (hb6.mono (Below.size (B4.out.trans ((belowN _ _ q5).mono B4.out.size)))))
       have hf:=hf hx
       clear hb6 hx CAl
       cases f with
       | false =>
         clear hf
         go_wp2
         go_ret
         exact strP_yes rfl B6.out
       | true =>
         have HF:=Lib.hid (HFn.out fun _=>by
          cases res with
          | true=>exact .inr (.inr ⟨by simp,of_decide_eq_true Hres.out⟩)
          | false=>exact .inr (.inl (by simpa using hf)))
         clear hf HFn
         go_wp2
         go_roundw
         case rel=>exact ⟨d + 1,by omega,by go_num,HF.out,B6.out⟩
         case measure=>simp [intOf];omega
      ·have es:(s1 == s2)=false:=by rw [beq_eq_false_iff_ne];exact hs
       go_upto_block 4 with fail
       refine wp_block ?_
       refine stF _ _ _ _ _ _ _ _ _ _ _ _ _ _ _ _ _ _ _ _ _ _ _ _ _ _ _ _ _ _ _ _ _ _ _ _ _ _ _ _ _ _ _ _ _ _ _ _ _ _ _ _ _ _ _ _ _ _ _ _ _ _ _ _ _ _ _ _ _ _ _ _ _ _ _ _ _ _ _ _ _ _ _ _ _ _ _ _ _ _ _ _ _ _ _ _ _ _ _ _ _ _ _ _ _ _ _ R4.out Hr.out hrc hl B4.out Hc0.out Hc1.out (f0:=false) ⟨Nat.zero_le _,fun _=>rfl,fun e=>absurd e (by omega),Below.refl _ _⟩ (fun v23 v97 v98 v99 v100 v101 v102 v103 v104 v105 v106 v107 v108 f j V6 hI hx=>?_)
       obtain ⟨_,_,hf,hb6⟩:=hI
       have B6:=Lib.hid (Below.trans B4.out (hb6.mono (Below.size B4.out)))
       have hf:=hf hx
       clear hb6 hx CAl
       cases f with
       | false =>
         clear hf
         go_wp2
         go_ret
         exact strP_yes rfl B6.out
       | true =>
         have HF:=Lib.hid (HFn.out fun _=>.inr (.inl (by simpa using hf)))
         clear hf HFn
         go_wp2
         go_roundw
         case rel=>exact ⟨d + 1,by omega,by go_num,HF.out,B6.out⟩
         case measure=>simp [intOf];omega
   ·have HF:=Lib.hid (HFn.out fun e=>.inl (by
      have:¬ 0 < l1.length:=fun q=>hsk ⟨e,q⟩
      exact List.eq_nil_of_length_eq_zero (by omega)))
    cases o1 with
    | false =>
      clear hsk CD2
      go_wp2_with fail
      go_roundw
      case rel=>exact ⟨d + 1,by omega,by go_num,HF.out,B3.out⟩
      case measure=>simp [intOf];omega
    | true =>
      have e0:((l1.length:Int) == 0)=true:=by
       have:¬ 0 < l1.length:=fun q=>hsk ⟨rfl,q⟩
       rw [beq_iff_eq];omega
      clear hsk CD2
      go_wp2_with fail
      go_roundw
      case rel=>exact ⟨d + 1,by omega,by go_num,HF.out,B3.out⟩
      case measure=>simp [intOf];omega
  ·have i1:¬ (d:Int) < (D:Int):=by omega
   go_wp2_with (go_at_call 45;(with_reducible refine CL1.out.mono ?_);rintro e w2 ⟨rfl,h2⟩;obtain rfl:wr=w2:=h2.symm)
   go_ret
   exact strP_no rfl Hbr.out fun j hj=>Hall.out j (by omega)
end Go.Proofs.YtenkkdnepmoihaaGreatDoor
end
